import Derived.WalkKit
import Derived.Below
import Derived.Laws.AppendOwn
import Derived.Deep.QuietTactic
import Derived.BigQuiet
import Derived.Test.YtaekdfknkgmfbaaGreatDoorChecked
import Derived.Laws.OwnMore
import Derived.OwnWalk
import Derived.Laws.MakeOwn
import Derived.Laws.Bits128
import Derived.IntWalk
import Derived.WalkSpells
import Derived.Handy
import Derived.ProofKit
import Derived.OpenShut
import Derived.ShutString
import Derived.Lib.SmallJoins
import Derived.SliceStrings
import Derived.ChangeSlices
import Derived.Laws.IdiomStrings
import Derived.Deep.RegionLaw
import Derived.Deep.RegionHeld3
import Derived.Test.YtaekdfknkgmfbaaGreatDoorM01
import Derived.Test.YtaekdfknkgmfbaaGreatDoorM02
import Derived.Test.YtaekdfknkgmfbaaGreatDoorM03
import Derived.Test.YtaekdfknkgmfbaaGreatDoorM04
import Derived.Test.YtaekdfknkgmfbaaGreatDoorM05
import Derived.Test.YtaekdfknkgmfbaaGreatDoorM06
import Derived.Test.YtaekdfknkgmfbaaGreatDoorM07
import Derived.Test.YtaekdfknkgmfbaaGreatDoorM08
import Derived.Test.YtaekdfknkgmfbaaGreatDoorM09
import Derived.Test.YtaekdfknkgmfbaaGreatDoorM10
import Derived.Test.YtaekdfknkgmfbaaGreatDoorM11
import Derived.Test.YtaekdfknkgmfbaaGreatDoorM12
import Derived.Test.YtaekdfknkgmfbaaGreatDoorM13
import Derived.Test.YtaekdfknkgmfbaaGreatDoorM14
import Derived.Test.YtaekdfknkgmfbaaGreatDoorM15
import Derived.Test.YtaekdfknkgmfbaaGreatDoorM16
import Derived.Test.YtaekdfknkgmfbaaGreatDoorM17
import Derived.Test.YtaekdfknkgmfbaaGreatDoorM18
import Derived.Test.YtaekdfknkgmfbaaGreatDoorM19
import Derived.Test.YtaekdfknkgmfbaaGreatDoorM20
import Derived.Test.YtaekdfknkgmfbaaGreatDoorM21
import Derived.Test.YtaekdfknkgmfbaaGreatDoorM22
import Derived.Test.YtaekdfknkgmfbaaGreatDoorM23
import Derived.Test.YtaekdfknkgmfbaaGreatDoorM24
import Derived.Test.YtaekdfknkgmfbaaGreatDoorM25
import Derived.Test.YtaekdfknkgmfbaaGreatDoorM26
import Derived.Test.YtaekdfknkgmfbaaGreatDoorM27
import Derived.Test.YtaekdfknkgmfbaaGreatDoorM28
import Derived.Test.YtaekdfknkgmfbaaGreatDoorM29
import Derived.Test.YtaekdfknkgmfbaaGreatDoorM30
import Derived.Test.YtaekdfknkgmfbaaGreatDoorM31
import Derived.Test.YtaekdfknkgmfbaaGreatDoorM32
import Derived.Test.YtaekdfknkgmfbaaGreatDoorM33
import Derived.Test.YtaekdfknkgmfbaaGreatDoorM34
import Derived.Test.YtaekdfknkgmfbaaGreatDoorM35
import Derived.Test.YtaekdfknkgmfbaaGreatDoorM36
import Derived.Test.YtaekdfknkgmfbaaGreatDoorM37
import Derived.Test.YtaekdfknkgmfbaaGreatDoorM38
import Derived.Test.YtaekdfknkgmfbaaGreatDoorM39
import Derived.Test.YtaekdfknkgmfbaaGreatDoorM40
import Derived.Test.YtaekdfknkgmfbaaGreatDoorM41
import Derived.Test.YtaekdfknkgmfbaaGreatDoorM42
import Derived.Test.YtaekdfknkgmfbaaGreatDoorM43
import Derived.Test.YtaekdfknkgmfbaaGreatDoorM44
import Derived.Test.YtaekdfknkgmfbaaGreatDoorM45
import Derived.Test.YtaekdfknkgmfbaaGreatDoorM46
import Derived.Test.YtaekdfknkgmfbaaGreatDoorM47
import Derived.Test.YtaekdfknkgmfbaaGreatDoorM48
import Derived.Test.YtaekdfknkgmfbaaGreatDoorM49
import Derived.Test.YtaekdfknkgmfbaaGreatDoorM50
namespace Go.Proofs.YtaekdfknkgmfbaaGreatDoor
open Go.RowKit
set_option linter.unusedVariables false
set_option maxRecDepth 100000
theorem src_of {w : World} {a : Option Addr} {len cap : Nat} {zs : List Int} (h : (a=none/\len=0/\cap=0/\zs = []) \/
    ∃ x,a=some x/\len<=cap/\cap<=maxLen/\zs.length=cap/\(∀ i,i < zs.length->w.cell? (x.add i)=some (.int .u8 (zs.getD i 0)))/\∀ n ∈ zs,(Lit.int .u8 n).wf=true) : Src w w.heap.size a len:=by
  rcases h with ⟨rfl,rfl,rfl,rfl⟩ | ⟨x,rfl,hl,hm,hz,hcell,hwz⟩
  · exact ⟨Nat.zero_le _,fun j hj=>by omega⟩
  · refine ⟨Nat.le_trans hl hm,fun j hj=>?_⟩
    have hc:=hcell j (by omega);obtain ⟨b,off,spot⟩:=x;have hspot : spot=none:=by simpa [Addr.add] using World.cell?_spot (hcell 0 (by omega))
    subst hspot;have e : (⟨b,off,none⟩ : Addr).add j=⟨b,off+j,none⟩:=by unfold Addr.add;split <;> simp_all
    rw [e] at hc
    have hb : b < w.heap.size:=by
      rcases Nat.lt_or_ge b w.heap.size with q | q
      · exact q
      · simp [World.cell?,Array.getElem?_eq_none q] at hc
    have hw:=hwz (zs.getD j 0) (by rw [List.getD_eq_getElem?_getD,List.getElem?_eq_getElem (by omega)];exact List.getElem_mem _);have hx : 0<=zs.getD j 0/\zs.getD j 0<=255:=by simpa [Lit.wf,IntKind.min,IntKind.max,IntKind.signed,IntKind.bits] using hw
    exact ⟨b,off,_,rfl,hb,hc,hx.1,hx.2⟩
end Go.Proofs.YtaekdfknkgmfbaaGreatDoor
namespace Go.Proofs.YtaekdfknkgmfbaaGreatDoor
open Go.ChangeShapes Go.WideShapes Go.ChangeAt Go.RowKit Go.Joins
set_option linter.unusedVariables false
set_option maxRecDepth 100000
theorem open_bytes {H : Type} {enc : TypeId × Value->H} {W : World} {base : Nat} {v : Value} {d : DataW H} {p : List MemPlace} (hv : Value.okWide Tryz.prog W .any base 22 v) (h : DataW.Trod enc Tryz.prog W 0 (fun _=>true) true 22 v d p) :
    ∃ (a : Option Addr) (len cap : Nat),v = .slice a len cap/\Src W W.heap.size a len:=by
  obtain ⟨a,len,cap,rfl⟩:=okWide_slice Tryz.underlying22 hv;obtain ⟨n,hn⟩:=h;refine ⟨a,len,cap,rfl,?_⟩
  rcases open_ints Tryz.underlying22 Tryz.underlying5 (by kernel_rfl) hn with ⟨hcs,_⟩ | ⟨x,l,c,zs,hcs,_,hl,hm,hz,_,hcell,hwz⟩
  · simp [Value.cells] at hcs
    obtain ⟨rfl,rfl,rfl⟩:=hcs;exact src_of (zs:=[]) (.inl ⟨rfl,rfl,rfl,rfl⟩)
  · simp [Value.cells] at hcs
    obtain ⟨rfl,rfl,rfl⟩:=hcs;exact src_of (zs:=zs) (.inr ⟨_,rfl,hl,hm,by simpa using hz,hcell,hwz⟩)
end Go.Proofs.YtaekdfknkgmfbaaGreatDoor
namespace Go.Proofs.YtaekdfknkgmfbaaGreatDoor
open Go.RowKit
set_option linter.unusedVariables false
set_option maxRecDepth 100000
end Go.Proofs.YtaekdfknkgmfbaaGreatDoor
