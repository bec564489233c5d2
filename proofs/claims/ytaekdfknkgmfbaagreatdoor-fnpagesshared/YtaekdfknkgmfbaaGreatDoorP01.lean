import Derived.WalkKit
import Derived.Below
import Derived.Laws.AppendOwn
import Derived.Deep.QuietTactic
import Derived.BigQuiet
import Derived.Test.YtaekdfknkgmfbaaGreatDoorChecked
import Derived.Laws.OwnMore
import Derived.OwnWalk
import Derived.Laws.MakeOwn
import Derived.WalkSpells
import Derived.Laws.Bits128
import Derived.IntWalk
import Derived.Handy
import Derived.Laws.IdiomStrings
import Derived.Deep.RegionLaw
import Derived.ProofKit
import Derived.OpenShut
import Derived.ShutString
import Derived.Lib.SmallJoins
import Derived.SliceStrings
import Derived.ChangeSlices
import Derived.Deep.RegionHeld3
import Derived.LaidEql
import Derived.Stop.Asserts
import Derived.RowKitTokens
import Derived.RangeFuncBox
import Derived.Deep.WholeRow
import Derived.Lib.Strings
import Derived.Shelf.LaysM
import Derived.Shelf.Strconv.Clone
import Derived.Test.YtaekdfknkgmfbaaGreatDoorM01
import Derived.Test.YtaekdfknkgmfbaaGreatDoorM02
import Derived.Test.YtaekdfknkgmfbaaGreatDoorM03
import Derived.Test.YtaekdfknkgmfbaaGreatDoorM04
import Derived.Test.YtaekdfknkgmfbaaGreatDoorM05
import Derived.Test.YtaekdfknkgmfbaaGreatDoorM06
import Derived.Test.YtaekdfknkgmfbaaGreatDoorM07
import Derived.Test.YtaekdfknkgmfbaaGreatDoorM08
import Derived.Test.YtaekdfknkgmfbaaGreatDoorM09
import Derived.Test.YtaekdfknkgmfbaaGreatDoorM10
import Derived.Test.YtaekdfknkgmfbaaGreatDoorM11
import Derived.Test.YtaekdfknkgmfbaaGreatDoorM12
import Derived.Test.YtaekdfknkgmfbaaGreatDoorM13
import Derived.Test.YtaekdfknkgmfbaaGreatDoorM14
import Derived.Test.YtaekdfknkgmfbaaGreatDoorM15
import Derived.Test.YtaekdfknkgmfbaaGreatDoorM16
import Derived.Test.YtaekdfknkgmfbaaGreatDoorM17
import Derived.Test.YtaekdfknkgmfbaaGreatDoorM18
import Derived.Test.YtaekdfknkgmfbaaGreatDoorM19
import Derived.Test.YtaekdfknkgmfbaaGreatDoorM20
import Derived.Test.YtaekdfknkgmfbaaGreatDoorM21
import Derived.Test.YtaekdfknkgmfbaaGreatDoorM22
import Derived.Test.YtaekdfknkgmfbaaGreatDoorM23
import Derived.Test.YtaekdfknkgmfbaaGreatDoorM24
import Derived.Test.YtaekdfknkgmfbaaGreatDoorM25
import Derived.Test.YtaekdfknkgmfbaaGreatDoorM26
import Derived.Test.YtaekdfknkgmfbaaGreatDoorM27
import Derived.Test.YtaekdfknkgmfbaaGreatDoorM28
import Derived.Test.YtaekdfknkgmfbaaGreatDoorM29
import Derived.Test.YtaekdfknkgmfbaaGreatDoorM30
import Derived.Test.YtaekdfknkgmfbaaGreatDoorM31
import Derived.Test.YtaekdfknkgmfbaaGreatDoorM32
import Derived.Test.YtaekdfknkgmfbaaGreatDoorM33
import Derived.Test.YtaekdfknkgmfbaaGreatDoorM34
import Derived.Test.YtaekdfknkgmfbaaGreatDoorM35
import Derived.Test.YtaekdfknkgmfbaaGreatDoorM36
import Derived.Test.YtaekdfknkgmfbaaGreatDoorM37
import Derived.Test.YtaekdfknkgmfbaaGreatDoorM38
import Derived.Test.YtaekdfknkgmfbaaGreatDoorM39
import Derived.Test.YtaekdfknkgmfbaaGreatDoorM40
import Derived.Test.YtaekdfknkgmfbaaGreatDoorM41
import Derived.Test.YtaekdfknkgmfbaaGreatDoorM42
import Derived.Test.YtaekdfknkgmfbaaGreatDoorM43
import Derived.Test.YtaekdfknkgmfbaaGreatDoorM44
import Derived.Test.YtaekdfknkgmfbaaGreatDoorM45
import Derived.Test.YtaekdfknkgmfbaaGreatDoorM46
import Derived.Test.YtaekdfknkgmfbaaGreatDoorM47
import Derived.Test.YtaekdfknkgmfbaaGreatDoorM48
import Derived.Test.YtaekdfknkgmfbaaGreatDoorM49
import Derived.Test.YtaekdfknkgmfbaaGreatDoorM50
import Derived.Test.YtaekdfknkgmfbaaGreatDoorQ01
namespace Go.Proofs.YtaekdfknkgmfbaaGreatDoor
open Go.RowKit
set_option linter.unusedVariables false
set_option maxRecDepth 100000
def alike (nm : ByteArray) (sz : Int) (rs : List (Int × Int × Int)) (ep : Int) (nm' : ByteArray) (sz' : Int) (rs' : List (Int × Int × Int)) (ep' : Int) : Bool :=
  bookOk nm sz rs ep && bookOk nm' sz' rs' ep' && decide (sz=sz') && decide (rs=rs')
theorem src_of {w : World} {a : Option Addr} {len cap : Nat} {zs : List Int} (h : (a=none/\len=0/\cap=0/\zs = []) \/
    ∃ x,a=some x/\len<=cap/\cap<=maxLen/\zs.length=cap/\(∀ i,i < zs.length->w.cell? (x.add i)=some (.int .u8 (zs.getD i 0)))/\∀ n ∈ zs,(Lit.int .u8 n).wf=true) : Src w w.heap.size a len:=by
  rcases h with ⟨rfl,rfl,rfl,rfl⟩ | ⟨x,rfl,hl,hm,hz,hcell,hwz⟩
  · exact ⟨Nat.zero_le _,fun j hj=>by omega⟩
  · refine ⟨Nat.le_trans hl hm,fun j hj=>?_⟩
    have hc:=hcell j (by omega);obtain ⟨b,off,spot⟩:=x;have hspot : spot=none:=by simpa [Addr.add] using World.cell?_spot (hcell 0 (by omega))
    subst hspot;have e : (⟨b,off,none⟩ : Addr).add j=⟨b,off+j,none⟩:=by unfold Addr.add;split <;> simp_all
    rw [e] at hc
    have hb : b < w.heap.size:=by
      rcases Nat.lt_or_ge b w.heap.size with q | q
      · exact q
      · simp [World.cell?,Array.getElem?_eq_none q] at hc
    have hw:=hwz (zs.getD j 0) (by rw [List.getD_eq_getElem?_getD,List.getElem?_eq_getElem (by omega)];exact List.getElem_mem _);have hx : 0<=zs.getD j 0/\zs.getD j 0<=255:=by simpa [Lit.wf,IntKind.min,IntKind.max,IntKind.signed,IntKind.bits] using hw
    exact ⟨b,off,_,rfl,hb,hc,hx.1,hx.2⟩
end Go.Proofs.YtaekdfknkgmfbaaGreatDoor
namespace Go.Proofs.YtaekdfknkgmfbaaGreatDoor
open Go.ChangeShapes Go.WideShapes Go.ChangeAt Go.RowKit Go.Joins
set_option linter.unusedVariables false
set_option maxRecDepth 100000
theorem open_bytes {H : Type} {enc : TypeId × Value->H} {W : World} {base : Nat} {v : Value} {d : DataW H} {p : List MemPlace} (hv : Value.okWide Tryz.prog W .any base 22 v) (h : DataW.Trod enc Tryz.prog W 0 (fun _=>true) true 22 v d p) :
    ∃ (a : Option Addr) (len cap : Nat),v = .slice a len cap/\Src W W.heap.size a len:=by
  obtain ⟨a,len,cap,rfl⟩:=okWide_slice Tryz.underlying22 hv;obtain ⟨n,hn⟩:=h;refine ⟨a,len,cap,rfl,?_⟩
  rcases open_ints Tryz.underlying22 Tryz.underlying5 (by kernel_rfl) hn with ⟨hcs,_⟩ | ⟨x,l,c,zs,hcs,_,hl,hm,hz,_,hcell,hwz⟩
  · simp [Value.cells] at hcs
    obtain ⟨rfl,rfl,rfl⟩:=hcs;exact src_of (zs:=[]) (.inl ⟨rfl,rfl,rfl,rfl⟩)
  · simp [Value.cells] at hcs
    obtain ⟨rfl,rfl,rfl⟩:=hcs;exact src_of (zs:=zs) (.inr ⟨_,rfl,hl,hm,by simpa using hz,hcell,hwz⟩)
end Go.Proofs.YtaekdfknkgmfbaaGreatDoor
namespace Go.Proofs.YtaekdfknkgmfbaaGreatDoor
open Go.RowKit
set_option linter.unusedVariables false
set_option maxRecDepth 100000
theorem find_mem {bs : List Pb} (hs : (bs.map Pb.nm).Pairwise (fun a b=>ltB a b=true)) (b : Pb) (hb : b ∈ bs) : 0<=findP bs b.nm/\bookAt bs (findP bs b.nm)=b:=by
  have h0 : ¬ findP bs b.nm < 0:=fun h=>find_not bs b.nm h b hb rfl
  obtain ⟨i,hi,e,hn⟩:=find_in bs b.nm h0;refine ⟨by omega,?_⟩;rw [e,bookAt_of bs i hi];obtain ⟨j,hj,rfl⟩:=List.getElem_of_mem hb;rcases Nat.lt_trichotomy i j with h | h | h
  · have:=List.pairwise_iff_getElem.1 hs i j (by simpa using hi) (by simpa using hj) h
    simp only [List.getElem_map] at this;rw [hn,ltB_irrefl] at this;cases this
  · subst h;rfl
  · have:=List.pairwise_iff_getElem.1 hs j i (by simpa using hj) (by simpa using hi) h
    simp only [List.getElem_map] at this;rw [hn,ltB_irrefl] at this;cases this
theorem zeros_range (cs : List Int) : zeros cs=(List.range cs.length).countP (fun k=>decide (cs.getD k 0=0)):=by
  have e : cs=(List.range cs.length).map (fun k=>cs.getD k 0):=by
    apply List.ext_getElem (by simp)
    intro k h1 h2;rw [List.getElem_map,List.getElem_range,getD_of cs k h1]
  unfold zeros
  conv=>lhs;rw [e]
  rw [List.countP_map]
  rfl
theorem zeros_le_of (cs cs' : List Int) (hl : cs'.length=cs.length) (h : ∀ k,k < cs.length->cs.getD k 0=0->cs'.getD k 0=0) : zeros cs<=zeros cs':=by
  rw [zeros_range,zeros_range,hl];refine List.countP_mono_left (fun k hk q=>?_);rw [decide_eq_true_eq] at q ⊢;exact h k (List.mem_range.1 hk) q
theorem zeros_eq_of (cs cs' : List Int) (hl : cs'.length=cs.length) (h : ∀ k,k < cs.length->(cs.getD k 0=0 ↔ cs'.getD k 0=0)) : zeros cs'=zeros cs:=by
  have h1:=zeros_le_of cs cs' hl (fun k hk q=>(h k hk).1 q);have h2:=zeros_le_of cs' cs hl.symm (fun k hk q=>(h k (by omega)).2 q)
  omega
theorem zeros_step (cs : List Int) (k : Nat) (h : k < cs.length) : zeros (cs.take (k+1))=zeros (cs.take k)+(if cs.getD k 0=0 then 1 else 0):=by
  rw [zeros,zeros,List.take_succ_eq_append_getElem h,List.countP_append,getD_of cs k h];by_cases e : cs[k]=0 <;> simp [e]
theorem zeros_le (cs : List Int) (k : Nat) : zeros (cs.take k)<=k:=by
  have h1 : zeros (cs.take k)<=(cs.take k).length:=List.countP_le_length;rw [List.length_take] at h1
  omega
set_option maxHeartbeats 800000 in
theorem specSpare_any (v1 v2 : Value) (cs ps : List Int) (w : World) (h1 : Reads w.heap.size w v1 (cs.map (Value.int .i64))) (h2 : Reads w.heap.size w v2 (ps.map (Value.int .i64))) :
    Calls Tryz.prog 25 #[.agg #[v1,v2]] w fun e w'=>e = .returned (.int .i64 (spare cs ps))/\Below w.heap.size w w':=by
  obtain ⟨W0,hW0,k0,d0,z0⟩:=pool_box w v1 v2 26;have r1:=(h1.below d0).mono d0.size;have r2:=(h2.below d0).mono d0.size;have p0:=at_cell k0 0;have p1:=at_cell k0 1;have HW0 : Hid (W0 = _):=hW0;clear hW0 h1 h2
  go_enter Tryz.func25,Tryz.ntmps25
  go_wp2_with fail
  rw [<- HW0.out];clear HW0;refine (specPoolOk_any v1 v2 cs ps _ r1 r2).mono ?_;rintro e w1 ⟨rfl,b1⟩;replace k0:=(b1.block _ (by omega)).trans k0
  have r3:=(r1.below b1)
  replace d0:=bw_call d0 b1;clear p0 p1 r1 r2;cases hok : poolOk cs ps
  · have HV : Hid (spare cs ps = -1):=by simp [Hid,spare,hok]
    go_wp2_with fail
    go_ret;exact ⟨ret_int HV.out.symm,d0⟩
  · have hv : spare cs ps=zeros cs:=by simp [spare,hok]
    have HV : Hid (spare cs ps=zeros cs):=hv;have hb : cs.length<=24:=((poolOk_iff cs ps).1 hok).2.1;obtain ⟨o1,cap1,rfl,m1,c1,-⟩:=r3;have hl : (cs.map (Value.int .i64)).length=cs.length:=by simp
    rw [hl] at k0 ⊢;have C1 : Hid (∀ j u,(cs.map (Value.int .i64))[j]? = some u->∃ g off,o1=some ⟨g,off,none⟩/\g < W0.heap.size/\w1.cell? ⟨g,off+j,none⟩=some u):=c1;have p0:=at_cell k0 0;clear c1 hl m1 hv hok
    go_wp2_with fail
    go_loopw [3,4] (fun n i wr=>∃ k : Nat,k<=cs.length/\i = .int .i64 k/\n = .int .i64 (zeros (cs.take k))/\wr=w1) (fun _ i _=>cs.length - (intOf i).toNat)
    case atStart=>exact ⟨0,Nat.zero_le _,rfl,rfl,rfl⟩
    case round =>
      obtain ⟨k,hk,rfl,rfl,rfl⟩:=hrel;by_cases hlt : k < cs.length
      · obtain ⟨g1,of1,rfl,q1,cc1⟩:=C1.out k _ (getD_some cs k hlt)
        have HZ:=zeros_step cs k hlt;have hzl:=zeros_le cs k;generalize cs.getD k 0=c at cc1 HZ;generalize zeros (cs.take k)=z at HZ hzl ⊢;by_cases hc : c=0
        · rw [if_pos hc] at HZ
          have HZ2 : Hid _:=HZ;subst hc;clear HZ C1
          go_wp2_with fail
          go_roundw
          case rel=>exact ⟨k+1,by omega,by go_num,by rw [HZ2.out];go_num,by trivial⟩
          case measure=>simp [intOf];omega
        · rw [if_neg hc] at HZ
          have HZ2 : Hid _:=HZ;have hc1 : (c == 0)=false:=by simpa using hc
          clear HZ C1
          go_wp2_with fail
          go_roundw
          case rel=>exact ⟨k+1,by omega,by go_num,by rw [HZ2.out];go_num,by trivial⟩
          case measure=>simp [intOf];omega
      · have hfin : cs.take k=cs:=List.take_of_length_le (by omega)
        rw [hfin]
        go_wp2_with fail
        go_ret;exact ⟨ret_int HV.out.symm,d0⟩
end Go.Proofs.YtaekdfknkgmfbaaGreatDoor
namespace Go.Proofs.YtaekdfknkgmfbaaGreatDoor.Fr
open Go.Proofs.YtaekdfknkgmfbaaGreatDoor.Nums
end Go.Proofs.YtaekdfknkgmfbaaGreatDoor.Fr
namespace Go.Proofs.YtaekdfknkgmfbaaGreatDoor
open Go.RowKit
set_option linter.unusedVariables false
set_option maxRecDepth 100000
theorem mem_insert (bs : List Pb) (b : Pb) : b ∈ insertP bs b:=by simp [insertP]
theorem mem_insert_old (bs : List Pb) (b x : Pb) (h : x ∈ bs) : x ∈ insertP bs b:=by
  rw [<- List.take_append_drop (insertAt bs b.nm) bs,List.mem_append] at h;simp only [insertP,List.mem_append,List.mem_singleton];rcases h with h | h
  · exact .inl (.inl h)
  · exact .inr h
theorem copy_law {s : Sf} (h : ShInv s) (o : Oq) (ho : opOk o=true) (hr : refused s.bs o=0) (hk : kOther o.k=true) :
    zeros (doOp s o).1.cs=zeros s.cs/\∃ a b : Pb,bookAt (doOp s o).1.bs (findP (doOp s o).1.bs o.nm)=a/\bookAt (doOp s o).1.bs (findP (doOp s o).1.bs o.ot)=b/\0<=findP (doOp s o).1.bs o.nm/\0<=findP (doOp s o).1.bs o.ot/\a.ok=true/\b.ok=true/\a.sz=b.sz/\a.rs=b.rs/\b.ep=0/\b.fx=decide (o.k=4):=by
  have hinv:=do_inv h o;obtain ⟨r1,r2,r3,-,-⟩:=refused_parts hr;have hk1 : o.k ≠ 1:=fun e=>by rw [e] at hk;exact absurd hk (by decide)
  have hk6 : o.k ≠ 6:=fun e=>by rw [e] at hk;exact absurd hk (by decide)
  obtain ⟨i,hi,hfe,hnm⟩:=find_in s.bs o.nm (by have:=r1 hk1;omega)
  have hd : (doOp s o).1=⟨shareAll s.cs (pagesOf s.bs[i].rs),s.ps,insertP s.bs ⟨o.ot,s.bs[i].sz,s.bs[i].rs,decide (o.k=4),0⟩⟩:=by
    unfold doOp;rw [if_neg (by rw [ho];decide),if_neg (by omega),if_neg hk1,if_neg hk6,if_pos hk,hfe,bookAt_of s.bs i hi]
  rw [hd] at hinv ⊢;obtain ⟨b1,b2,b3,b4,b5⟩:=book_parts (h.oks _ (List.getElem_mem hi))
  have hpm : ∀ p ∈ pagesOf s.bs[i].rs,0<=p/\p ∈ pages s.bs[i].rs:=fun p hp=>by
    unfold pagesOf at hp;rw [if_pos b4,List.mem_filter,decide_eq_true_eq] at hp;exact ⟨hp.2,hp.1⟩
  obtain ⟨c1,c2⟩:=shareAll_ok (pagesOf s.bs[i].rs) h.cells (fun p hp=>⟨(hpm p hp).1,(h.page i hi p (hpm p hp).2 (hpm p hp).1).1⟩) (fun p hp=>(h.page i hi p (hpm p hp).2 (hpm p hp).1).2);refine ⟨zeros_eq_of _ _ c1.c (fun k hk=>?_),?_⟩
  · simp only
    rw [c2 k hk]
    constructor
    · intro h0
      by_cases hz : (pagesOf s.bs[i].rs).count (k : Int)=0
      · omega
      · have hm : (k : Int) ∈ pagesOf s.bs[i].rs:=List.count_pos_iff.1 (by omega)
        have:=(h.page i hi _ (hpm _ hm).2 (hpm _ hm).1).2;rw [Int.toNat_natCast] at this
        omega
    · intro h0
      have:=h.cnt k hk;have:=cntAll_nonneg s.bs (k : Int)
      omega
  · have ma : s.bs[i] ∈ insertP s.bs ⟨o.ot,s.bs[i].sz,s.bs[i].rs,decide (o.k=4),0⟩:=mem_insert_old _ _ _ (List.getElem_mem hi)
    have mb:=mem_insert s.bs ⟨o.ot,s.bs[i].sz,s.bs[i].rs,decide (o.k=4),0⟩;have f1:=find_mem hinv.srt s.bs[i] ma;have f2:=find_mem hinv.srt _ mb;rw [hnm] at f1;exact ⟨s.bs[i],⟨o.ot,s.bs[i].sz,s.bs[i].rs,decide (o.k=4),0⟩,f1.2,f2.2,f1.1,f2.1,h.oks _ (List.getElem_mem hi),hinv.oks _ mb,rfl,rfl,rfl,rfl⟩
theorem drop_zeros {n : Nat} {cs ps : List Int} (h : Cells n cs ps) (k : Nat) (hk : k < n) (h1 : 1<=cs.getD k 0) : zeros cs<=zeros (dropOne (cs,ps) k).1:=by
  obtain ⟨c1,c2⟩:=dropOne_ok h k hk h1;refine zeros_le_of _ _ (by rw [c1.c,h.c]) (fun j hj h0=>?_);rw [c2];by_cases e : k=j
  · subst e;omega
  · rw [if_neg e];exact h0
theorem cut_zeros {s : Sf} (h : ShInv s) (i : Nat) (hi : i < s.bs.length) (n : Nat) (hn : n<=16) : zeros s.cs<=zeros (cutBook s i n).cs:=by
  obtain ⟨c1,c2⟩:=cut_ok h i hi n hn;refine zeros_le_of _ _ c1.c (fun j hj h0=>?_);rw [c2 j hj,h0];have h1:=cnt_le_cs h i hi j hj;unfold Pb.cnt at h1;have h2:=(List.drop_sublist n (pages s.bs[i].rs)).count_le (j : Int);have:=h.cnt j hj;have:=cntAll_nonneg s.bs (j : Int)
  omega
theorem zeros_put (cs : List Int) (k : Nat) (hk : k < cs.length) (v : Int) : (zeros (cs.set k v) : Int)=(zeros cs : Int) - (if cs.getD k 0=0 then 1 else 0)+(if v=0 then 1 else 0):=by
  unfold zeros;rw [List.countP_set hk,getD_of cs k hk];by_cases h1 : cs[k]=0
  · have hp : 1<=cs.countP (fun c=>decide (c=0)):=List.countP_pos_iff.2 ⟨cs[k],List.getElem_mem hk,by rw [h1];decide⟩
    rw [if_pos (by rw [h1];decide),if_pos h1];by_cases h2 : v=0
    · rw [if_pos (by rw [h2];decide),if_pos h2];omega
    · rw [if_neg (by simpa using h2),if_neg h2];omega
  · rw [if_neg (by simpa using h1),if_neg h1]
    by_cases h2 : v=0
    · rw [if_pos (by rw [h2];decide),if_pos h2];omega
    · rw [if_neg (by simpa using h2),if_neg h2];omega
theorem spare_law {s : Sf} (h : ShInv s) (o : Oq) (ho : opOk o=true) (hc : (doOp s o).2.1=0) :
    (o.k=2->(zeros (doOp s o).1.cs : Int)=zeros s.cs\/(zeros (doOp s o).1.cs : Int)=zeros s.cs - 1)/\((o.k=6\/o.k=3\/o.k=7)->zeros s.cs<=zeros (doOp s o).1.cs)/\((o.k=1\/o.k=8\/o.k=9)->zeros (doOp s o).1.cs=zeros s.cs):=by
  obtain ⟨n1,n2,n3,n4,n5,n6⟩:=op_parts ho;have hno : ¬ opOk o=false:=by rw [ho];decide
  have hr : refused s.bs o=0:=by
    by_cases z : refused s.bs o=0
    · exact z
    · unfold doOp at hc
      rw [if_neg hno,if_pos z] at hc;exact absurd hc z
  obtain ⟨r1,r2,r3,r4,r5⟩:=refused_parts hr;by_cases q1 : o.k=1
  · have hd : (doOp s o).1.cs=s.cs:=by unfold doOp;rw [if_neg hno,if_neg (by omega),if_pos q1]
    rw [hd];exact ⟨fun _=>.inl rfl,fun _=>Nat.le_refl _,fun _=>rfl⟩
  obtain ⟨i,hi,hfe,hnm⟩:=find_in s.bs o.nm (by have:=r1 q1;omega);rw [hfe,bookAt_of s.bs i hi] at r4 r5;by_cases q6 : o.k=6
  · have hd : (doOp s o).1.cs=(cutBook s i 0).cs:=by unfold doOp;rw [if_neg hno,if_neg (by omega),if_neg q1,if_pos q6,hfe,Int.toNat_natCast]
    rw [hd];exact ⟨fun z=>by omega,fun _=>cut_zeros h i hi 0 (by omega),fun z=>by omega⟩
  by_cases q5 : kOther o.k=true
  · have : o.k=4\/o.k=5:=by simpa [kOther] using q5
    exact ⟨fun z=>by omega,fun z=>by omega,fun z=>by omega⟩
  have hd : (doOp s o).1=(doKind s o i s.bs[i] (if o.at_ < 16 then (pages s.bs[i].rs).getD o.at_.toNat 0 else -1)).1:=by
    unfold doOp;rw [if_neg hno,if_neg (by omega),if_neg q1,if_neg q6,if_neg q5,hfe,bookAt_of s.bs i hi,Int.toNat_natCast]
  rw [hd]
  have hpg : ∀ p,p=(if o.at_ < 16 then (pages s.bs[i].rs).getD o.at_.toNat 0 else -1)->0<=p->p < s.cs.length/\1<=s.cs.getD p.toNat 0:=fun p hp h0=>by
    by_cases z : o.at_ < 16
    · rw [if_pos z] at hp
      exact h.page i hi p ((mem_getD _ (pages_length _) _).2 ⟨o.at_.toNat,by omega,hp.symm⟩) h0
    · rw [if_neg z] at hp;omega
  generalize (if o.at_ < 16 then (pages s.bs[i].rs).getD o.at_.toNat 0 else -1)=page at hpg ⊢;have hpg:=hpg page rfl;unfold doKind;by_cases q9 : o.k=9
  · rw [if_pos q9];exact ⟨fun _=>.inl rfl,fun _=>Nat.le_refl _,fun _=>rfl⟩
  rw [if_neg q9];by_cases q8 : o.k=8
  · rw [if_pos q8];exact ⟨fun _=>.inl rfl,fun _=>Nat.le_refl _,fun _=>rfl⟩
  rw [if_neg q8];by_cases q7 : o.k=7
  · rw [if_pos q7]
    have hv:=n5 (by rw [q7];decide);exact ⟨fun z=>by omega,fun _=>cut_zeros h i hi _ (by omega),fun z=>by omega⟩
  rw [if_neg q7];by_cases q3 : o.k=3
  · rw [if_pos q3]
    refine ⟨fun z=>by omega,fun _=>?_,fun z=>by omega⟩
    split
    · rename_i h0
      obtain ⟨g1,g2⟩:=hpg h0;obtain ⟨m,rfl⟩:=Int.eq_ofNat_of_zero_le h0;rw [Int.toNat_natCast] at g2;exact drop_zeros h.cells m (by omega) g2
    · exact Nat.le_refl _
  rw [if_neg q3];refine ⟨fun q2=>?_,fun z=>by omega,fun z=>by omega⟩;unfold doWrite
  split
  · exact .inl rfl
  rename_i hnw
  split
  · rename_i hf
    have hfc : s.cs.getD (firstFree s.cs) 0=0:=firstFree_at s.cs hf;have ht : tookC s.cs=s.cs.set (firstFree s.cs) 1:=by unfold tookC;rw [if_pos hf]
    have z1:=zeros_put s.cs (firstFree s.cs) hf 1;rw [if_pos hfc,if_neg (by omega)] at z1;by_cases h0 : 0<=page
    · obtain ⟨g1,g2⟩:=hpg h0
      obtain ⟨m,rfl⟩:=Int.eq_ofNat_of_zero_le h0;rw [Int.toNat_natCast] at g2 hnw;have hne1 : s.cs.getD m 0 ≠ 1:=fun e=>hnw ⟨h0,e⟩
      have hmf : firstFree s.cs ≠ m:=fun e=>by rw [e] at hfc;omega
      have hg : (s.cs.set (firstFree s.cs) 1).getD m 0=s.cs.getD m 0:=by rw [getD_set _ _ _ _ hf,if_neg hmf]
      have hd2 : (dropOne (tookC s.cs,tookP s.cs s.ps o.va) (m : Int)).1=(s.cs.set (firstFree s.cs) 1).set m (s.cs.getD m 0 - 1):=by
        unfold dropOne;rw [if_pos h0,ht,Int.toNat_natCast];simp only;rw [hg]
      simp only;rw [hd2];have z2:=zeros_put (s.cs.set (firstFree s.cs) 1) m (by rw [List.length_set];omega) (s.cs.getD m 0 - 1);rw [hg,if_neg (by omega),if_neg (by omega)] at z2
      right
      omega
    · have hd2 : (dropOne (tookC s.cs,tookP s.cs s.ps o.va) page).1=s.cs.set (firstFree s.cs) 1:=by
        unfold dropOne;rw [if_neg h0,ht]
      simp only;rw [hd2]
      right
      omega
  · exact .inl rfl
end Go.Proofs.YtaekdfknkgmfbaaGreatDoor
namespace Go.Proofs.YtaekdfknkgmfbaaGreatDoor
set_option linter.unusedVariables false
set_option maxRecDepth 100000
theorem did_zero {s : Sf} {o : Oq} (hs : shelfOk s=true) (h : (didOp s o).2.1=0) : opOk o=true/\refused s.bs o=0/\(doOp s o).2.1=0:=by
  rw [didOp_yes hs] at h;have h2:=h;unfold doOp at h
  split at h
  · cases h
  · rename_i hok
    split at h
    · rename_i hr
      exact absurd h hr
    · rename_i hr
      refine ⟨by simpa using hok,?_,h2⟩;by_cases q : refused s.bs o=0
      · exact q
      · exact absurd q hr
theorem zeros_few {s : Sf} (hs : shelfOk s=true) : zeros s.cs<=24/\spare s.cs s.ps=(zeros s.cs : Int):=by
  have hinv:=(shelfOk_iff s).1 hs;have h1:=hinv.n1.2;have h2 : zeros s.cs<=s.cs.length:=by unfold zeros;exact List.countP_le_length
  unfold shelfOk at hs;simp only [Bool.and_eq_true] at hs;exact ⟨by omega,by rw [spare,if_pos hs.1.1.1.1]⟩
theorem spare_did {s : Sf} {o : Oq} (hs : shelfOk s=true) (h : (didOp s o).2.1=0) :
    (o.k=2->(zeros (didOp s o).1.cs : Int)=zeros s.cs\/(zeros (didOp s o).1.cs : Int)=zeros s.cs - 1)/\((o.k=6\/o.k=3\/o.k=7)->zeros s.cs<=zeros (didOp s o).1.cs)/\((o.k=1\/o.k=8\/o.k=9)->zeros (didOp s o).1.cs=zeros s.cs):=by
  have hz:=did_zero hs h;rw [didOp_yes hs];exact spare_law ((shelfOk_iff s).1 hs) o hz.1 hz.2.2
theorem copy_did {s : Sf} {o : Oq} (hs : shelfOk s=true) (h : (didOp s o).2.1=0) (hk : o.k=4\/o.k=5) :
    zeros (didOp s o).1.cs=zeros s.cs/\∃ a b : Pb,bookAt (didOp s o).1.bs (findP (didOp s o).1.bs o.nm)=a/\bookAt (didOp s o).1.bs (findP (didOp s o).1.bs o.ot)=b/\0<=findP (didOp s o).1.bs o.nm/\0<=findP (didOp s o).1.bs o.ot/\a.ok=true/\b.ok=true/\a.sz=b.sz/\a.rs=b.rs/\b.ep=0/\b.fx=decide (o.k=4):=by
  have hz:=did_zero hs h;rw [didOp_yes hs];exact copy_law ((shelfOk_iff s).1 hs) o hz.1 hz.2.1 (by unfold kOther;rcases hk with h | h <;> rw [h] <;> rfl)
theorem find_row {ms : List Bk} {bs : List Pb} (hm : ms.map Bk.pb=bs) (n : ByteArray) (a : Pb) (h0 : 0<=findP bs n) (ha : bookAt bs (findP bs n)=a) : ∃ (i : Nat) (hi : i < ms.length),findB ms n=i/\(ms[i]'hi).pb=a:=by
  subst hm;rw [<- findB_P] at h0 ha;obtain ⟨i,hie⟩:=Int.eq_ofNat_of_zero_le h0;have hil : i < ms.length:=by have:=findB_lt ms n;omega
  refine ⟨i,hil,hie,?_⟩;rw [<- ha,hie,bkAt_pb _ _ (by omega),bkAt_yes hil]
end Go.Proofs.YtaekdfknkgmfbaaGreatDoor
namespace Go.Proofs.YtaekdfknkgmfbaaGreatDoor
open Go.RowKit
set_option linter.unusedVariables false
set_option maxRecDepth 100000
set_option maxHeartbeats 1600000 in
theorem slicesEqual_any (v1 v2 : Value) (xs ys : List (Int × Int × Int)) (w : World) (h1 : ReadsR 3 runC w.heap.size w v1 xs) (h2 : ReadsR 3 runC w.heap.size w v2 ys) :
    Calls Tryz.prog 81 #[v1,v2] w fun e w'=>e = .returned (.bool (decide (xs=ys)))/\Below w.heap.size w w':=by
  obtain ⟨o1,cap1,rfl,m1,c1,-⟩:=h1;obtain ⟨o2,cap2,rfl,m2,c2,-⟩:=h2;by_cases hlen : xs.length=ys.length
  · rw [<- hlen]
    have C1 : Hid _:=three_cells c1;have C2 : Hid _:=three_cells c2;have HL : Hid (xs.length=ys.length):=hlen;have hle : ys.length<=xs.length:=by omega
    have hge : xs.length<=ys.length:=by omega
    unfold maxLen at m1;clear c1 c2 m2 hlen
    go_enter Tryz.func81,Tryz.ntmps81
    go_wp2
    go_loopw [13] (fun i wr=>∃ k : Nat,k<=xs.length/\i = .int .i64 k/\xs.take k=ys.take k/\Below w.heap.size w wr) (fun i _=>xs.length - (intOf i).toNat)
    case atStart=>exact ⟨0,Nat.zero_le _,rfl,rfl,Below.refl _ _⟩
    case round =>
      obtain ⟨k,hk,rfl,htk,hb⟩:=hrel;have HT : Hid (xs.take k=ys.take k):=htk;clear htk;by_cases hlt : k < xs.length
      · have hlt2 : k < ys.length:=by omega
        obtain ⟨g1,of1,rfl,q1,a0,a1,a2⟩:=C1.out k hlt;obtain ⟨g2,of2,rfl,q2,b0,b1,b2⟩:=C2.out k hlt2;have HE : Hid (xs[k]=ys[k]->xs.take (k+1)=ys.take (k+1)):=fun e=>take_more xs ys k hlt hlt2 HT.out e
        have HNE : Hid (xs[k] ≠ ys[k]->¬ xs=ys):=fun e=>ne_at xs ys k hlt hlt2 e
        generalize xs[k]=x at a0 a1 a2 HE HNE;generalize ys[k]=y at b0 b1 b2 HE HNE;obtain ⟨f,c,p⟩:=x;obtain ⟨f',c',p'⟩:=y;simp only at a0 a1 a2 b0 b1 b2;have l1 : g1 < wr.heap.size:=Nat.lt_of_lt_of_le q1 hb.size;have l2 : g2 < wr.heap.size:=Nat.lt_of_lt_of_le q2 hb.size;have d0:=(hb.cell (p:=⟨g1,of1+k * 3,none⟩) q1).trans a0;have d1:=(hb.cell (p:=⟨g1,of1+k * 3+1,none⟩) q1).trans a1;have d2:=(hb.cell (p:=⟨g1,of1+k * 3+2,none⟩) q1).trans a2;have f0:=(hb.cell (p:=⟨g2,of2+k * 3,none⟩) q2).trans b0;have f1:=(hb.cell (p:=⟨g2,of2+k * 3+1,none⟩) q2).trans b1;have f2:=(hb.cell (p:=⟨g2,of2+k * 3+2,none⟩) q2).trans b2;clear a0 a1 a2 b0 b1 b2 C1 C2;by_cases hx : (f,c,p)=(f',c',p')
        · have HT2 : Hid _:=HE.out hx
          simp only [Prod.mk.injEq] at hx;obtain ⟨rfl,rfl,rfl⟩:=hx;clear HE HNE
          go_wp2
          go_quiet (fail)
          go_wp2
          go_roundw
          case rel=>exact ⟨k+1,by omega,by go_num,HT2.out,⟨hb.os,hb.tape,hb.output,hb.size,hb.block⟩⟩
          case measure=>simp [intOf];omega
        · have HN : Hid _:=HNE.out hx
          clear HE HNE;by_cases e1 : f=f'
          · subst e1
            by_cases e2 : c=c'
            · subst e2
              have e3 : ¬ p=p':=fun e=>hx (by rw [e])
              have h1 : (p == p')=false:=by simpa using e3
              clear hx
              go_wp2
              go_quiet (fail)
              go_wp2
              go_ret;exact ⟨ret_bool (decide_eq_false HN.out).symm,⟨hb.os,hb.tape,hb.output,hb.size,hb.block⟩⟩
            · have h1 : (c == c')=false:=by simpa using e2
              clear hx
              go_wp2
              go_quiet (fail)
              go_wp2
              go_ret;exact ⟨ret_bool (decide_eq_false HN.out).symm,⟨hb.os,hb.tape,hb.output,hb.size,hb.block⟩⟩
          · have h1 : (f == f')=false:=by simpa using e1
            clear hx
            go_wp2
            go_quiet (fail)
            go_wp2
            go_ret;exact ⟨ret_bool (decide_eq_false HN.out).symm,⟨hb.os,hb.tape,hb.output,hb.size,hb.block⟩⟩
      · go_wp2
        go_ret;exact ⟨ret_bool (by simp [all_taken xs ys k hlt HL.out HT.out]),hb⟩
  · have hn : ((xs.length : Int) != (ys.length : Int))=true:=by rw [bne_iff_ne];omega
    have HX : Hid (decide (xs=ys)=false):=by rw [Hid,decide_eq_false_iff_not];intro e;rw [e] at hlen;exact hlen rfl
    unfold maxLen at m1 m2;clear hlen c1 c2
    go_enter Tryz.func81,Tryz.ntmps81
    go_wp2
    go_ret;exact ⟨ret_bool HX.out.symm,Below.refl _ _⟩
set_option maxHeartbeats 1600000 in
theorem implAlike_any (nm : ByteArray) (sz : Int) (m : Value) (rs : List (Int × Int × Int)) (fx : Bool) (ep : Int) (nm' : ByteArray) (sz' : Int) (m' : Value) (rs' : List (Int × Int × Int)) (fx' : Bool) (ep' : Int) (w : World) (hn : nm.size<=maxLen) (hn' : nm'.size<=maxLen) (hfit : FitRuns rs) (hfit' : FitRuns rs') (r : ReadsR 3 runC w.heap.size w m rs) (r' : ReadsR 3 runC w.heap.size w m' rs') :
    Calls Tryz.prog 27 #[.agg #[.string nm,.int .i64 sz,m,.bool fx,.int .i64 ep],.agg #[.string nm',.int .i64 sz',m',.bool fx',.int .i64 ep']] w fun e w'=>e = .returned (.bool (alike nm sz rs ep nm' sz' rs' ep'))/\Below w.heap.size w w':=by
  obtain ⟨o,cap,rfl⟩:=r.form;obtain ⟨o',cap',rfl⟩:=r'.form;obtain ⟨W0,hW0,k0,k1,d0,z0⟩:=box2 w #[.string nm,.int .i64 sz,.slice o rs.length cap,.bool fx,.int .i64 ep] #[.string nm',.int .i64 sz',.slice o' rs'.length cap',.bool fx',.int .i64 ep'] 48 48;have r0:=(r.below d0).mono d0.size;have r1:=(r'.below d0).mono d0.size;have HW0 : Hid (W0 = _):=hW0;obtain ⟨p0,p1,p2,p3,p4⟩:=c5 k0;clear hW0 r r'
  go_enter Tryz.func27,Tryz.ntmps27
  go_wp2_with fail
  rw [<- HW0.out];clear HW0 p0 p1 p2 p3 p4;refine (implBookOk_any nm sz _ rs fx ep _ hn hfit r0).mono ?_;rintro e w1 ⟨rfl,b1⟩;replace k0:=(b1.block _ (by omega)).trans k0;replace k1:=(b1.block _ (by omega)).trans k1;replace d0:=bw_call d0 b1;replace r0:=(r0.below b1).mono b1.size;replace r1:=(r1.below b1).mono b1.size;have z1:=b1.size;clear b1;cases h1 : bookOk nm sz rs ep
  · have HV : Hid (alike nm sz rs ep nm' sz' rs' ep'=false):=by simp [Hid,alike,h1]
    clear h1 k0 k1 r0 r1
    go_wp2_with fail
    go_ret;exact ⟨ret_bool HV.out.symm,d0⟩
  have H1 : Hid _:=h1;obtain ⟨p0,p1,p2,p3,p4⟩:=c5 k1;clear h1
  go_wp2_with fail
  clear p0 p1 p2 p3 p4;refine (implBookOk_any nm' sz' _ rs' fx' ep' _ hn' hfit' r1).mono ?_;rintro e w2 ⟨rfl,b1⟩;replace k0:=(b1.block _ (by omega)).trans k0;replace k1:=(b1.block _ (by omega)).trans k1;replace d0:=bw_call d0 b1;replace r0:=(r0.below b1).mono b1.size;replace r1:=(r1.below b1).mono b1.size;clear b1;cases h2 : bookOk nm' sz' rs' ep'
  · have HV : Hid (alike nm sz rs ep nm' sz' rs' ep'=false):=by simp [Hid,alike,h2]
    clear h2 k0 k1 r0 r1
    go_wp2_with fail
    go_ret;exact ⟨ret_bool HV.out.symm,d0⟩
  have H2 : Hid _:=h2;clear h2;have p1:=at_cell k0 1;have p2:=at_cell k0 2;have q1:=at_cell k1 1;have q2:=at_cell k1 2;by_cases h3 : sz=sz'
  · subst h3
    have HV : Hid (alike nm sz rs ep nm' sz rs' ep'=decide (rs=rs')):=by rw [Hid,alike,H1.out,H2.out];simp
    clear H1 H2 k0 k1
    go_wp2_with fail
    refine (slicesEqual_any _ _ rs rs' _ r0 r1).mono ?_;rintro e w3 ⟨rfl,b1⟩;replace d0:=bw_call d0 b1;generalize decide (rs=rs')=dd at HV ⊢;clear p1 p2 q1 q2 r0 r1 b1
    go_wp2_with fail
    go_ret;exact ⟨ret_bool HV.out.symm,d0⟩
  · have HV : Hid (alike nm sz rs ep nm' sz' rs' ep'=false):=by simp [Hid,alike,h3]
    have hq2 : (sz == sz')=false:=by rw [beq_eq_false_iff_ne];exact h3
    clear k0 k1 r0 r1 h3
    go_wp2_with fail
    go_ret;exact ⟨ret_bool HV.out.symm,d0⟩
end Go.Proofs.YtaekdfknkgmfbaaGreatDoor
