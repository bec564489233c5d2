import Derived.WalkKit
import Derived.Below
import Derived.Laws.AppendOwn
import Derived.Deep.QuietTactic
import Derived.BigQuiet
import Derived.Test.YtaekdfknkgmfbaaGreatDoorChecked
import Derived.Laws.OwnMore
import Derived.OwnWalk
import Derived.Laws.MakeOwn
import Derived.WalkSpells
import Derived.Laws.Bits128
import Derived.IntWalk
import Derived.Handy
import Derived.Laws.IdiomStrings
import Derived.Deep.RegionLaw
import Derived.ProofKit
import Derived.OpenShut
import Derived.ShutString
import Derived.Lib.SmallJoins
import Derived.SliceStrings
import Derived.ChangeSlices
import Derived.Deep.RegionHeld3
import Derived.Deep.DeepCutAuto
import Derived.Laws.Cover1
import Derived.Deep.CutBlock
import Derived.Laws.CopyOwn
import Derived.Lib.Strings
import Derived.Shelf.LaysM
import Derived.Shelf.Strconv.Clone
import Derived.Deep.WholeRow
import Derived.Lib.LazyBuf
import Derived.Lib.Slices
import Derived.Lib.Walk
import Derived.Lib.Bytealg
import Derived.LaidEql
import Derived.Stop.Asserts
import Derived.RowKitTokens
import Derived.RangeFuncBox
import Derived.Lib.AppendZeros
import Derived.Test.YtaekdfknkgmfbaaGreatDoorM01
import Derived.Test.YtaekdfknkgmfbaaGreatDoorM02
import Derived.Test.YtaekdfknkgmfbaaGreatDoorM03
import Derived.Test.YtaekdfknkgmfbaaGreatDoorM04
import Derived.Test.YtaekdfknkgmfbaaGreatDoorM05
import Derived.Test.YtaekdfknkgmfbaaGreatDoorM06
import Derived.Test.YtaekdfknkgmfbaaGreatDoorM07
import Derived.Test.YtaekdfknkgmfbaaGreatDoorM08
import Derived.Test.YtaekdfknkgmfbaaGreatDoorM09
import Derived.Test.YtaekdfknkgmfbaaGreatDoorM10
import Derived.Test.YtaekdfknkgmfbaaGreatDoorM11
import Derived.Test.YtaekdfknkgmfbaaGreatDoorM12
import Derived.Test.YtaekdfknkgmfbaaGreatDoorM13
import Derived.Test.YtaekdfknkgmfbaaGreatDoorM14
import Derived.Test.YtaekdfknkgmfbaaGreatDoorM15
import Derived.Test.YtaekdfknkgmfbaaGreatDoorM16
import Derived.Test.YtaekdfknkgmfbaaGreatDoorM17
import Derived.Test.YtaekdfknkgmfbaaGreatDoorM18
import Derived.Test.YtaekdfknkgmfbaaGreatDoorM19
import Derived.Test.YtaekdfknkgmfbaaGreatDoorM20
import Derived.Test.YtaekdfknkgmfbaaGreatDoorM21
import Derived.Test.YtaekdfknkgmfbaaGreatDoorM22
import Derived.Test.YtaekdfknkgmfbaaGreatDoorM23
import Derived.Test.YtaekdfknkgmfbaaGreatDoorM24
import Derived.Test.YtaekdfknkgmfbaaGreatDoorM25
import Derived.Test.YtaekdfknkgmfbaaGreatDoorM26
import Derived.Test.YtaekdfknkgmfbaaGreatDoorM27
import Derived.Test.YtaekdfknkgmfbaaGreatDoorM28
import Derived.Test.YtaekdfknkgmfbaaGreatDoorM29
import Derived.Test.YtaekdfknkgmfbaaGreatDoorM30
import Derived.Test.YtaekdfknkgmfbaaGreatDoorM31
import Derived.Test.YtaekdfknkgmfbaaGreatDoorM32
import Derived.Test.YtaekdfknkgmfbaaGreatDoorM33
import Derived.Test.YtaekdfknkgmfbaaGreatDoorM34
import Derived.Test.YtaekdfknkgmfbaaGreatDoorM35
import Derived.Test.YtaekdfknkgmfbaaGreatDoorM36
import Derived.Test.YtaekdfknkgmfbaaGreatDoorM37
import Derived.Test.YtaekdfknkgmfbaaGreatDoorM38
import Derived.Test.YtaekdfknkgmfbaaGreatDoorM39
import Derived.Test.YtaekdfknkgmfbaaGreatDoorM40
import Derived.Test.YtaekdfknkgmfbaaGreatDoorM41
import Derived.Test.YtaekdfknkgmfbaaGreatDoorM42
import Derived.Test.YtaekdfknkgmfbaaGreatDoorM43
import Derived.Test.YtaekdfknkgmfbaaGreatDoorM44
import Derived.Test.YtaekdfknkgmfbaaGreatDoorM45
import Derived.Test.YtaekdfknkgmfbaaGreatDoorM46
import Derived.Test.YtaekdfknkgmfbaaGreatDoorM47
import Derived.Test.YtaekdfknkgmfbaaGreatDoorM48
import Derived.Test.YtaekdfknkgmfbaaGreatDoorM49
import Derived.Test.YtaekdfknkgmfbaaGreatDoorM50
import Derived.Test.YtaekdfknkgmfbaaGreatDoorY01
namespace Go.Proofs.YtaekdfknkgmfbaaGreatDoor
open Go.RowKit
set_option linter.unusedVariables false
set_option maxRecDepth 100000
set_option maxHeartbeats 800000 in
theorem specPageOf_any (v : Value) (rs : List (Int × Int × Int)) (place : Int) (w : World) (r : ReadsR 3 runC w.heap.size w v rs) :
    Calls Tryz.prog 31 #[v,.int .i64 place] w fun e w'=>e = .returned (.int .i64 (pageOf rs place))/\Below w.heap.size w w':=by
  go_enter Tryz.func31,Tryz.ntmps31
  go_wp2_with fail
  refine (specMapOk_any v rs _ r).mono ?_;rintro e w1 ⟨rfl,b1⟩;have r1:=(r.below b1).mono b1.size;cases hok : mapOk rs
  · have HV : Hid (pageOf rs place = -1):=by rw [Hid,pageOf,if_neg (fun q=>by rw [hok] at q;cases q.1)]
    go_wp2_with fail
    go_ret;exact ⟨ret_int HV.out.symm,b1⟩
  · have HOK : Hid (mapOk rs=true):=hok
    clear hok
    go_wp2_with fail
    refine (l1In_any place 0 15 _).mono ?_;rintro e w2 ⟨rfl,rfl⟩;cases hp : (decide ((0 : Int)<=place) && decide (place<=15))
    · have HV : Hid (pageOf rs place = -1):=by
        rw [Hid,pageOf,if_neg];rintro ⟨_,h1,h2⟩;simp [h1,h2] at hp
      go_wp2_with fail
      go_ret;exact ⟨ret_int HV.out.symm,b1⟩
    · have hp2 : 0<=place/\place<=15:=by simpa using hp
      have hv : pageOf rs place=(pages rs).getD place.toNat 0:=by rw [pageOf,if_pos ⟨HOK.out,hp2⟩]
      obtain ⟨k,rfl⟩:=Int.eq_ofNat_of_zero_le hp2.1;rw [Int.toNat_natCast] at hv;have HV : Hid _:=hv;clear hv
      go_wp2_with fail
      refine (l5Pages_any v rs _ HOK.out r1).mono ?_;rintro e w3 ⟨g,cp,rfl,own,b3⟩;have hpl:=pages_length rs;have c0:=own.cellAt k (by omega);rw [List.getElem?_map,List.getElem?_eq_getElem (show k < (pages rs).length by omega)] at c0;have hgd : (pages rs).getD k 0=(pages rs)[k]:=by rw [List.getD_eq_getElem?_getD,List.getElem?_eq_getElem (show k < (pages rs).length by omega)];rfl
      simp only [Option.map_some] at c0;rw [<- hgd] at c0;clear hgd hpl own;generalize (pages rs).getD k 0=y at c0 HV;have h0 : (0 : Int)<=(k : Int):=by omega
      have h1 : (k : Int) < 16:=by omega
      have bf:=bw_call b1 b3
      go_wp2_with fail
      go_ret;exact ⟨ret_int HV.out.symm,bf⟩
theorem src_of {w : World} {a : Option Addr} {len cap : Nat} {zs : List Int} (h : (a=none/\len=0/\cap=0/\zs = []) \/
    ∃ x,a=some x/\len<=cap/\cap<=maxLen/\zs.length=cap/\(∀ i,i < zs.length->w.cell? (x.add i)=some (.int .u8 (zs.getD i 0)))/\∀ n ∈ zs,(Lit.int .u8 n).wf=true) : Src w w.heap.size a len:=by
  rcases h with ⟨rfl,rfl,rfl,rfl⟩ | ⟨x,rfl,hl,hm,hz,hcell,hwz⟩
  · exact ⟨Nat.zero_le _,fun j hj=>by omega⟩
  · refine ⟨Nat.le_trans hl hm,fun j hj=>?_⟩
    have hc:=hcell j (by omega);obtain ⟨b,off,spot⟩:=x;have hspot : spot=none:=by simpa [Addr.add] using World.cell?_spot (hcell 0 (by omega))
    subst hspot;have e : (⟨b,off,none⟩ : Addr).add j=⟨b,off+j,none⟩:=by unfold Addr.add;split <;> simp_all
    rw [e] at hc
    have hb : b < w.heap.size:=by
      rcases Nat.lt_or_ge b w.heap.size with q | q
      · exact q
      · simp [World.cell?,Array.getElem?_eq_none q] at hc
    have hw:=hwz (zs.getD j 0) (by rw [List.getD_eq_getElem?_getD,List.getElem?_eq_getElem (by omega)];exact List.getElem_mem _);have hx : 0<=zs.getD j 0/\zs.getD j 0<=255:=by simpa [Lit.wf,IntKind.min,IntKind.max,IntKind.signed,IntKind.bits] using hw
    exact ⟨b,off,_,rfl,hb,hc,hx.1,hx.2⟩
end Go.Proofs.YtaekdfknkgmfbaaGreatDoor
namespace Go.Proofs.YtaekdfknkgmfbaaGreatDoor
open Go.ChangeShapes Go.WideShapes Go.ChangeAt Go.RowKit Go.Joins
set_option linter.unusedVariables false
set_option maxRecDepth 100000
theorem open_bytes {H : Type} {enc : TypeId × Value->H} {W : World} {base : Nat} {v : Value} {d : DataW H} {p : List MemPlace} (hv : Value.okWide Tryz.prog W .any base 22 v) (h : DataW.Trod enc Tryz.prog W 0 (fun _=>true) true 22 v d p) :
    ∃ (a : Option Addr) (len cap : Nat),v = .slice a len cap/\Src W W.heap.size a len:=by
  obtain ⟨a,len,cap,rfl⟩:=okWide_slice Tryz.underlying22 hv;obtain ⟨n,hn⟩:=h;refine ⟨a,len,cap,rfl,?_⟩
  rcases open_ints Tryz.underlying22 Tryz.underlying5 (by kernel_rfl) hn with ⟨hcs,_⟩ | ⟨x,l,c,zs,hcs,_,hl,hm,hz,_,hcell,hwz⟩
  · simp [Value.cells] at hcs
    obtain ⟨rfl,rfl,rfl⟩:=hcs;exact src_of (zs:=[]) (.inl ⟨rfl,rfl,rfl,rfl⟩)
  · simp [Value.cells] at hcs
    obtain ⟨rfl,rfl,rfl⟩:=hcs;exact src_of (zs:=zs) (.inr ⟨_,rfl,hl,hm,by simpa using hz,hcell,hwz⟩)
end Go.Proofs.YtaekdfknkgmfbaaGreatDoor
namespace Go.Proofs.YtaekdfknkgmfbaaGreatDoor
open Go.RowKit
set_option linter.unusedVariables false
set_option maxRecDepth 100000
theorem do_full_write (s : Sf) (o : Oq) (h : (doOp s o).2.1=9) : opOk o=true/\o.k=2:=by
  unfold doOp at h
  split at h
  · exact absurd (show (1 : Int)=9 from h) (by decide)
  rename_i ho
  have ho : opOk o=true:=by simpa using ho
  split at h
  · exact absurd h (refused_code s.bs o).2
  split at h
  · exact absurd (show (0 : Int)=9 from h) (by decide)
  rename_i h1
  split at h
  · exact absurd (show (0 : Int)=9 from h) (by decide)
  rename_i h6
  split at h
  · exact absurd (show (0 : Int)=9 from h) (by decide)
  rename_i h5
  rcases kind_code s o (findP s.bs o.nm).toNat (bookAt s.bs (findP s.bs o.nm)) (if o.at_ < 16 then (pages (bookAt s.bs (findP s.bs o.nm)).rs).getD o.at_.toNat 0 else -1) with k | ⟨k,k9,k8,k7,k3⟩
  · omega
  · refine ⟨ho,?_⟩
    have hk:=(op_parts ho).2.1;have : ¬ (o.k=4\/o.k=5):=fun z=>h5 (by unfold kOther;rcases z with z | z <;> simp [z])
    omega
theorem do_write (s : Sf) (o : Oq) (ho : opOk o=true) (hk : o.k=2) :
    (findP s.bs o.nm < 0->(doOp s o).2.1=2)/\(0<=findP s.bs o.nm ->
      ((o.ep < (bookAt s.bs (findP s.bs o.nm)).ep\/(bookAt s.bs (findP s.bs o.nm)).fx=true\/(bookAt s.bs (findP s.bs o.nm)).sz<=o.at_)->(doOp s o).2.1 ≠ 9/\(doOp s o).2.1 ≠ 0) /\
      (¬ (o.ep < (bookAt s.bs (findP s.bs o.nm)).ep\/(bookAt s.bs (findP s.bs o.nm)).fx=true\/(bookAt s.bs (findP s.bs o.nm)).sz<=o.at_)->doOp s o=doWrite s (findP s.bs o.nm).toNat (bookAt s.bs (findP s.bs o.nm)) o (if o.at_ < 16 then (pages (bookAt s.bs (findP s.bs o.nm)).rs).getD o.at_.toNat 0 else -1))):=by
  have hno : ¬ opOk o=false:=by rw [ho];decide
  have e4 : kEpoch o.k=true:=by rw [hk];decide
  have e5 : ¬ kOther o.k=true:=by rw [hk];decide
  have e6 : kAt o.k=true:=by rw [hk];decide
  refine ⟨fun h=>?_,fun h=>⟨fun q=>?_,fun q=>?_⟩⟩
  · have hr : refused s.bs o=2:=by rw [refused,if_pos ⟨by omega,h⟩]
    unfold doOp;rw [if_neg hno,if_pos (by omega),hr]
  · have hr : refused s.bs o=4\/refused s.bs o=5\/refused s.bs o=6:=by
      unfold refused;rw [if_neg (fun z=>by omega),if_neg (fun z=>by rcases z with z | z;omega;exact e5 z.1),if_neg (by omega)];by_cases z1 : o.ep < (bookAt s.bs (findP s.bs o.nm)).ep
      · rw [if_pos ⟨e4,z1⟩];omega
      · rw [if_neg (fun z=>z1 z.2)]
        by_cases z2 : (bookAt s.bs (findP s.bs o.nm)).fx=true
        · rw [if_pos ⟨e4,by omega,z2⟩];omega
        · rw [if_neg (fun z=>z2 z.2.2)]
          rcases q with q | q | q
          · exact absurd q z1
          · exact absurd q z2
          · rw [if_pos ⟨e6,q⟩];omega
    unfold doOp;rw [if_neg hno,if_pos (by omega)];simp only
    omega
  · have q1 : ¬ o.ep < (bookAt s.bs (findP s.bs o.nm)).ep:=fun z=>q (.inl z)
    have q2 : ¬ (bookAt s.bs (findP s.bs o.nm)).fx=true:=fun z=>q (.inr (.inl z))
    have q3 : ¬ (bookAt s.bs (findP s.bs o.nm)).sz<=o.at_:=fun z=>q (.inr (.inr z))
    have hr : refused s.bs o=0:=by
      unfold refused;rw [if_neg (fun z=>by omega),if_neg (fun z=>by rcases z with z | z;omega;exact e5 z.1),if_neg (by omega),if_neg (fun z=>q1 z.2),if_neg (fun z=>q2 z.2.2),if_neg (fun z=>q3 z.2),if_neg (fun z=>e5 z.1),if_neg (fun z=>by omega)]
    unfold doOp;rw [if_neg hno,if_neg (by omega),if_neg (by omega),if_neg (by omega),if_neg e5];unfold doKind;rw [if_neg (by omega),if_neg (by omega),if_neg (by omega),if_neg (by omega)]
theorem spare_zero (cs : List Int) : firstFree cs < cs.length ↔ zeros cs ≠ 0:=by
  unfold zeros firstFree
  constructor
  · intro h e
    have h1:=List.findIdx_getElem (p:=fun c=>decide (c=(0 : Int))) (xs:=cs) (w:=h);have:=List.countP_eq_zero.1 e _ (List.getElem_mem h);exact this h1
  · intro h
    have h2 : 0 < cs.countP (fun c=>decide (c=0)):=by omega
    obtain ⟨c,hc,h0⟩:=List.countP_pos_iff.1 h2;exact List.findIdx_lt_length_of_exists ⟨c,hc,h0⟩
theorem zeros_step (cs : List Int) (k : Nat) (h : k < cs.length) : zeros (cs.take (k+1))=zeros (cs.take k)+(if cs.getD k 0=0 then 1 else 0):=by
  rw [zeros,zeros,List.take_succ_eq_append_getElem h,List.countP_append,getD_of cs k h];by_cases e : cs[k]=0 <;> simp [e]
theorem zeros_le (cs : List Int) (k : Nat) : zeros (cs.take k)<=k:=by
  have h1 : zeros (cs.take k)<=(cs.take k).length:=List.countP_le_length;rw [List.length_take] at h1
  omega
set_option maxHeartbeats 800000 in
theorem specSpare_any (v1 v2 : Value) (cs ps : List Int) (w : World) (h1 : Reads w.heap.size w v1 (cs.map (Value.int .i64))) (h2 : Reads w.heap.size w v2 (ps.map (Value.int .i64))) :
    Calls Tryz.prog 25 #[.agg #[v1,v2]] w fun e w'=>e = .returned (.int .i64 (spare cs ps))/\Below w.heap.size w w':=by
  obtain ⟨W0,hW0,k0,d0,z0⟩:=pool_box w v1 v2 26;have r1:=(h1.below d0).mono d0.size;have r2:=(h2.below d0).mono d0.size;have p0:=at_cell k0 0;have p1:=at_cell k0 1;have HW0 : Hid (W0 = _):=hW0;clear hW0 h1 h2
  go_enter Tryz.func25,Tryz.ntmps25
  go_wp2_with fail
  rw [<- HW0.out];clear HW0;refine (specPoolOk_any v1 v2 cs ps _ r1 r2).mono ?_;rintro e w1 ⟨rfl,b1⟩;replace k0:=(b1.block _ (by omega)).trans k0
  have r3:=(r1.below b1)
  replace d0:=bw_call d0 b1;clear p0 p1 r1 r2;cases hok : poolOk cs ps
  · have HV : Hid (spare cs ps = -1):=by simp [Hid,spare,hok]
    go_wp2_with fail
    go_ret;exact ⟨ret_int HV.out.symm,d0⟩
  · have hv : spare cs ps=zeros cs:=by simp [spare,hok]
    have HV : Hid (spare cs ps=zeros cs):=hv;have hb : cs.length<=24:=((poolOk_iff cs ps).1 hok).2.1;obtain ⟨o1,cap1,rfl,m1,c1,-⟩:=r3;have hl : (cs.map (Value.int .i64)).length=cs.length:=by simp
    rw [hl] at k0 ⊢;have C1 : Hid (∀ j u,(cs.map (Value.int .i64))[j]? = some u->∃ g off,o1=some ⟨g,off,none⟩/\g < W0.heap.size/\w1.cell? ⟨g,off+j,none⟩=some u):=c1;have p0:=at_cell k0 0;clear c1 hl m1 hv hok
    go_wp2_with fail
    go_loopw [3,4] (fun n i wr=>∃ k : Nat,k<=cs.length/\i = .int .i64 k/\n = .int .i64 (zeros (cs.take k))/\wr=w1) (fun _ i _=>cs.length - (intOf i).toNat)
    case atStart=>exact ⟨0,Nat.zero_le _,rfl,rfl,rfl⟩
    case round =>
      obtain ⟨k,hk,rfl,rfl,rfl⟩:=hrel;by_cases hlt : k < cs.length
      · obtain ⟨g1,of1,rfl,q1,cc1⟩:=C1.out k _ (getD_some cs k hlt)
        have HZ:=zeros_step cs k hlt;have hzl:=zeros_le cs k;generalize cs.getD k 0=c at cc1 HZ;generalize zeros (cs.take k)=z at HZ hzl ⊢;by_cases hc : c=0
        · rw [if_pos hc] at HZ
          have HZ2 : Hid _:=HZ;subst hc;clear HZ C1
          go_wp2_with fail
          go_roundw
          case rel=>exact ⟨k+1,by omega,by go_num,by rw [HZ2.out];go_num,by trivial⟩
          case measure=>simp [intOf];omega
        · rw [if_neg hc] at HZ
          have HZ2 : Hid _:=HZ;have hc1 : (c == 0)=false:=by simpa using hc
          clear HZ C1
          go_wp2_with fail
          go_roundw
          case rel=>exact ⟨k+1,by omega,by go_num,by rw [HZ2.out];go_num,by trivial⟩
          case measure=>simp [intOf];omega
      · have hfin : cs.take k=cs:=List.take_of_length_le (by omega)
        rw [hfin]
        go_wp2_with fail
        go_ret;exact ⟨ret_int HV.out.symm,d0⟩
end Go.Proofs.YtaekdfknkgmfbaaGreatDoor
namespace Go.Proofs.YtaekdfknkgmfbaaGreatDoor
open Go.RowKit
set_option linter.unusedVariables false
set_option maxRecDepth 100000 in
set_option maxHeartbeats 6400000 in
theorem drawReads_any (x : Option Addr) (len cap : Nat) (w : World) (hs : Src w w.heap.size x len) :
    Calls Tryz.prog 28 #[.slice x len cap] w fun e w'=>∃ (v1 v2 vb : Value) (cs ps : List Int) (bks : List Bk) (nm : ByteArray) (k : Int),e = .returned (.tuple #[.agg #[v1,v2,vb],.string nm,.int .i64 k])/\F8 w w' v1 v2 vb cs ps bks/\nm.size<=5/\(-1<=k/\k<=9):=by
  obtain ⟨W0,hW0,kR,d0,z0⟩:=box1 w #[.slice none 0 0,.slice none 0 0,.slice none 0 0] 29;have HW0 : Hid (W0 = _):=hW0;have hs0:=(hs.below d0).mono d0.size;have sR : w.heap.size < W0.heap.size:=by omega
  clear hW0 z0 hs
  go_enter Tryz.func28,Tryz.ntmps28
  go_wp2_with fail
  rw [<- HW0.out];clear HW0;refine (new_any x len cap _ hs0).mono ?_;rintro e w1 ⟨rfl,b1,kc⟩;replace kR:=(b1.block _ (by omega)).trans kR;replace d0:=bw_call d0 b1;have z1:=b1.size;have hcl:=kc.lt;clear b1 hs0
  go_wp2_with fail
  refine (drawAny8_any _ x len cap _ kc).mono ?_;rintro e w2 ⟨v1,v2,vb,cs,ps,bks,rfl,D⟩;have u1:=D.u;replace kR:=(u1.block _ (by omega) (by omega)).trans kR;replace d0:=d0.trans (u1.toBelow (by omega) (by omega));have z2:=u1.size;obtain ⟨p1,q1,p2,q2,rfl,rfl⟩:=D.p.forms;obtain ⟨pb,qb,rfl⟩:=own_slice D.b.row;generalize W0.heap.size=c at *;have bP : Below w2.heap.size w2 (w2.alloc (.cells #[.slice p1 cs.length q1,.slice p2 ps.length q2,.slice pb bks.length qb] 29)):=bw_alloc (Below.refl _ _);have kB:=heap_alloc_new w2 (.cells #[.slice p1 cs.length q1,.slice p2 ps.length q2,.slice pb bks.length qb] 29);replace D:=D.below bP;replace kR:=(bP.block _ (by omega)).trans kR;replace d0:=bw_call d0 bP;have hw2 : c < w2.heap.size:=by omega
  clear bP u1 kc
  go_wp2_with fail
  generalize w2.alloc (.cells #[.slice p1 cs.length q1,.slice p2 ps.length q2,.slice pb bks.length qb] 29)=W3 at *;generalize w2.heap.size=nB at *;refine (name_any c x len cap _ D.kc).mono ?_;rintro e w3 ⟨nm,rfl,hnm,u3,k3⟩;have hzR:=heap_lt kR;replace D:=D.step u3 k3;replace kR:=(u3.block _ (heap_lt kR) (by omega)).trans kR;replace kB:=(u3.block _ (heap_lt kB) (by omega)).trans kB;replace d0:=d0.trans (u3.toBelow (by omega) (by omega));clear u3 k3 hzR;have Dd:=D.below (W':=w3.drew) ((Below.refl _ _).drew);have kBd : w3.drew.heap[nB]? = _:=kB;obtain ⟨c0,c1,c2⟩:=c3 kBd
  have HFIN : Hid (∀ (w4 : World),Upto c w3 w4->Cur w4 c x len cap ->
      w4.heap[w.heap.size]? = some (.cells #[.slice none 0 0,.slice none 0 0,.slice none 0 0] 29 (0,0))/\w4.heap[nB]? = some (.cells #[.slice p1 cs.length q1,.slice p2 ps.length q2,.slice pb bks.length qb] 29 (0,0)) /\
      (∀ W5,W5=((w4.setCell ⟨w.heap.size,0,none⟩ (.slice p1 cs.length q1)).setCell ⟨w.heap.size,1,none⟩ (.slice p2 ps.length q2)).setCell ⟨w.heap.size,2,none⟩ (.slice pb bks.length qb)->W5.heap[w.heap.size]? = some (.cells #[.slice p1 cs.length q1,.slice p2 ps.length q2,.slice pb bks.length qb] 29 (0,0))/\F8 w W5 (.slice p1 cs.length q1) (.slice p2 ps.length q2) (.slice pb bks.length qb) cs ps bks)):=fun w4 u4 k4=>by
    have hzR:=heap_lt kR;have D4:=D.step u4 k4;have kR4:=(u4.block _ (heap_lt kR) (by omega)).trans kR;have kB4:=(u4.block _ (heap_lt kB) (by omega)).trans kB;have d4:=d0.trans (u4.toBelow (by omega) (by omega));refine ⟨kR4,kB4,fun W5 hW5=>?_⟩;have u5 : Upto w.heap.size w4 W5:=by rw [hW5];exact (((Upto.refl _ _).setCell ⟨w.heap.size,0,none⟩ (.inl rfl) _).setCell ⟨w.heap.size,1,none⟩ (.inl rfl) _).setCell ⟨w.heap.size,2,none⟩ (.inl rfl) _
    have kR5 : W5.heap[w.heap.size]? = some (.cells #[.slice p1 cs.length q1,.slice p2 ps.length q2,.slice pb bks.length qb] 29 (0,0)):=by rw [hW5];exact set_at (set_at (set_at kR4 0 _) 1 _) 2 _
    have m5:=D8.away ⟨D4.p,D4.b⟩ D4.p0 (show w.heap.size<=w1.heap.size by omega) u5;have hz4:=heap_lt kR4;exact ⟨kR5,⟨⟨m5.1,m5.2.reads⟩,D4.bf,D4.few,d4.trans (u5.toBelow (by omega) (Nat.le_refl _))⟩⟩
  clear kR d0
  go_wp2_with fail
  go_region_law ((go_simp;go_at_call 83;refine (from_any c x len cap (-1) 9 _ (by omega) (by omega) (by omega) Dd.kc).mono ?_;rintro e w4 ⟨k,rfl,hk,u4,k4⟩;have hf:=HFIN.out w4 (upto_undrew u4) k4;obtain ⟨kR4,kB4,hf⟩:=hf;have e0:=at_cell kB4 0;have e1:=at_cell kB4 1;have e2:=at_cell kB4 2;have r0:=at_cell kR4 0;have r1:=at_cell kR4 1;have r2:=at_cell kR4 2;have f0:=at_open kR4 0;have f1:=at_open kR4 1;have f2:=at_open kR4 2;have HE : Hid _:=And.intro hk (hf _ rfl);clear hf;dsimp only))
  all_goals
    clear c0 c1 c2 e0 e1 e2 r0 r1 r2 f0 f1 f2 kR4 kB4 HFIN u4 k4 hk kB kBd D Dd
    go_wp2_with fail
    exact bodyPost_ret (v:=.tuple #[.agg #[.slice p1 cs.length q1,.slice p2 ps.length q2,.slice pb bks.length qb],.string nm,.int .i64 k]) (by simp [results,Tryz.results28,go_sem,at_cell HE.out.2.1]) rfl ⟨_,_,_,cs,ps,bks,nm,k,rfl,HE.out.2.2,hnm,HE.out.1⟩
end Go.Proofs.YtaekdfknkgmfbaaGreatDoor
namespace Go.Proofs.YtaekdfknkgmfbaaGreatDoor
open Go.RowKit
set_option linter.unusedVariables false
set_option maxRecDepth 100000
def readsOf (s : Sf) (nm : ByteArray) (at_ : Int) : Int:=if (didOp s ⟨9,nm,⟨#[]⟩,at_,0,0⟩).2.1=0 then (didOp s ⟨9,nm,⟨#[]⟩,at_,0,0⟩).2.2 else -1
theorem readsOf_no {s : Sf} {nm : ByteArray} {at_ : Int} (h : ¬ (didOp s ⟨9,nm,⟨#[]⟩,at_,0,0⟩).2.1=0) : readsOf s nm at_ = -1:=by rw [readsOf,if_neg h]
theorem readsOf_yes {s : Sf} {nm : ByteArray} {at_ : Int} (h : (didOp s ⟨9,nm,⟨#[]⟩,at_,0,0⟩).2.1=0) : readsOf s nm at_=(didOp s ⟨9,nm,⟨#[]⟩,at_,0,0⟩).2.2:=by rw [readsOf,if_pos h]
theorem specDid_any (v1 v2 vb : Value) (cs ps : List Int) (bks : List Bk) (k : Int) (nm ot : ByteArray) (at_ va ep : Int) (w : World) (hnb : ∀ b ∈ bks,b.nm.size<=maxLen) (hn : nm.size<=maxLen) (ho : ot.size<=maxLen) (r1 : Reads w.heap.size w v1 (cs.map (Value.int .i64))) (r2 : Reads w.heap.size w v2 (ps.map (Value.int .i64))) (rb : ReadsB w.heap.size w vb bks) :
    Calls Tryz.prog 17 #[.agg #[v1,v2,vb],.agg #[.int .i64 k,.string nm,.string ot,.int .i64 at_,.int .i64 va,.int .i64 ep]] w fun e w'=>∃ u1 u2 ub : Value,e = .returned (.tuple #[.agg #[u1,u2,ub],.agg #[.int .i64 (didOp ⟨cs,ps,bks.map Bk.pb⟩ ⟨k,nm,ot,at_,va,ep⟩).2.1,.int .i64 (didOp ⟨cs,ps,bks.map Bk.pb⟩ ⟨k,nm,ot,at_,va,ep⟩).2.2]])/\ReadsS w' u1 u2 ub (didOp ⟨cs,ps,bks.map Bk.pb⟩ ⟨k,nm,ot,at_,va,ep⟩).1/\Below w.heap.size w w' :=
  (specDidO_any v1 v2 vb cs ps bks k nm ot at_ va ep w hnb hn ho r1 r2 rb).mono fun e w' ⟨u1,u2,ub,h1,h2,h3⟩=>⟨u1,u2,ub,h1,h2.reads,h3⟩
end Go.Proofs.YtaekdfknkgmfbaaGreatDoor
namespace Go.Proofs.YtaekdfknkgmfbaaGreatDoor
set_option linter.unusedVariables false
set_option maxRecDepth 100000
theorem page_same {rs : List (Int × Int × Int)} (hm : mapOk rs=true) (a : Int) (ha : 0<=a) : pageOf rs a=if a < 16 then (pages rs).getD a.toNat 0 else -1:=by
  unfold pageOf;by_cases h : a < 16
  · rw [if_pos ⟨hm,ha,by omega⟩,if_pos h]
  · rw [if_neg (fun q=>h (by omega)),if_neg h]
theorem write_code (s : Sf) (i : Nat) (b : Pb) (o : Oq) (page : Int) : ((doWrite s i b o page).2.1=9 ↔ (zeros s.cs=0/\¬ (0<=page/\s.cs.getD page.toNat 0=1)))/\((doWrite s i b o page).2.1=9\/(doWrite s i b o page).2.1=0):=by
  have hz:=spare_zero s.cs;unfold doWrite;by_cases h : 0<=page/\s.cs.getD page.toNat 0=1
  · rw [if_pos h]
    exact ⟨⟨fun q=>(by cases q),fun q=>absurd h q.2⟩,.inr rfl⟩
  · rw [if_neg h]
    by_cases h2 : firstFree s.cs < s.cs.length
    · rw [if_pos h2]
      exact ⟨⟨fun q=>(by cases q),fun q=>absurd q.1 (hz.1 h2)⟩,.inr rfl⟩
    · rw [if_neg h2]
      refine ⟨⟨fun _=>⟨?_,h⟩,fun _=>rfl⟩,.inl rfl⟩;by_cases h3 : zeros s.cs=0
      · exact h3
      · exact absurd (hz.2 h3) h2
theorem full_law {s : Sf} {o : Oq} (hs : shelfOk s=true) (ho : opOk o=true) (hk : o.k=2) (hf : 0<=findP s.bs o.nm) (b : Pb) (hb : bookAt s.bs (findP s.bs o.nm)=b) (hbo : b.ok=true) :
    ((o.ep < b.ep\/b.fx=true\/b.sz<=o.at_)->(didOp s o).2.1 ≠ 9/\(didOp s o).2.1 ≠ 0) /\
    (¬ (o.ep < b.ep\/b.fx=true\/b.sz<=o.at_)->((didOp s o).2.1=9 ↔ (zeros s.cs=0/\¬ (0<=pageOf b.rs o.at_/\s.cs.getD (pageOf b.rs o.at_).toNat 0=1)))/\((didOp s o).2.1=9\/(didOp s o).2.1=0)):=by
  rw [didOp_yes hs]
  have h1:=((do_write s o ho hk).2 hf)
  rw [hb] at h1;refine ⟨h1.1,fun h=>?_⟩;rw [h1.2 h,page_same (book_parts hbo).2.2.2.1 o.at_ (opOk_bd o ho).2.2.2.1.1];exact write_code _ _ _ _ _
theorem not_full {s : Sf} {o : Oq} (h : ¬ (shelfOk s=true/\opOk o=true/\o.k=2)) : (didOp s o).2.1 ≠ 9:=by
  intro q;cases hs : shelfOk s
  · rw [didOp_no hs] at q
    cases q
  · rw [didOp_yes hs] at q
    have:=do_full_write s o q;exact h ⟨hs,this.1,this.2⟩
theorem write_none {s : Sf} {o : Oq} (hs : shelfOk s=true) (ho : opOk o=true) (hk : o.k=2) (hf : findP s.bs o.nm < 0) : (didOp s o).2.1=2:=by
  rw [didOp_yes hs];exact (do_write s o ho hk).1 hf
theorem page_below {cs ps : List Int} {bks : List Bk} (hinv : ShInv ⟨cs,ps,bks.map Bk.pb⟩) (i : Nat) (h : i < bks.length) (a : Int) (ha : 0<=a) : pageOf (bks[i]'h).rs a < cs.length:=by
  have hi : i < (bks.map Bk.pb).length:=by rw [List.length_map];exact h
  have e : ((bks.map Bk.pb)[i]'hi)=(bks[i]'h).pb:=by rw [List.getElem_map]
  have hm:=hinv.mapOk i hi;simp only [e] at hm;rw [page_same (rs:=(bks[i]'h).rs) hm a ha]
  split
  · rename_i h16
    by_cases h0 : 0<=(pages (bks[i]'h).rs).getD a.toNat 0
    · have hl : a.toNat < (pages (bks[i]'h).rs).length:=by rw [pages_length];omega
      have hg : (pages (bks[i]'h).rs).getD a.toNat 0=(pages (bks[i]'h).rs)[a.toNat]'hl:=by rw [List.getD_eq_getElem?_getD,List.getElem?_eq_getElem hl];rfl
      have hp:=hinv.page i hi ((pages (bks[i]'h).rs).getD a.toNat 0) (by simp only [e];rw [hg];exact List.getElem_mem hl) h0;exact hp.1
    · omega
  · omega
end Go.Proofs.YtaekdfknkgmfbaaGreatDoor
namespace Go.Proofs.YtaekdfknkgmfbaaGreatDoor
open Go.RowKit
set_option linter.unusedVariables false
set_option maxRecDepth 100000
set_option maxHeartbeats 1600000 in
theorem specReads_any (v1 v2 vb : Value) (cs ps : List Int) (bks : List Bk) (nm : ByteArray) (at_ : Int) (w : World) (hnb : ∀ b ∈ bks,b.nm.size<=maxLen) (hn : nm.size<=maxLen) (r1 : Reads w.heap.size w v1 (cs.map (Value.int .i64))) (r2 : Reads w.heap.size w v2 (ps.map (Value.int .i64))) (rb : ReadsB w.heap.size w vb bks) :
    Calls Tryz.prog 30 #[.agg #[v1,v2,vb],.string nm,.int .i64 at_] w fun e w'=>e = .returned (.int .i64 (readsOf ⟨cs,ps,bks.map Bk.pb⟩ nm at_))/\Below w.heap.size w w':=by
  obtain ⟨o1,cp1,f1,-,-,-⟩:=id r1;obtain ⟨o2,cp2,f2,-,-,-⟩:=id r2;obtain ⟨ob,cpb,f3,-,-,-⟩:=id rb.row;simp only [List.length_map] at f1 f2;subst f1 f2 f3;obtain ⟨W0,hW0,k0,d0,z0⟩:=box1 w #[.slice o1 cs.length cp1,.slice o2 ps.length cp2,.slice ob bks.length cpb] 29;have s1:=(r1.below d0).mono d0.size;have s2:=(r2.below d0).mono d0.size;have sb:=(rb.below d0).mono d0.size;have HW0 : Hid (W0 = _):=hW0;clear hW0 z0 r1 r2 rb k0
  go_enter Tryz.func30,Tryz.ntmps30
  go_wp2_with fail
  rw [<- HW0.out];clear HW0;refine (specDid_any _ _ _ cs ps bks 9 nm ⟨#[]⟩ at_ 0 0 _ hnb hn (Nat.zero_le _) s1 s2 sb).mono ?_;rintro e w1 ⟨u1,u2,ub,rfl,rs,b1⟩;replace d0:=bw_call d0 b1;obtain ⟨bks',rb',-⟩:=rs.b;obtain ⟨p1,q1,g1,-,-,-⟩:=rs.c;obtain ⟨p2,q2,g2,-,-,-⟩:=rs.p;obtain ⟨p3,q3,g3,-,-,-⟩:=rb'.row;subst g1 g2 g3;have HN : Hid _:=@readsOf_no ⟨cs,ps,bks.map Bk.pb⟩ nm at_;have HY : Hid _:=@readsOf_yes ⟨cs,ps,bks.map Bk.pb⟩ nm at_;generalize didOp ⟨cs,ps,bks.map Bk.pb⟩ ⟨9,nm,⟨#[]⟩,at_,0,0⟩=D at *;obtain ⟨s',c,v⟩:=D;simp only at HN HY ⊢;clear s1 s2 sb b1 rs rb';by_cases hc : c=0
  · have HV : Hid _:=HY.out hc
    subst hc
    go_wp2_with fail
    go_ret;exact ⟨ret_int HV.out.symm,bw_alloc (bw_alloc d0)⟩
  · have HV : Hid _:=HN.out hc
    have hcb : (c != 0)=true:=by rw [bne_iff_ne];exact hc
    go_wp2_with fail
    go_ret;exact ⟨ret_int HV.out.symm,bw_alloc (bw_alloc d0)⟩
set_option maxHeartbeats 1600000 in
theorem implReads_any (v1 v2 vb : Value) (cs ps : List Int) (bks : List Bk) (nm : ByteArray) (at_ : Int) (w : World) (ad : Nat->Addr) (hv : VarsS w ad) (hnb : ∀ b ∈ bks,b.nm.size<=maxLen) (hf : ∀ b ∈ bks,FitRuns b.rs) (hn : nm.size<=maxLen) (fa : I64 at_) (r : RS w.heap.size w v1 v2 vb cs ps bks) :
    Calls Tryz.prog 29 #[.agg #[v1,v2,vb],.string nm,.int .i64 at_] w fun e w'=>e = .returned (.int .i64 (readsOf ⟨cs,ps,bks.map Bk.pb⟩ nm at_))/\Below w.heap.size w w':=by
  obtain ⟨o1,cp1,o2,cp2,ob,cpb,rfl,rfl,rfl⟩:=r.forms;obtain ⟨W0,hW0,k0,d0,z0⟩:=box1 w #[.slice o1 cs.length cp1,.slice o2 ps.length cp2,.slice ob bks.length cpb] 29;have r0:=(r.below d0).mono d0.size;have hv0:=hv.below d0;have HW0 : Hid (W0 = _):=hW0;clear hW0 z0 r k0 hv
  go_enter Tryz.func29,Tryz.ntmps29
  go_wp2_with fail
  rw [<- HW0.out];clear HW0;refine (implDid_any _ _ _ cs ps bks 9 nm ⟨#[]⟩ at_ 0 0 _ ad hv0 hnb hf hn (Nat.zero_le _) ⟨by decide,by decide⟩ fa ⟨by decide,by decide⟩ ⟨by decide,by decide⟩ r0).mono ?_;rintro e w1 ⟨u1,u2,ub,ms,rfl,ow,-,b1⟩;replace d0:=bw_call d0 b1;obtain ⟨p1,q1,p2,q2,p3,q3,g1,g2,g3⟩:=ow.forms;subst g1 g2 g3;have HN : Hid _:=@readsOf_no ⟨cs,ps,bks.map Bk.pb⟩ nm at_;have HY : Hid _:=@readsOf_yes ⟨cs,ps,bks.map Bk.pb⟩ nm at_;generalize didOp ⟨cs,ps,bks.map Bk.pb⟩ ⟨9,nm,⟨#[]⟩,at_,0,0⟩=D at *;obtain ⟨s',c,v⟩:=D;simp only at HN HY ⊢;clear r0 hv0 b1 ow;by_cases hc : c=0
  · have HV : Hid _:=HY.out hc
    subst hc
    go_wp2_with fail
    go_ret;exact ⟨ret_int HV.out.symm,bw_alloc (bw_alloc d0)⟩
  · have HV : Hid _:=HN.out hc
    have hcb : (c != 0)=true:=by rw [bne_iff_ne];exact hc
    go_wp2_with fail
    go_ret;exact ⟨ret_int HV.out.symm,bw_alloc (bw_alloc d0)⟩
end Go.Proofs.YtaekdfknkgmfbaaGreatDoor
