import Derived.Test.YtfkkapdofjhgpaaGreatDoorM01
import Derived.Test.YtfkkapdofjhgpaaGreatDoorM04
import Derived.Test.YtfkkapdofjhgpaaGreatDoorM05
import Derived.Test.YtfkkapdofjhgpaaGreatDoorM08
import Derived.Test.YtfkkapdofjhgpaaGreatDoorM11
import Derived.Test.YtfkkapdofjhgpaaGreatDoorM13
import Derived.Test.YtfkkapdofjhgpaaGreatDoorM14
import Derived.Test.YtfkkapdofjhgpaaGreatDoorM15
import Derived.Test.YtfkkapdofjhgpaaGreatDoorM16
set_option maxHeartbeats 12800000
namespace Go.Proofs.YtfkkapdofjhgpaaGreatDoor
open Go.RowKit
set_option linter.unusedVariables false
set_option maxRecDepth 100000
theorem ztd (G : Nat->Prop) (C : Array Value) (T : TypeId) (off base b : Nat) (v1 v2 vb : Value) (bks : List Bk) (s : Sf) (k : Int) (nm ot : ByteArray) (at_ va ep : Int) (w : World) (hn : nm.size<=maxLen) (ho : ot.size<=maxLen) (inv : ShInv s) (st : ShSg G C T off base b w v1 v2 vb bks s) :
    Calls Tryz.prog 86 #[.pointer (some ⟨b,off,none⟩),.agg #[.int .i64 k,.string nm,.string ot,.int .i64 at_,.int .i64 va,.int .i64 ep]] w (DoPostG G C T off base b v1 v2 s ⟨k,nm,ot,at_,va,ep⟩ w):=by
  cases hok : opOk ⟨k,nm,ot,at_,va,ep⟩
  · exact ztc G C T off base b v1 v2 vb bks s k nm ot at_ va ep w hn ho inv st hok
  · by_cases href : za5 s.bs ⟨k,nm,ot,at_,va,ep⟩=0
    · have hk:=(zkl _ hok).1
      simp only at hk;have h : k=1\/k=2\/k=3\/k=4\/k=5\/k=6\/k=7\/k=8\/k=9:=by omega
      rcases h with rfl | rfl | rfl | rfl | rfl | rfl | rfl | rfl | rfl
      · exact zx7 G C T off base b v1 v2 vb bks s nm ot at_ va ep w hn ho inv st hok href
      · exact zx8 G C T off base b v1 v2 vb bks s nm ot at_ va ep w hn ho inv st hok href
      · exact zx9 G C T off base b v1 v2 vb bks s nm ot at_ va ep w hn ho inv st hok href
      · exact zxa G C T off base b v1 v2 vb bks s nm ot at_ va ep w hn ho inv st hok href
      · exact zxb G C T off base b v1 v2 vb bks s nm ot at_ va ep w hn ho inv st hok href
      · exact zxc G C T off base b v1 v2 vb bks s nm ot at_ va ep w hn ho inv st hok href
      · exact zxd G C T off base b v1 v2 vb bks s nm ot at_ va ep w hn ho inv st hok href
      · exact zxe G C T off base b v1 v2 vb bks s nm ot at_ va ep w hn ho inv st hok href
      · exact zxf G C T off base b v1 v2 vb bks s nm ot at_ va ep w hn ho inv st hok href
    · exact zrb G C T off base b v1 v2 vb bks s k nm ot at_ va ep w hn ho inv st hok href
end Go.Proofs.YtfkkapdofjhgpaaGreatDoor
namespace Go.Proofs.YtfkkapdofjhgpaaGreatDoor
theorem zrc (cs ps : List Int) (v : Int) (h : poolOk cs ps=true) (hf : ¬ (zaf cs < cs.length/\0<=v/\v<=999)) : takenPage cs ps v=((cs,ps),-1):=by rw [takenPage,if_pos h,if_neg hf]
theorem zrd (cs ps : List Int) (v : Int) (h : poolOk cs ps=true) (hf : zaf cs < cs.length/\0<=v/\v<=999) : takenPage cs ps v=((cs.set (zaf cs) 1,ps.set (zaf cs) v),(zaf cs : Int)):=by rw [takenPage,if_pos h,if_pos hf]
end Go.Proofs.YtfkkapdofjhgpaaGreatDoor
namespace Go.Proofs.YtfkkapdofjhgpaaGreatDoor
open Go.RowKit
set_option linter.unusedVariables false
set_option maxRecDepth 100000
def zaj (s : List Int × List Int) (l : List Int) : List Int × List Int:=l.foldl (fun s p=>(dropped s.1 s.2 p).1) s
def zax (s : List Int × List Int) (l : List Int) : List Int × List Int:=l.foldl (fun s p=>(shared s.1 s.2 p).1) s
def writtenS (cs ps : List Int) (rs : List (Int × Int × Int)) (at_ v : Int) : Option ((List Int × List Int) × List (Int × Int × Int)) :=
  if zas cs (pageOf rs at_)=1 then some ((cs.set (pageOf rs at_).toNat 1,ps.set (pageOf rs at_).toNat v),rs)
  else if (takenPage cs ps v).2 < 0 then none
  else some ((dropped (takenPage cs ps v).1.1 (takenPage cs ps v).1.2 (pageOf rs at_)).1,(mapped rs at_ (takenPage cs ps v).2).1)
theorem zhf {n : Nat} {cs ps : List Int} (h : Cells n cs ps) (hn : 1<=n/\n<=24) (hb : ∀ k,k < n->0<=cs.getD k 0/\cs.getD k 0<=400) : poolOk cs ps=true:=by
  have hc:=h.c;have hp:=h.p;refine (poolOk_iff cs ps).2 ⟨by omega,by omega,by omega,fun j hj=>(cellOk_iff _ _).2 ?_⟩;have h1:=hb j (by omega);have h2:=h.val j (by omega);exact ⟨h1.1,h1.2,h2.1,h2.2.1,h2.2.2⟩
theorem zgw {n : Nat} {cs ps : List Int} (h : Cells n cs ps) (hn : 1<=n/\n<=24) (hb : ∀ k,k < n->0<=cs.getD k 0/\cs.getD k 0<=400) (k : Nat) (hk : k < n) (h1 : 1<=cs.getD k 0) : dropped cs ps (k : Int)=(dropOne (cs,ps) (k : Int),true):=by
  have hc:=h.c
  have e : dropOne (cs,ps) (k : Int)=(cs.set k (cs.getD k 0 - 1),if cs.getD k 0=1 then ps.set k 0 else ps):=by
    rw [dropOne,if_pos (by omega : (0 : Int)<=(k : Int)),Int.toNat_natCast]
  rw [e,dropped,if_pos (zhf h hn hb),zeu cs k (by omega),if_pos h1,Int.toNat_natCast]
theorem zjr {n : Nat} {cs ps : List Int} (h : Cells n cs ps) (hn : 1<=n/\n<=24) (hb : ∀ k,k < n->0<=cs.getD k 0/\cs.getD k 0<=400) (p : Int) (hp : p < 0) : dropped cs ps p=(dropOne (cs,ps) p,false):=by
  have hc : zas cs p=0:=by rw [zas,if_neg (by omega)]
  rw [dropped,if_pos (zhf h hn hb),hc,if_neg (by omega),dropOne,if_neg (by omega)]
theorem zre {n : Nat} {cs ps : List Int} (h : Cells n cs ps) (hn : 1<=n/\n<=24) (hb : ∀ k,k < n->0<=cs.getD k 0/\cs.getD k 0<=400) (k : Nat) (hk : k < n) (h1 : 1<=cs.getD k 0/\cs.getD k 0 < 400) : shared cs ps (k : Int)=((cs.set k (cs.getD k 0+1),ps),true):=by
  have hc:=h.c;rw [shared,if_pos (zhf h hn hb),zeu cs k (by omega),if_pos h1,Int.toNat_natCast]
theorem zk5 {n : Nat} (hn : 1<=n/\n<=24) (l : List Int) : ∀ {cs ps : List Int},Cells n cs ps->(∀ k,k < n->0<=cs.getD k 0/\cs.getD k 0<=400)->(∀ p ∈ l,0<=p/\p < n)->(∀ k,k < n->(l.count (k : Int) : Int)<=cs.getD k 0)->zaj (cs,ps) l=dropAll (cs,ps) l:=by
  induction l with
  | nil=>intro cs ps _ _ _ _;rfl
  | cons p t ih =>
    intro cs ps h hb hp hc;obtain ⟨h0,hm⟩:=hp p (List.mem_cons_self ..);obtain ⟨m,rfl⟩:=Int.eq_ofNat_of_zero_le h0;have hm' : m < n:=by omega
    have h1 : 1<=cs.getD m 0:=by
      have:=hc m hm';rw [List.count_cons_self] at this
      omega
    obtain ⟨c1,g1⟩:=zg6 h m hm' h1
    show zaj (dropped cs ps (m : Int)).1 t=dropAll (dropOne (cs,ps) (m : Int)) t
    rw [zgw h hn hb m hm' h1]
    show zaj ((dropOne (cs,ps) (m : Int)).1,(dropOne (cs,ps) (m : Int)).2) t=dropAll ((dropOne (cs,ps) (m : Int)).1,(dropOne (cs,ps) (m : Int)).2) t
    refine ih c1 (fun k hk=>?_) (fun q hq=>hp q (List.mem_cons_of_mem _ hq)) (fun k hk=>?_)
    · have:=hb k hk
      rw [g1]
      split
      · rename_i e;subst e;omega
      · exact this
    · have:=hc k hk
      rw [List.count_cons] at this;rw [g1];by_cases ek : m=k
      · subst ek;rw [if_pos rfl];rw [beq_self_eq_true,if_pos rfl] at this;omega
      · rw [if_neg ek]
        have hne : ((m : Int) == (k : Int))=false:=by rw [beq_eq_false_iff_ne];omega
        rw [hne,if_neg (by decide)] at this
        omega
theorem zl9 (l : List Int) : ∀ s : List Int × List Int,dropAll s (l.filter (fun p=>decide (0<=p)))=dropAll s l:=by
  induction l with
  | nil=>intro s;rfl
  | cons p t ih =>
    intro s;by_cases h0 : 0<=p
    · rw [List.filter_cons_of_pos (by simpa using h0)]
      exact ih (dropOne s p)
    · rw [List.filter_cons_of_neg (by simpa using h0)]
      have e : dropAll s (p :: t)=dropAll (dropOne s p) t:=rfl;rw [e,ih,dropOne,if_neg h0]
theorem zla {n : Nat} (hn : 1<=n/\n<=24) (l : List Int) : ∀ {cs ps : List Int},Cells n cs ps->(∀ k,k < n->0<=cs.getD k 0/\cs.getD k 0+(l.count (k : Int) : Int)<=400)->(∀ p ∈ l,0<=p/\p < n)->(∀ p ∈ l,1<=cs.getD p.toNat 0)->zax (cs,ps) l=(shareAll cs l,ps):=by
  induction l with
  | nil=>intro cs ps _ _ _ _;rfl
  | cons p t ih =>
    intro cs ps h hb hp hc;obtain ⟨h0,hm⟩:=hp p (List.mem_cons_self ..);obtain ⟨m,rfl⟩:=Int.eq_ofNat_of_zero_le h0;have hm' : m < n:=by omega
    have h1:=hc (m : Int) (List.mem_cons_self ..);rw [Int.toNat_natCast] at h1;have hcl:=h.c;have h2:=hb m hm';rw [List.count_cons_self] at h2
    have g1 : ∀ j,(cs.set m (cs.getD m 0+1)).getD j 0=if m=j then cs.getD j 0+1 else cs.getD j 0:=fun j=>by
      rw [zd2 cs m j _ (by omega)]
      split
      · rename_i e;rw [e]
      · rfl
    have hb' : ∀ k,k < n->0<=cs.getD k 0/\cs.getD k 0<=400:=fun k hk=>by have:=hb k hk;omega
    show zax (shared cs ps (m : Int)).1 t=(shareAll (cs.set (m : Int).toNat (cs.getD (m : Int).toNat 0+1)) t,ps)
    rw [zre h hn hb' m hm' (by omega),Int.toNat_natCast]
    have c1 : Cells n (cs.set m (cs.getD m 0+1)) ps:=⟨by simpa using hcl,h.p,fun k hk=>by
      have hv:=h.val k hk;refine ⟨hv.1,hv.2.1,fun q=>hv.2.2 ?_⟩;rw [g1] at q;by_cases e : m=k
      · subst e;rw [if_pos rfl] at q;omega
      · rwa [if_neg e] at q⟩
    refine ih c1 (fun k hk=>?_) (fun q hq=>hp q (List.mem_cons_of_mem _ hq)) (fun q hq=>?_)
    · have:=hb k hk
      rw [List.count_cons] at this;rw [g1];by_cases e : m=k
      · subst e;rw [if_pos rfl];rw [beq_self_eq_true,if_pos rfl] at this;omega
      · rw [if_neg e]
        have hne : ((m : Int) == (k : Int))=false:=by rw [beq_eq_false_iff_ne];omega
        rw [hne,if_neg (by decide)] at this
        omega
    · have:=hc q (List.mem_cons_of_mem _ hq)
      rw [g1]
      split <;> omega
theorem ShInv.bound {s : Sf} (h : ShInv s) : ∀ k,k < s.cs.length->0<=s.cs.getD k 0/\s.cs.getD k 0<=96:=fun k hk=>by
  rw [h.cnt k hk];have h5:=ze5 s.bs (k : Int);have h6:=zcx s.bs (k : Int);have h7:=h.few
  omega
theorem ShInv.bound4 {s : Sf} (h : ShInv s) : ∀ k,k < s.cs.length->0<=s.cs.getD k 0/\s.cs.getD k 0<=400:=fun k hk=>by
  have:=h.bound k hk
  omega
theorem ShInv.poolOk {s : Sf} (h : ShInv s) : poolOk s.cs s.ps=true:=zhf h.cells h.n1 h.bound4
theorem ShInv.mapOk {s : Sf} (h : ShInv s) (i : Nat) (hi : i < s.bs.length) : mapOk s.bs[i].rs=true:=(zaw (h.oks _ (List.getElem_mem hi))).2.2.2.1
theorem ShInv.part {s : Sf} (h : ShInv s) (i : Nat) (hi : i < s.bs.length) (n : Nat) : zaj (s.cs,s.ps) (((za7 s.bs[i].rs).drop n).filter (fun p=>decide (0<=p)))=dropAll (s.cs,s.ps) ((za7 s.bs[i].rs).drop n):=by
  have hcn:=h.cells.c;rw [zk5 h.n1 _ h.cells h.bound4 (fun p hp=>?_) (fun k hk=>?_),zl9]
  · obtain ⟨h1,h2⟩:=List.mem_filter.1 hp
    have h3 : 0<=p:=by simpa using h2
    exact ⟨h3,(h.page i hi p (List.mem_of_mem_drop h1) h3).1⟩
  · have h1:=zhc h i hi k hk
    unfold Pb.cnt at h1;have h2:=(List.drop_sublist n (za7 s.bs[i].rs)).count_le (k : Int)
    have h3:=((List.filter_sublist (l:=(za7 s.bs[i].rs).drop n) (p:=fun p=>decide (0<=p))).count_le (k : Int))
    omega
theorem ShInv.whole {s : Sf} (h : ShInv s) (i : Nat) (hi : i < s.bs.length) : zaj (s.cs,s.ps) (pagesOf s.bs[i].rs)=dropAll (s.cs,s.ps) ((za7 s.bs[i].rs).drop 0):=by
  rw [<- h.part i hi 0,List.drop_zero,pagesOf,if_pos (h.mapOk i hi)]
theorem zpf (rs : List (Int × Int × Int)) (hm : mapOk rs=true) (n : Nat) (hn : n<=16) : (pagesOf rs).drop (pagesOf (belowM rs (n : Int))).length=((za7 rs).drop n).filter (fun p=>decide (0<=p)):=by
  obtain ⟨h1,h2,-⟩:=zj4 rs hm n hn
  have e1 : pagesOf (belowM rs (n : Int))=((za7 rs).take n).filter (fun p=>decide (0<=p)):=by
    rw [belowM,if_pos hm,pagesOf,if_pos h1,h2,zgq _ (zac rs) n hn,List.filter_append]
    have : (List.replicate (16 - n) (-1 : Int)).filter (fun p=>decide (0<=p)) = []:=by
      rw [List.filter_eq_nil_iff];intro a ha;simp only [List.mem_replicate] at ha;rw [ha.2]
      decide
    rw [this,List.append_nil]
  have e2 : pagesOf rs=((za7 rs).take n).filter (fun p=>decide (0<=p)) ++ ((za7 rs).drop n).filter (fun p=>decide (0<=p)):=by
    rw [pagesOf,if_pos hm,<- List.filter_append,List.take_append_drop]
  rw [e1,e2,List.drop_left]
theorem zgx {rs : List (Int × Int × Int)} (hm : mapOk rs=true) (at_ : Int) (h : 0<=at_/\at_ < 16) : pageOf rs at_=(za7 rs).getD at_.toNat 0:=by
  rw [pageOf,if_pos ⟨hm,by omega,by omega⟩]
theorem zlb {rs : List (Int × Int × Int)} (hm : mapOk rs=true) (at_ page : Int) (h : 0<=at_/\at_ < 16) (hp : -1<=page/\page<=23) : (mapped rs at_ page).1=mapOf ((za7 rs).set at_.toNat page):=by
  rw [mapped,if_pos hm,if_pos ⟨⟨by omega,by omega⟩,hp⟩]
structure OpIn (s : Sf) (o : Oq) (i : Nat) : Prop where
  inv : ShInv s
  ok : opOk o=true
  ref : za5 s.bs o=0
  lt : i < s.bs.length
  at_ : findP s.bs o.nm=i
theorem OpIn.book {s : Sf} {o : Oq} {i : Nat} (h : OpIn s o i) : zau s.bs (findP s.bs o.nm)=s.bs[i]'h.lt:=by rw [h.at_,zbz s.bs i h.lt]
theorem OpIn.go {s : Sf} {o : Oq} {i : Nat} (h : OpIn s o i) (h1 : o.k ≠ 1) (h6 : o.k ≠ 6) (h4 : kOther o.k=false) : doOp s o=doKind s o i (s.bs[i]'h.lt) (if o.at_ < 16 then (za7 (s.bs[i]'h.lt).rs).getD o.at_.toNat 0 else -1):=by
  rw [doOp,if_neg (by rw [h.ok];decide),if_neg (by rw [h.ref];simp),if_neg h1,if_neg h6,if_neg (by rw [h4];decide),h.book,h.at_,Int.toNat_natCast]
theorem OpIn.place {s : Sf} {o : Oq} {i : Nat} (h : OpIn s o i) (h1 : o.k ≠ 1) (ha : kAt o.k=true) : (0<=o.at_/\o.at_ < 16)/\o.at_ < (s.bs[i]'h.lt).sz:=by
  have h2:=(zbk h.ref).2.2.2.1 h1 ha;rw [h.book] at h2;have h3:=(zaw (h.inv.oks _ (List.getElem_mem h.lt))).2.1;have h4:=(zc9 h.ok).2.2.2.1
  omega
theorem zxg {s : Sf} {o : Oq} (ho : opOk o=true) (hr : za5 s.bs o=0) (hk : o.k=1) : doOp s o=(⟨s.cs,s.ps,insertP s.bs ⟨o.nm,o.va,[],false,0⟩⟩,(0,0)):=by
  rw [doOp,if_neg (by rw [ho];decide),if_neg (by rw [hr];simp),if_pos hk]
theorem zxh {s : Sf} {o : Oq} {i : Nat} (h : OpIn s o i) (hk : o.k=9) : doOp s o=(s,(0,if pageOf (s.bs[i]'h.lt).rs o.at_ < 0 then 0 else s.ps.getD (pageOf (s.bs[i]'h.lt).rs o.at_).toNat 0)):=by
  have hp:=h.place (by omega) (by rw [hk];decide);rw [h.go (by omega) (by omega) (by rw [hk];decide),doKind,if_pos hk,if_pos hp.1.2,zgx (h.inv.mapOk i h.lt) _ hp.1]
theorem zte {s : Sf} {o : Oq} {i : Nat} (h : OpIn s o i) (hk : o.k=8) : doOp s o=(⟨s.cs,s.ps,s.bs.set i { s.bs[i]'h.lt with ep:=(s.bs[i]'h.lt).ep+1 }⟩,(0,(s.bs[i]'h.lt).ep+1)):=by
  rw [h.go (by omega) (by omega) (by rw [hk];decide),doKind,if_neg (by omega),if_pos hk]
theorem zxi {s : Sf} {o : Oq} {i : Nat} (h : OpIn s o i) (hk : o.k=3) : doOp s o=(⟨(dropped s.cs s.ps (pageOf (s.bs[i]'h.lt).rs o.at_)).1.1,(dropped s.cs s.ps (pageOf (s.bs[i]'h.lt).rs o.at_)).1.2,s.bs.set i { s.bs[i]'h.lt with rs:=(mapped (s.bs[i]'h.lt).rs o.at_ (-1)).1 }⟩,(0,0)):=by
  have hp:=h.place (by omega) (by rw [hk];decide);have hm:=h.inv.mapOk i h.lt;have hi:=h.lt;rw [h.go (by omega) (by omega) (by rw [hk];decide),doKind,if_neg (by omega),if_neg (by omega),if_neg (by omega),if_pos hk,if_pos hp.1.2,zgx hm _ hp.1,zlb hm _ _ hp.1 (by omega)];by_cases h0 : 0<=(za7 s.bs[i].rs).getD o.at_.toNat 0
  · rw [if_pos h0]
    have hmem : (za7 s.bs[i].rs).getD o.at_.toNat 0 ∈ za7 s.bs[i].rs:=(zct _ (zac _) _).2 ⟨_,by omega,rfl⟩;obtain ⟨h1,h2⟩:=h.inv.page i hi _ hmem h0;generalize (za7 s.bs[i].rs).getD o.at_.toNat 0=p at *;obtain ⟨m,rfl⟩:=Int.eq_ofNat_of_zero_le h0;rw [zgw h.inv.cells h.inv.n1 h.inv.bound4 m (by omega) (by simpa using h2)]
  · rw [if_neg h0,zjr h.inv.cells h.inv.n1 h.inv.bound4 _ (by omega),dropOne,if_neg h0]
    have h2 : (za7 s.bs[i].rs).set o.at_.toNat (-1)=za7 s.bs[i].rs:=by
      have h3:=zbg _ hm o.at_.toNat (by omega);have h4 : (za7 s.bs[i].rs).getD o.at_.toNat 0 = -1:=by omega
      rw [<- h4,zib]
    rw [h2,zjl _ hm];have h5 : s.bs.set i { s.bs[i] with rs:=s.bs[i].rs } = s.bs:=List.set_getElem_self hi;rw [h5]
theorem zxj {s : Sf} {o : Oq} {i : Nat} (h : OpIn s o i) (hk : o.k=4\/o.k=5) : doOp s o=(⟨(zax (s.cs,s.ps) (pagesOf (s.bs[i]'h.lt).rs)).1,(zax (s.cs,s.ps) (pagesOf (s.bs[i]'h.lt).rs)).2,insertP s.bs ⟨o.ot,(s.bs[i]'h.lt).sz,(s.bs[i]'h.lt).rs,o.k == 4,0⟩⟩,(0,0)):=by
  have hi:=h.lt;have hm:=h.inv.mapOk i hi;have hcn:=h.inv.cells.c
  have hsub : ∀ p ∈ pagesOf s.bs[i].rs,0<=p/\p ∈ za7 s.bs[i].rs:=fun p hp=>by
    rw [pagesOf,if_pos hm] at hp;obtain ⟨a,b⟩:=List.mem_filter.1 hp;exact ⟨by simpa using b,a⟩
  have e : zax (s.cs,s.ps) (pagesOf s.bs[i].rs)=(shareAll s.cs (pagesOf s.bs[i].rs),s.ps):=by
    refine zla h.inv.n1 _ h.inv.cells (fun k hk=>?_) (fun p hp=>?_) (fun p hp=>?_)
    · have h1:=h.inv.bound k hk
      have h2 : (pagesOf s.bs[i].rs).count (k : Int)<=16:=by
        have h3:=List.count_le_length (a:=(k : Int)) (l:=pagesOf s.bs[i].rs)
        have h4 : (pagesOf s.bs[i].rs).length<=16:=by
          rw [pagesOf,if_pos hm];have h5:=List.length_filter_le (fun p=>decide (0<=p)) (za7 s.bs[i].rs);rw [zac] at h5;exact h5
        omega
      omega
    · obtain ⟨a,b⟩:=hsub p hp
      exact ⟨a,(h.inv.page i hi p b a).1⟩
    · obtain ⟨a,b⟩:=hsub p hp
      exact (h.inv.page i hi p b a).2
  have hko : kOther o.k=true:=by rcases hk with q | q <;> rw [q] <;> decide
  rw [doOp,if_neg (by rw [h.ok];decide),if_neg (by rw [h.ref];simp),if_neg (by omega),if_neg (by omega),if_pos hko,h.book,e];have e4 : decide (o.k=4)=(o.k == 4):=rfl;rw [e4]
theorem ztf {s : Sf} {o : Oq} {i : Nat} (h : OpIn s o i) (hk : o.k=6) : doOp s o=(⟨(zaj (s.cs,s.ps) (pagesOf (s.bs[i]'h.lt).rs)).1,(zaj (s.cs,s.ps) (pagesOf (s.bs[i]'h.lt).rs)).2,s.bs.take i ++ s.bs.drop (i+1)⟩,(0,0)):=by
  have hi:=h.lt;rw [doOp,if_neg (by rw [h.ok];decide),if_neg (by rw [h.ref];simp),if_neg (by omega),if_pos hk,h.inv.whole i hi,h.at_,Int.toNat_natCast,cutBook,zbz s.bs i hi]
theorem ztg {s : Sf} {o : Oq} {i : Nat} (h : OpIn s o i) (hk : o.k=7) : doOp s o=(⟨(zaj (s.cs,s.ps) ((pagesOf (s.bs[i]'h.lt).rs).drop (pagesOf (belowM (s.bs[i]'h.lt).rs o.va)).length)).1,(zaj (s.cs,s.ps) ((pagesOf (s.bs[i]'h.lt).rs).drop (pagesOf (belowM (s.bs[i]'h.lt).rs o.va)).length)).2,s.bs.set i { s.bs[i]'h.lt with sz:=o.va,rs:=belowM (s.bs[i]'h.lt).rs o.va }⟩,(0,0)):=by
  have hi:=h.lt;have hm:=h.inv.mapOk i hi;have hv:=(zc9 h.ok).2.2.2.2.1 (by rw [hk];decide);obtain ⟨n,hn⟩:=Int.eq_ofNat_of_zero_le (show 0<=o.va by omega);rw [h.go (by omega) (by omega) (by rw [hk];decide),doKind,if_neg (by omega),if_neg (by omega),if_pos hk,hn,zpf _ hm n (by omega),h.inv.part i hi n,Int.toNat_natCast,cutBook,zbz s.bs i hi];simp only;rw [zbz _ i (by simpa using hi),List.getElem_set_self,List.set_set,belowM,if_pos hm]
theorem zth {s : Sf} {o : Oq} {i : Nat} (h : OpIn s o i) (hk : o.k=2) : doOp s o=match writtenS s.cs s.ps (s.bs[i]'h.lt).rs o.at_ o.va with
    | none=>(s,(9,0))
    | some X=>(⟨X.1.1,X.1.2,s.bs.set i { s.bs[i]'h.lt with rs:=X.2 }⟩,(0,0)):=by
  have hp:=h.place (by omega) (by rw [hk];decide);have hi:=h.lt;have hm:=h.inv.mapOk i hi;have hcn:=h.inv.cells.c;have hpn:=h.inv.cells.p;have hn1:=h.inv.n1;have hv:=(zc9 h.ok).2.2.2.2.2 hk;have hmem : (za7 s.bs[i].rs).getD o.at_.toNat 0 ∈ za7 s.bs[i].rs:=(zct _ (zac _) _).2 ⟨_,by omega,rfl⟩;have hpg:=h.inv.page i hi _ hmem;rw [h.go (by omega) (by omega) (by rw [hk];decide),doKind,if_neg (by omega),if_neg (by omega),if_neg (by omega),if_neg (by omega),if_pos hp.1.2,writtenS,zgx hm _ hp.1,doWrite];have hr:=zbg _ hm o.at_.toNat (by omega)
  obtain ⟨p,hpp⟩ : ∃ p,(za7 s.bs[i].rs).getD o.at_.toNat 0=p:=⟨_,rfl⟩
  rw [hpp] at hpg hr ⊢;have hca : 0<=p->zas s.cs p=s.cs.getD p.toNat 0:=fun h0=>by rw [zas,if_pos ⟨h0,(hpg h0).1⟩]
  by_cases h1 : 0<=p/\s.cs.getD p.toNat 0=1
  · rw [if_pos h1,hca h1.1,if_pos h1.2]
    simp only;have h2 : s.cs.set p.toNat 1=s.cs:=by rw [<- h1.2,zib]
    have h5 : s.bs.set i { s.bs[i] with rs:=s.bs[i].rs } = s.bs:=List.set_getElem_self hi;rw [h2,h5]
  · have h2 : ¬ zas s.cs p=1:=fun q=>by
      by_cases h0 : 0<=p
      · rw [hca h0] at q;exact h1 ⟨h0,q⟩
      · rw [zas,if_neg (by omega)] at q;omega
    rw [if_neg h1,if_neg h2];by_cases hf : zaf s.cs < s.cs.length
    · rw [if_pos hf,zrd _ _ _ h.inv.poolOk ⟨hf,hv⟩]
      simp only;rw [if_neg (by omega)];simp only;rw [zlb hm _ _ hp.1 (by omega)];have e1 : tookC s.cs=s.cs.set (zaf s.cs) 1:=by rw [tookC,if_pos hf]
      have e2 : tookP s.cs s.ps o.va=s.ps.set (zaf s.cs) o.va:=by rw [tookP,if_pos hf]
      have e3 : tookAt s.cs=(zaf s.cs : Int):=by rw [tookAt,if_pos hf]
      obtain ⟨ct,gt⟩:=Cells.took h.inv.cells o.va hv hf
      have hb' : ∀ k,k < s.cs.length->0<=(tookC s.cs).getD k 0/\(tookC s.cs).getD k 0<=400:=fun k hk'=>by
        have:=h.inv.bound k hk';rw [gt k hk']
        split <;> omega
      have e4 : (dropped (s.cs.set (zaf s.cs) 1) (s.ps.set (zaf s.cs) o.va) p).1=dropOne (s.cs.set (zaf s.cs) 1,s.ps.set (zaf s.cs) o.va) p:=by
        rw [<- e1,<- e2];by_cases h0 : 0<=p
        · have h3:=hpg h0
          obtain ⟨m,rfl⟩:=Int.eq_ofNat_of_zero_le h0;rw [zgw ct hn1 hb' m (by omega) (by have h4:=h3.2;rw [Int.toNat_natCast] at h4;rw [gt m (by omega)];split <;> omega)]
        · rw [zjr ct hn1 hb' _ (by omega)]
      rw [e1,e2,e3,e4]
    · rw [if_neg hf,zrc _ _ _ h.inv.poolOk (fun q=>hf q.1),if_pos (show ((s.cs,s.ps),(-1 : Int)).2 < 0 from by show (-1 : Int) < 0;decide)]
end Go.Proofs.YtfkkapdofjhgpaaGreatDoor
namespace Go.Proofs.YtfkkapdofjhgpaaGreatDoor
set_option linter.unusedVariables false
set_option maxRecDepth 100000
theorem zxk (n : Int) (h : 1<=n/\n<=24) : ShInv ⟨(zao n).1.1,(zao n).1.2,[]⟩:=by
  have e : zao n=((List.replicate n.toNat 0,List.replicate n.toNat 0),true):=by rw [zao,if_pos h]
  rw [e]
  have g : ∀ k : Nat,(List.replicate n.toNat (0 : Int)).getD k 0=0:=fun k=>by
    rw [List.getD_eq_getElem?_getD,List.getElem?_replicate]
    split <;> rfl
  refine ⟨?_,⟨rfl,?_,?_⟩,?_,?_,?_,?_,?_⟩
  · simp only [List.length_replicate];omega
  · simp only [List.length_replicate]
  · intro k _
    rw [g k]
    omega
  · exact Nat.zero_le _
  · intro b hb;cases hb
  · exact List.Pairwise.nil
  · intro k _
    show (List.replicate n.toNat (0 : Int)).getD k 0 = _
    rw [g k]
    rfl
  · intro k _ _
    rfl
end Go.Proofs.YtfkkapdofjhgpaaGreatDoor
namespace Go.Proofs.YtfkkapdofjhgpaaGreatDoor
open Go.RowKit
set_option linter.unusedVariables false
set_option maxRecDepth 100000
def zgg (s : Sf) (o : Oq) : Sf × (Int × Int):=if zcj s=true then doOp s o else (⟨[],[],[]⟩,(1,0))
theorem zvm {s : Sf} {o : Oq} (h : zcj s=false) : zgg s o=(⟨[],[],[]⟩,(1,0)):=by rw [zgg,if_neg (by rw [h];decide)]
theorem zj7 {s : Sf} {o : Oq} (h : zcj s=true) : zgg s o=doOp s o:=by rw [zgg,if_pos h]
theorem zo3 {w W : World} {c d : Nat} {x0 x1 x2 x3 x4 : Value} {T U : TypeId} (kc : W.heap[c]? = some (.cells #[x0,x1,x2] T (0,0))) (kd : W.heap[d]? = some (.cells #[x3,x4] U (0,0))) (hcd : ¬ c=d) (hb : w.heap.size<=c/\w.heap.size<=d) (h0 : Below w.heap.size w W) (y0 y1 y2 y3 y4 : Value) :
    (((((W.setCell ⟨c,0,none⟩ y0).setCell ⟨c,1,none⟩ y1).setCell ⟨c,2,none⟩ y2).setCell ⟨d,0,none⟩ y3).setCell ⟨d,1,none⟩ y4).heap[c]? = some (.cells #[y0,y1,y2] T (0,0)) /\
    (((((W.setCell ⟨c,0,none⟩ y0).setCell ⟨c,1,none⟩ y1).setCell ⟨c,2,none⟩ y2).setCell ⟨d,0,none⟩ y3).setCell ⟨d,1,none⟩ y4).heap[d]? = some (.cells #[y3,y4] U (0,0)) /\
    Below w.heap.size w (((((W.setCell ⟨c,0,none⟩ y0).setCell ⟨c,1,none⟩ y1).setCell ⟨c,2,none⟩ y2).setCell ⟨d,0,none⟩ y3).setCell ⟨d,1,none⟩ y4):=by
  have hdc : d ≠ c:=fun e=>hcd e.symm
  have e1:=zab (zab (zab kc 0 y0) 1 y1) 2 y2
  have e2 : (((W.setCell ⟨c,0,none⟩ y0).setCell ⟨c,1,none⟩ y1).setCell ⟨c,2,none⟩ y2).heap[d]? = some (.cells #[x3,x4] U (0,0)) :=
    (Below.heap_setCell _ ⟨c,2,none⟩ y2 d hdc).trans ((Below.heap_setCell _ ⟨c,1,none⟩ y1 d hdc).trans ((Below.heap_setCell _ ⟨c,0,none⟩ y0 d hdc).trans kd))
  refine ⟨(Below.heap_setCell _ ⟨d,1,none⟩ y4 c hcd).trans ((Below.heap_setCell _ ⟨d,0,none⟩ y3 c hcd).trans e1),zab (zab e2 0 y3) 1 y4,?_⟩;exact zb8 (p:=⟨d,1,none⟩) (zb8 (p:=⟨d,0,none⟩) (zb8 (p:=⟨c,2,none⟩) (zb8 (p:=⟨c,1,none⟩) (zb8 (p:=⟨c,0,none⟩) h0 hb.1 _) hb.1 _) hb.1 _) hb.2 _) hb.2 _
end Go.Proofs.YtfkkapdofjhgpaaGreatDoor
namespace Go.Proofs.YtfkkapdofjhgpaaGreatDoor
set_option linter.unusedVariables false
set_option maxRecDepth 100000
structure Ent where
  sq : Int
  cl : Int
  tg : Int
  o : Oq
def Ent.zero : Ent:=⟨0,0,0,Oq.zero⟩
def zbs (e : Ent) : List Value:=[.int .i64 e.sq,.int .i64 e.cl,.int .i64 e.tg,.int .i64 e.o.k,.string e.o.nm,.string e.o.ot,.int .i64 e.o.at_,.int .i64 e.o.va,.int .i64 e.o.ep]
theorem zay (e : Ent) : (zbs e).length=9:=rfl
def zfc (e : Ent) : Bool:=inB e.sq 1 1000 && inB e.tg 1 1000 && inB e.cl 0 3 && zdt e.o
def zc5 (n : Nat) (t : List Int) (e : Ent) : Bool:=zfc e && decide (e.sq=(n : Int)+1) && decide (t.getD e.cl.toNat 0 < e.tg)
def inOrd : Nat->List Int->List Ent->Nat
  | n,_,[]=>n
  | n,t,e :: es=>if zc5 n t e=true then inOrd (n+1) (t.set e.cl.toNat e.tg) es else n
def tags0 : List Int:=[0,0,0,0]
def logOk (l : List Ent) : Bool:=decide (l.length<=120) && decide (inOrd 0 tags0 l=l.length)
theorem zj8 {l : List Ent} {k : Nat} {t : List Int} (hk : k < l.length) (h : zc5 k t l[k]=true) : inOrd k t (l.drop k)=inOrd (k+1) (t.set l[k].cl.toNat l[k].tg) (l.drop (k+1)):=by
  rw [List.drop_eq_getElem_cons hk,inOrd,if_pos h]
theorem zih {l : List Ent} {k : Nat} {t : List Int} (hk : k < l.length) (h : zc5 k t l[k]=false) : inOrd k t (l.drop k)=k:=by
  rw [List.drop_eq_getElem_cons hk,inOrd,if_neg (by rw [h];decide)]
theorem znh {l : List Ent} {k : Nat} {t : List Int} (hk : ¬ k < l.length) : inOrd k t (l.drop k)=k:=by
  rw [List.drop_of_length_le (by omega),inOrd]
theorem zpg : ∀ (l : List Ent) (k : Nat) (t : List Int),k<=inOrd k t l/\inOrd k t l<=k+l.length
  | [],k,t=>by simp [inOrd]
  | e :: es,k,t=>by
    unfold inOrd
    split
    · have:=zpg es (k+1) (t.set e.cl.toNat e.tg)
      simp only [List.length_cons]
      omega
    · simp
theorem zgy {e : Ent} (h : zfc e=true) : (1<=e.sq/\e.sq<=1000)/\(1<=e.tg/\e.tg<=1000)/\(0<=e.cl/\e.cl<=3)/\zdt e.o=true:=by
  simp only [zfc,Bool.and_eq_true,inB_iff] at h;exact ⟨h.1.1.1,h.1.1.2,h.1.2,h.2⟩
end Go.Proofs.YtfkkapdofjhgpaaGreatDoor
namespace Go.Proofs.YtfkkapdofjhgpaaGreatDoor
open Nums
set_option linter.unusedVariables false
set_option maxRecDepth 100000
def ze4 (c v : Int) : Bool:=inB c 0 9 && inB v 0 1000 && (decide (c=0) || decide (v=0))
theorem zvn (c v : Int) : ze4 c v=(inB c 0 9 && inB v 0 (if c=0 then 1000 else 0)):=by
  unfold ze4;by_cases h : c=0
  · rw [if_pos h]
    simp [h]
  · rw [if_neg h,Bool.eq_iff_iff]
    simp only [Bool.and_eq_true,inB_iff,Bool.or_eq_true,decide_eq_true_eq]
    omega
def memAt (t : Int) (r : Int × Int) : Bool:=inB t 0 1000 && ze4 r.1 r.2 && (!decide (t=0) || decide (r=(0,0)))
def zxl (ts : List Int) (rs : List (Int × Int)) (n : Nat) : Bool:=(List.range n).all fun j=>memAt (ts.getD j 0) (rs.getD j (0,0))
def zdv (ts : List Int) (rs : List (Int × Int)) : Bool:=decide (ts.length=4) && decide (rs.length=4) && zxl ts rs 4
def zlc (t : Int) : Bool:=!(!decide (t=0) && !inB t 1 1000)
def zld (ts : List Int) (n : Nat) : Bool:=(List.range n).all fun j=>zlc (ts.getD j 0)
def repAt (t : Int) (r : Int × Int) : Bool:=ze4 r.1 r.2 && (!decide (t=0) || decide (r=(0,0)))
def zle (ts : List Int) (rs : List (Int × Int)) (n : Nat) : Bool:=(List.range n).all fun j=>repAt (ts.getD j 0) (rs.getD j (0,0))
theorem allB_succ (p : Nat->Bool) (n : Nat) : (List.range (n+1)).all p=((List.range n).all p && p n):=by
  rw [List.range_succ,List.all_append];simp
theorem zlf (p : Nat->Bool) (n j : Nat) (hj : j < n) (h : p j=false) : (List.range n).all p=false:=by
  rw [List.all_eq_false];exact ⟨j,List.mem_range.2 hj,by rw [h];decide⟩
theorem zvo (p q : Nat->Bool) (n : Nat) : ((List.range n).all fun j=>p j && q j)=((List.range n).all p && (List.range n).all q):=by
  induction n with
  | zero=>rfl
  | succ n ih=>rw [allB_succ,allB_succ,allB_succ,ih];cases (List.range n).all p <;> cases (List.range n).all q <;> cases p n <;> cases q n <;> rfl
theorem zvp (t : Int) (r : Int × Int) : memAt t r=(zlc t && repAt t r):=by
  have h : inB t 0 1000=zlc t:=by
    rw [Bool.eq_iff_iff,inB_iff,zlc]
    cases hb : inB t 1 1000 with
    | true=>rw [inB_iff] at hb;simp;omega
    | false =>
      have hb' : ¬ (1<=t/\t<=1000):=fun h=>by rw [<- inB_iff,hb] at h;cases h
      simp;omega
  rw [memAt,repAt,h,Bool.and_assoc]
theorem zxm (ts : List Int) (rs : List (Int × Int)) (n : Nat) : zxl ts rs n=(zld ts n && zle ts rs n):=by
  unfold zxl zld zle;rw [<- zvo]
  congr 1
  funext j
  exact zvp _ _
theorem zvq {ts : List Int} {rs : List (Int × Int)} (h1 : ts.length=4) (h2 : rs.length=4) : zdv ts rs=(zld ts 4 && zle ts rs 4):=by
  rw [zdv,h1,h2,zxm];rfl
theorem zph {ts : List Int} {rs : List (Int × Int)} (h : ¬ (ts.length=4/\rs.length=4)) : zdv ts rs=false:=by
  rw [zdv];by_cases h1 : ts.length=4
  · have h2 : ¬ rs.length=4:=fun e=>h ⟨h1,e⟩
    rw [decide_eq_false h2,Bool.and_false,Bool.false_and]
  · rw [decide_eq_false h1,Bool.false_and,Bool.false_and]
theorem zj9 {ts : List Int} {rs : List (Int × Int)} (h : zdv ts rs=true) : ts.length=4/\rs.length=4:=by
  by_cases hc : ts.length=4/\rs.length=4
  · exact hc
  · rw [zph hc] at h;cases h
theorem zvr {ts : List Int} {rs : List (Int × Int)} (h : zdv ts rs=true) (j : Nat) (hj : j < 4) : memAt (ts.getD j 0) (rs.getD j (0,0))=true:=by
  rw [zdv,Bool.and_eq_true] at h;exact List.all_eq_true.1 h.2 j (List.mem_range.2 hj)
def knownIn (ts : List Int) (client tag : Int) : Int:=if ts.getD client.toNat 0 < tag then 0 else if tag=ts.getD client.toNat 0 then 1 else 2
def zdw (ts : List Int) (client tag : Int) : Int:=if inB client 0 3=true/\inB tag 1 1000=true then knownIn ts client tag else -1
def zee (ts : List Int) (rs : List (Int × Int)) (client tag : Int) (r : Int × Int) : (List Int × List (Int × Int)) × Bool :=
  if zdv ts rs=true then (if zdw ts client tag=0/\ze4 r.1 r.2=true then ((ts.set client.toNat tag,rs.set client.toNat r),true) else ((ts,rs),false)) else (([],[]),false)
theorem zrf (ts : List Int) (client tag : Int) : 0<=knownIn ts client tag/\knownIn ts client tag<=2:=by
  unfold knownIn;split
  · omega
  · split <;> omega
theorem zti (ts : List Int) (client tag : Int) : -1<=zdw ts client tag/\zdw ts client tag<=2:=by
  unfold zdw;split
  · have:=zrf ts client tag;omega
  · omega
theorem zlg {ts : List Int} {client tag : Int} (h : zdw ts client tag=0) : (0<=client/\client<=3)/\(1<=tag/\tag<=1000)/\ts.getD client.toNat 0 < tag:=by
  unfold zdw at h
  split at h
  · rename_i hc
    rw [inB_iff,inB_iff] at hc;refine ⟨hc.1,hc.2,?_⟩;unfold knownIn at h
    split at h
    · assumption
    · split at h <;> omega
  · omega
theorem zhm {α : Type} (xs : List α) (i : Nat) (x d : α) (h : i < xs.length) : (xs.set i x).getD i d=x:=by
  rw [List.getD_eq_getElem?_getD,List.getElem?_set_self h];rfl
theorem zgz {α : Type} (xs : List α) (i j : Nat) (x d : α) (h : i ≠ j) : (xs.set i x).getD j d=xs.getD j d:=by
  rw [List.getD_eq_getElem?_getD,List.getElem?_set_ne h,<- List.getD_eq_getElem?_getD]
theorem ztj {ts : List Int} {rs : List (Int × Int)} {client tag : Int} {r : Int × Int} (h : zdv ts rs=true) (hk : zdw ts client tag=0) (hr : ze4 r.1 r.2=true) : zdv (ts.set client.toNat tag) (rs.set client.toNat r)=true:=by
  obtain ⟨h1,h2⟩:=zj9 h;obtain ⟨hc,ht,hlt⟩:=zlg hk;rw [zdv,List.length_set,List.length_set,h1,h2,Bool.and_eq_true];refine ⟨rfl,?_⟩;unfold zxl;rw [List.all_eq_true];intro j hj;rw [List.mem_range] at hj;by_cases e : client.toNat=j
  · subst e
    rw [zhm _ _ _ _ (by omega),zhm _ _ _ _ (by omega),memAt,hr,(inB_iff tag 0 1000).2 (by omega),decide_eq_false (show ¬ tag=0 by omega)]
    rfl
  · rw [zgz _ _ _ _ _ e,zgz _ _ _ _ _ e]
    exact zvr h j hj
theorem memOk_zero : zdv [0,0,0,0] [(0,0),(0,0),(0,0),(0,0)]=true:=by decide
end Go.Proofs.YtfkkapdofjhgpaaGreatDoor
namespace Go.Proofs.YtfkkapdofjhgpaaGreatDoor
set_option linter.unusedVariables false
set_option maxRecDepth 100000
structure Rp where
  s : Sf
  ts : List Int
  rs : List (Int × Int)
def Rp.zero : Rp:=⟨⟨[],[],[]⟩,[],[]⟩
def rpStep (x : Rp) (e : Ent) : Rp:=⟨(doOp x.s e.o).1,x.ts.set e.cl.toNat e.tg,x.rs.set e.cl.toNat (doOp x.s e.o).2⟩
def rpFrom (x : Rp) (l : List Ent) : Rp:=l.foldl rpStep x
def rpNew (n : Int) : Rp:=⟨⟨(zao n).1.1,(zao n).1.2,[]⟩,[0,0,0,0],[(0,0),(0,0),(0,0),(0,0)]⟩
def ze3 (n : Int) (l : List Ent) : Bool:=inB n 1 24 && logOk l
def zbu (n : Int) (l : List Ent) : Rp × Bool:=if ze3 n l=true then (rpFrom (rpNew n) l,true) else (Rp.zero,false)
structure RpInv (x : Rp) : Prop where
  s : ShInv x.s
  m : zdv x.ts x.rs=true
theorem ztk {n : Int} (h : 1<=n/\n<=24) : RpInv (rpNew n):=⟨zxk n h,memOk_zero⟩
theorem zvs {s : Sf} (h : ShInv s) (o : Oq) : ze4 (doOp s o).2.1 (doOp s o).2.2=true:=by
  have key : ∀ c v : Int,0<=c/\c<=9->0<=v/\v<=1000->(c=0\/v=0)->ze4 c v=true:=fun c v h1 h2 h3=>by
    rw [ze4,(inB_iff _ _ _).2 h1,(inB_iff _ _ _).2 h2];rcases h3 with rfl | rfl <;> simp
  have hps : ∀ j : Nat,0<=s.ps.getD j 0/\s.ps.getD j 0<=999:=fun j=>by
    by_cases hj : j < s.cs.length
    · have:=h.cells.val j hj
      omega
    · have hl:=h.cells.p
      have : s.ps.getD j 0=0:=by rw [List.getD_eq_getElem?_getD,List.getElem?_eq_none (by omega)];rfl
      omega
  unfold doOp
  split
  · exact key 1 0 (by omega) (by omega) (.inr rfl)
  rename_i hok0
  have hok : opOk o=true:=by simpa using hok0
  split
  · have hr : 0<=za5 s.bs o/\za5 s.bs o<=8:=by
      unfold za5
      repeat (first | omega | (split <;> try omega))
    show ze4 (za5 s.bs o) 0=true
    exact key _ 0 (by omega) (by omega) (.inr rfl)
  rename_i href0
  have href : za5 s.bs o=0:=Classical.not_not.1 href0
  split
  · exact key 0 0 (by omega) (by omega) (.inl rfl)
  rename_i hk1
  split
  · exact key 0 0 (by omega) (by omega) (.inl rfl)
  split
  · exact key 0 0 (by omega) (by omega) (.inl rfl)
  · obtain ⟨i,hi,hfp,hnm⟩:=zhd s.bs o.nm (by have:=(zbk href).1 hk1;omega)
    have hb : zau s.bs (findP s.bs o.nm)=s.bs[i]:=by rw [hfp];exact zbz s.bs i hi
    have hp:=zaw (h.oks _ (List.getElem_mem hi));have he:=(zbk href).2.2.2.2;rw [hb] at he ⊢;generalize (if o.at_ < 16 then (za7 s.bs[i].rs).getD o.at_.toNat 0 else -1)=pg;unfold doKind
    split
    · show ze4 0 (if pg < 0 then 0 else s.ps.getD pg.toNat 0)=true
      by_cases hpg : pg < 0
      · rw [if_pos hpg]
        exact key 0 0 (by omega) (by omega) (.inl rfl)
      · rw [if_neg hpg]
        have:=hps pg.toNat;exact key 0 _ (by omega) (by omega) (.inl rfl)
    split
    · rename_i hk8
      have:=he hk8;have:=hp.2.2.1
      show ze4 0 (s.bs[i].ep+1)=true
      exact key 0 _ (by omega) (by omega) (.inl rfl)
    split
    · exact key 0 0 (by omega) (by omega) (.inl rfl)
    split
    · by_cases hpg : 0<=pg
      · rw [if_pos hpg]
        exact key 0 0 (by omega) (by omega) (.inl rfl)
      · rw [if_neg hpg]
        exact key 0 0 (by omega) (by omega) (.inl rfl)
    · unfold doWrite
      repeat (first | exact key 0 0 (by omega) (by omega) (.inl rfl) | exact key 9 0 (by omega) (by omega) (.inr rfl) | split)
theorem zg8 {n : Nat} {t : List Int} {e : Ent} (h : zc5 n t e=true) : zfc e=true/\e.sq=(n : Int)+1/\t.getD e.cl.toNat 0 < e.tg:=by
  simp only [zc5,Bool.and_eq_true,decide_eq_true_eq] at h;exact ⟨h.1.1,h.1.2,h.2⟩
theorem zlh {n : Nat} {t : List Int} {e : Ent} (h : zc5 n t e=true) : zdw t e.cl e.tg=0:=by
  obtain ⟨h1,-,h3⟩:=zg8 h;have bd:=zgy h1;rw [zdw,if_pos ⟨(inB_iff _ _ _).2 bd.2.2.1,(inB_iff _ _ _).2 bd.2.1⟩,knownIn,if_pos h3]
theorem zrg {x : Rp} (hx : RpInv x) {n : Nat} {e : Ent} (h : zc5 n x.ts e=true) : zee x.ts x.rs e.cl e.tg (doOp x.s e.o).2=(((rpStep x e).ts,(rpStep x e).rs),true):=by
  rw [zee,if_pos hx.m,if_pos ⟨zlh h,zvs hx.s e.o⟩]
  rfl
theorem zvt {x : Rp} (hx : RpInv x) {n : Nat} {e : Ent} (h : zc5 n x.ts e=true) : RpInv (rpStep x e):=⟨zyq hx.s e.o,ztj hx.m (zlh h) (zvs hx.s e.o)⟩
theorem zh0 (x : Rp) (l : List Ent) (k : Nat) (hk : k < l.length) : rpFrom x (l.take (k+1))=rpStep (rpFrom x (l.take k)) l[k]:=by
  rw [List.take_succ_eq_append_getElem hk,rpFrom,List.foldl_append]
  rfl
theorem zdx {n : Int} {l : List Ent} (hn : 1<=n/\n<=24) (hl : inOrd 0 tags0 l=l.length) : ∀ k,k<=l.length->RpInv (rpFrom (rpNew n) (l.take k))/\inOrd k (rpFrom (rpNew n) (l.take k)).ts (l.drop k)=l.length
  | 0,_=>⟨by simpa [rpFrom] using ztk hn,by simpa [rpFrom,rpNew,tags0] using hl⟩
  | k+1,hk=>by
    obtain ⟨h1,h2⟩:=zdx hn hl k (by omega);have hlt : k < l.length:=by omega
    cases hs : zc5 k (rpFrom (rpNew n) (l.take k)).ts l[k] with
    | false=>rw [zih hlt hs] at h2;omega
    | true =>
      rw [zj8 hlt hs] at h2;rw [zh0 _ l k hlt];exact ⟨zvt h1 hs,h2⟩
theorem zjs {n : Int} {l : List Ent} (hn : 1<=n/\n<=24) (hl : inOrd 0 tags0 l=l.length) (k : Nat) (hk : k < l.length) : zc5 k (rpFrom (rpNew n) (l.take k)).ts l[k]=true:=by
  have h2:=(zdx hn hl k (by omega)).2
  cases hs : zc5 k (rpFrom (rpNew n) (l.take k)).ts l[k] with
  | false=>rw [zih hk hs] at h2;omega
  | true=>rfl
theorem zg9 {n : Int} {l : List Ent} (h : ze3 n l=true) : (1<=n/\n<=24)/\l.length<=120/\inOrd 0 tags0 l=l.length:=by
  simp only [ze3,logOk,Bool.and_eq_true,decide_eq_true_eq,inB_iff] at h;exact ⟨h.1,h.2.1,h.2.2⟩
theorem zrh {n : Int} {l : List Ent} (h : ze3 n l=true) : RpInv (rpFrom (rpNew n) l):=by
  obtain ⟨hn,-,hl⟩:=zg9 h;have:=(zdx hn hl l.length (Nat.le_refl _)).1
  rwa [List.take_length] at this
end Go.Proofs.YtfkkapdofjhgpaaGreatDoor
