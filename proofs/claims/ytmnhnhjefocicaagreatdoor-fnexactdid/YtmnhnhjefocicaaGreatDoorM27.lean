import Derived.Lib.Strings
import Derived.Lib.Slices
import Derived.Lib.Walk
import Derived.Lib.Bytealg
import Derived.Test.YtmnhnhjefocicaaGreatDoorM05
import Derived.Test.YtmnhnhjefocicaaGreatDoorM07
import Derived.Test.YtmnhnhjefocicaaGreatDoorM08
import Derived.Test.YtmnhnhjefocicaaGreatDoorM12
import Derived.Test.YtmnhnhjefocicaaGreatDoorM18
import Derived.Test.YtmnhnhjefocicaaGreatDoorM26
namespace Go.Proofs.YtmnhnhjefocicaaGreatDoor
open Go.RowKit
set_option linter.unusedVariables false
set_option maxRecDepth 100000
def droppedAllL (s : List Int × List Int) (l : List Int) : List Int × List Int := l.foldl (fun s p => (dropped s.1 s.2 p).1) s
def sharedAllL (s : List Int × List Int) (l : List Int) : List Int × List Int := l.foldl (fun s p => (shared s.1 s.2 p).1) s
def writtenS (cs ps : List Int) (rs : List (Int × Int × Int)) (at_ v : Int) : Option ((List Int × List Int) × List (Int × Int × Int)) :=
  if countAt cs (pageOf rs at_) = 1 then some ((cs.set (pageOf rs at_).toNat 1,ps.set (pageOf rs at_).toNat v),rs)
  else if (takenPage cs ps v).2 < 0 then none
  else some ((dropped (takenPage cs ps v).1.1 (takenPage cs ps v).1.2 (pageOf rs at_)).1,(mapped rs at_ (takenPage cs ps v).2).1)
theorem poolOk_of {n : Nat} {cs ps : List Int} (h : Cells n cs ps) (hn : 1 <= n /\ n <= 24) (hb : ∀ k,k < n -> 0 <= cs.getD k 0 /\ cs.getD k 0 <= 400) : poolOk cs ps = true := by
  have hc := h.c;have hp := h.p;refine (poolOk_iff cs ps).2 ⟨by omega,by omega,by omega,fun j hj => (cellOk_iff _ _).2 ?_⟩;have h1 := hb j (by omega);have h2 := h.val j (by omega);exact ⟨h1.1,h1.2,h2.1,h2.2.1,h2.2.2⟩
theorem dropped_one {n : Nat} {cs ps : List Int} (h : Cells n cs ps) (hn : 1 <= n /\ n <= 24) (hb : ∀ k,k < n -> 0 <= cs.getD k 0 /\ cs.getD k 0 <= 400) (k : Nat) (hk : k < n) (h1 : 1 <= cs.getD k 0) : dropped cs ps (k : Int) = (dropOne (cs,ps) (k : Int),true) := by
  have hc := h.c
  have e : dropOne (cs,ps) (k : Int) = (cs.set k (cs.getD k 0 - 1),if cs.getD k 0 = 1 then ps.set k 0 else ps) := by
    rw [dropOne,if_pos (by omega : (0 : Int) <= (k : Int)),Int.toNat_natCast]
  rw [e,dropped,if_pos (poolOk_of h hn hb),countAt_of cs k (by omega),if_pos h1,Int.toNat_natCast]
theorem dropped_neg {n : Nat} {cs ps : List Int} (h : Cells n cs ps) (hn : 1 <= n /\ n <= 24) (hb : ∀ k,k < n -> 0 <= cs.getD k 0 /\ cs.getD k 0 <= 400) (p : Int) (hp : p < 0) : dropped cs ps p = (dropOne (cs,ps) p,false) := by
  have hc : countAt cs p = 0 := by rw [countAt,if_neg (by omega)]
  rw [dropped,if_pos (poolOk_of h hn hb),hc,if_neg (by omega),dropOne,if_neg (by omega)]
theorem shared_one {n : Nat} {cs ps : List Int} (h : Cells n cs ps) (hn : 1 <= n /\ n <= 24) (hb : ∀ k,k < n -> 0 <= cs.getD k 0 /\ cs.getD k 0 <= 400) (k : Nat) (hk : k < n) (h1 : 1 <= cs.getD k 0 /\ cs.getD k 0 < 400) : shared cs ps (k : Int) = ((cs.set k (cs.getD k 0 + 1),ps),true) := by
  have hc := h.c;rw [shared,if_pos (poolOk_of h hn hb),countAt_of cs k (by omega),if_pos h1,Int.toNat_natCast]
theorem droppedAll_link {n : Nat} (hn : 1 <= n /\ n <= 24) (l : List Int) : ∀ {cs ps : List Int},Cells n cs ps -> (∀ k,k < n -> 0 <= cs.getD k 0 /\ cs.getD k 0 <= 400) -> (∀ p ∈ l,0 <= p /\ p < n) -> (∀ k,k < n -> (l.count (k : Int) : Int) <= cs.getD k 0) -> droppedAllL (cs,ps) l = dropAll (cs,ps) l := by
  induction l with
  | nil => intro cs ps _ _ _ _;rfl
  | cons p t ih =>
    intro cs ps h hb hp hc;obtain ⟨h0,hm⟩ := hp p (List.mem_cons_self ..);obtain ⟨m,rfl⟩ := Int.eq_ofNat_of_zero_le h0;have hm' : m < n := by omega
    have h1 : 1 <= cs.getD m 0 := by
      have := hc m hm';rw [List.count_cons_self] at this
      omega
    obtain ⟨c1,g1⟩ := dropOne_ok h m hm' h1
    show droppedAllL (dropped cs ps (m : Int)).1 t = dropAll (dropOne (cs,ps) (m : Int)) t
    rw [dropped_one h hn hb m hm' h1]
    show droppedAllL ((dropOne (cs,ps) (m : Int)).1,(dropOne (cs,ps) (m : Int)).2) t = dropAll ((dropOne (cs,ps) (m : Int)).1,(dropOne (cs,ps) (m : Int)).2) t
    refine ih c1 (fun k hk => ?_) (fun q hq => hp q (List.mem_cons_of_mem _ hq)) (fun k hk => ?_)
    · have := hb k hk
      rw [g1]
      split
      · rename_i e;subst e;omega
      · exact this
    · have := hc k hk
      rw [List.count_cons] at this;rw [g1];by_cases ek : m = k
      · subst ek;rw [if_pos rfl];rw [beq_self_eq_true,if_pos rfl] at this;omega
      · rw [if_neg ek]
        have hne : ((m : Int) == (k : Int)) = false := by rw [beq_eq_false_iff_ne];omega
        rw [hne,if_neg (by decide)] at this
        omega
theorem dropAll_filter (l : List Int) : ∀ s : List Int × List Int,dropAll s (l.filter (fun p => decide (0 <= p))) = dropAll s l := by
  induction l with
  | nil => intro s;rfl
  | cons p t ih =>
    intro s;by_cases h0 : 0 <= p
    · rw [List.filter_cons_of_pos (by simpa using h0)]
      exact ih (dropOne s p)
    · rw [List.filter_cons_of_neg (by simpa using h0)]
      have e : dropAll s (p :: t) = dropAll (dropOne s p) t := rfl;rw [e,ih,dropOne,if_neg h0]
theorem sharedAll_link {n : Nat} (hn : 1 <= n /\ n <= 24) (l : List Int) : ∀ {cs ps : List Int},Cells n cs ps -> (∀ k,k < n -> 0 <= cs.getD k 0 /\ cs.getD k 0 + (l.count (k : Int) : Int) <= 400) -> (∀ p ∈ l,0 <= p /\ p < n) -> (∀ p ∈ l,1 <= cs.getD p.toNat 0) -> sharedAllL (cs,ps) l = (shareAll cs l,ps) := by
  induction l with
  | nil => intro cs ps _ _ _ _;rfl
  | cons p t ih =>
    intro cs ps h hb hp hc;obtain ⟨h0,hm⟩ := hp p (List.mem_cons_self ..);obtain ⟨m,rfl⟩ := Int.eq_ofNat_of_zero_le h0;have hm' : m < n := by omega
    have h1 := hc (m : Int) (List.mem_cons_self ..);rw [Int.toNat_natCast] at h1;have hcl := h.c;have h2 := hb m hm';rw [List.count_cons_self] at h2
    have g1 : ∀ j,(cs.set m (cs.getD m 0 + 1)).getD j 0 = if m = j then cs.getD j 0 + 1 else cs.getD j 0 := fun j => by
      rw [getD_set cs m j _ (by omega)]
      split
      · rename_i e;rw [e]
      · rfl
    have hb' : ∀ k,k < n -> 0 <= cs.getD k 0 /\ cs.getD k 0 <= 400 := fun k hk => by have := hb k hk;omega
    show sharedAllL (shared cs ps (m : Int)).1 t = (shareAll (cs.set (m : Int).toNat (cs.getD (m : Int).toNat 0 + 1)) t,ps)
    rw [shared_one h hn hb' m hm' (by omega),Int.toNat_natCast]
    have c1 : Cells n (cs.set m (cs.getD m 0 + 1)) ps := ⟨by simpa using hcl,h.p,fun k hk => by
      have hv := h.val k hk;refine ⟨hv.1,hv.2.1,fun q => hv.2.2 ?_⟩;rw [g1] at q;by_cases e : m = k
      · subst e;rw [if_pos rfl] at q;omega
      · rwa [if_neg e] at q⟩
    refine ih c1 (fun k hk => ?_) (fun q hq => hp q (List.mem_cons_of_mem _ hq)) (fun q hq => ?_)
    · have := hb k hk
      rw [List.count_cons] at this;rw [g1];by_cases e : m = k
      · subst e;rw [if_pos rfl];rw [beq_self_eq_true,if_pos rfl] at this;omega
      · rw [if_neg e]
        have hne : ((m : Int) == (k : Int)) = false := by rw [beq_eq_false_iff_ne];omega
        rw [hne,if_neg (by decide)] at this
        omega
    · have := hc q (List.mem_cons_of_mem _ hq)
      rw [g1]
      split <;> omega
theorem ShInv.bound {s : Sf} (h : ShInv s) : ∀ k,k < s.cs.length -> 0 <= s.cs.getD k 0 /\ s.cs.getD k 0 <= 96 := fun k hk => by
  rw [h.cnt k hk];have h5 := cntAll_le s.bs (k : Int);have h6 := cntAll_nonneg s.bs (k : Int);have h7 := h.few
  omega
theorem ShInv.bound4 {s : Sf} (h : ShInv s) : ∀ k,k < s.cs.length -> 0 <= s.cs.getD k 0 /\ s.cs.getD k 0 <= 400 := fun k hk => by
  have := h.bound k hk
  omega
theorem ShInv.poolOk {s : Sf} (h : ShInv s) : poolOk s.cs s.ps = true := poolOk_of h.cells h.n1 h.bound4
theorem ShInv.mapOk {s : Sf} (h : ShInv s) (i : Nat) (hi : i < s.bs.length) : mapOk s.bs[i].rs = true := (book_parts (h.oks _ (List.getElem_mem hi))).2.2.2.1
theorem ShInv.part {s : Sf} (h : ShInv s) (i : Nat) (hi : i < s.bs.length) (n : Nat) : droppedAllL (s.cs,s.ps) (((pages s.bs[i].rs).drop n).filter (fun p => decide (0 <= p))) = dropAll (s.cs,s.ps) ((pages s.bs[i].rs).drop n) := by
  have hcn := h.cells.c;rw [droppedAll_link h.n1 _ h.cells h.bound4 (fun p hp => ?_) (fun k hk => ?_),dropAll_filter]
  · obtain ⟨h1,h2⟩ := List.mem_filter.1 hp
    have h3 : 0 <= p := by simpa using h2
    exact ⟨h3,(h.page i hi p (List.mem_of_mem_drop h1) h3).1⟩
  · have h1 := cnt_le_cs h i hi k hk
    unfold Pb.cnt at h1;have h2 := (List.drop_sublist n (pages s.bs[i].rs)).count_le (k : Int)
    have h3 := ((List.filter_sublist (l := (pages s.bs[i].rs).drop n) (p := fun p => decide (0 <= p))).count_le (k : Int))
    omega
theorem ShInv.whole {s : Sf} (h : ShInv s) (i : Nat) (hi : i < s.bs.length) : droppedAllL (s.cs,s.ps) (pagesOf s.bs[i].rs) = dropAll (s.cs,s.ps) ((pages s.bs[i].rs).drop 0) := by
  rw [<- h.part i hi 0,List.drop_zero,pagesOf,if_pos (h.mapOk i hi)]
theorem pagesOf_cut (rs : List (Int × Int × Int)) (hm : mapOk rs = true) (n : Nat) (hn : n <= 16) : (pagesOf rs).drop (pagesOf (belowM rs (n : Int))).length = ((pages rs).drop n).filter (fun p => decide (0 <= p)) := by
  obtain ⟨h1,h2,-⟩ := cut_pages rs hm n hn
  have e1 : pagesOf (belowM rs (n : Int)) = ((pages rs).take n).filter (fun p => decide (0 <= p)) := by
    rw [belowM,if_pos hm,pagesOf,if_pos h1,h2,cutAt_split _ (pages_length rs) n hn,List.filter_append]
    have : (List.replicate (16 - n) (-1 : Int)).filter (fun p => decide (0 <= p)) = [] := by
      rw [List.filter_eq_nil_iff];intro a ha;simp only [List.mem_replicate] at ha;rw [ha.2]
      decide
    rw [this,List.append_nil]
  have e2 : pagesOf rs = ((pages rs).take n).filter (fun p => decide (0 <= p)) ++ ((pages rs).drop n).filter (fun p => decide (0 <= p)) := by
    rw [pagesOf,if_pos hm,<- List.filter_append,List.take_append_drop]
  rw [e1,e2,List.drop_left]
theorem pageOf_page {rs : List (Int × Int × Int)} (hm : mapOk rs = true) (at_ : Int) (h : 0 <= at_ /\ at_ < 16) : pageOf rs at_ = (pages rs).getD at_.toNat 0 := by
  rw [pageOf,if_pos ⟨hm,by omega,by omega⟩]
theorem mapped_set {rs : List (Int × Int × Int)} (hm : mapOk rs = true) (at_ page : Int) (h : 0 <= at_ /\ at_ < 16) (hp : -1 <= page /\ page <= 23) : (mapped rs at_ page).1 = mapOf ((pages rs).set at_.toNat page) := by
  rw [mapped,if_pos hm,if_pos ⟨⟨by omega,by omega⟩,hp⟩]
structure OpIn (s : Sf) (o : Oq) (i : Nat) : Prop where
  inv : ShInv s
  ok : opOk o = true
  ref : refused s.bs o = 0
  lt : i < s.bs.length
  at_ : findP s.bs o.nm = i
theorem OpIn.book {s : Sf} {o : Oq} {i : Nat} (h : OpIn s o i) : bookAt s.bs (findP s.bs o.nm) = s.bs[i]'h.lt := by rw [h.at_,bookAt_of s.bs i h.lt]
theorem OpIn.go {s : Sf} {o : Oq} {i : Nat} (h : OpIn s o i) (h1 : o.k ≠ 1) (h6 : o.k ≠ 6) (h4 : kOther o.k = false) : doOp s o = doKind s o i (s.bs[i]'h.lt) (if o.at_ < 16 then (pages (s.bs[i]'h.lt).rs).getD o.at_.toNat 0 else -1) := by
  rw [doOp,if_neg (by rw [h.ok];decide),if_neg (by rw [h.ref];simp),if_neg h1,if_neg h6,if_neg (by rw [h4];decide),h.book,h.at_,Int.toNat_natCast]
theorem OpIn.place {s : Sf} {o : Oq} {i : Nat} (h : OpIn s o i) (h1 : o.k ≠ 1) (ha : kAt o.k = true) : (0 <= o.at_ /\ o.at_ < 16) /\ o.at_ < (s.bs[i]'h.lt).sz := by
  have h2 := (refused_parts h.ref).2.2.2.1 h1 ha;rw [h.book] at h2;have h3 := (book_parts (h.inv.oks _ (List.getElem_mem h.lt))).2.1;have h4 := (op_parts h.ok).2.2.2.1
  omega
theorem do_make {s : Sf} {o : Oq} (ho : opOk o = true) (hr : refused s.bs o = 0) (hk : o.k = 1) : doOp s o = (⟨s.cs,s.ps,insertP s.bs ⟨o.nm,o.va,[],false,0⟩⟩,(0,0)) := by
  rw [doOp,if_neg (by rw [ho];decide),if_neg (by rw [hr];simp),if_pos hk]
theorem do_read {s : Sf} {o : Oq} {i : Nat} (h : OpIn s o i) (hk : o.k = 9) : doOp s o = (s,(0,if pageOf (s.bs[i]'h.lt).rs o.at_ < 0 then 0 else s.ps.getD (pageOf (s.bs[i]'h.lt).rs o.at_).toNat 0)) := by
  have hp := h.place (by omega) (by rw [hk];decide);rw [h.go (by omega) (by omega) (by rw [hk];decide),doKind,if_pos hk,if_pos hp.1.2,pageOf_page (h.inv.mapOk i h.lt) _ hp.1]
theorem do_attach {s : Sf} {o : Oq} {i : Nat} (h : OpIn s o i) (hk : o.k = 8) : doOp s o = (⟨s.cs,s.ps,s.bs.set i { s.bs[i]'h.lt with ep := (s.bs[i]'h.lt).ep + 1 }⟩,(0,(s.bs[i]'h.lt).ep + 1)) := by
  rw [h.go (by omega) (by omega) (by rw [hk];decide),doKind,if_neg (by omega),if_pos hk]
theorem do_trim {s : Sf} {o : Oq} {i : Nat} (h : OpIn s o i) (hk : o.k = 3) : doOp s o = (⟨(dropped s.cs s.ps (pageOf (s.bs[i]'h.lt).rs o.at_)).1.1,(dropped s.cs s.ps (pageOf (s.bs[i]'h.lt).rs o.at_)).1.2,s.bs.set i { s.bs[i]'h.lt with rs := (mapped (s.bs[i]'h.lt).rs o.at_ (-1)).1 }⟩,(0,0)) := by
  have hp := h.place (by omega) (by rw [hk];decide);have hm := h.inv.mapOk i h.lt;have hi := h.lt;rw [h.go (by omega) (by omega) (by rw [hk];decide),doKind,if_neg (by omega),if_neg (by omega),if_neg (by omega),if_pos hk,if_pos hp.1.2,pageOf_page hm _ hp.1,mapped_set hm _ _ hp.1 (by omega)];by_cases h0 : 0 <= (pages s.bs[i].rs).getD o.at_.toNat 0
  · rw [if_pos h0]
    have hmem : (pages s.bs[i].rs).getD o.at_.toNat 0 ∈ pages s.bs[i].rs := (mem_getD _ (pages_length _) _).2 ⟨_,by omega,rfl⟩;obtain ⟨h1,h2⟩ := h.inv.page i hi _ hmem h0;generalize (pages s.bs[i].rs).getD o.at_.toNat 0 = p at *;obtain ⟨m,rfl⟩ := Int.eq_ofNat_of_zero_le h0;rw [dropped_one h.inv.cells h.inv.n1 h.inv.bound4 m (by omega) (by simpa using h2)]
  · rw [if_neg h0,dropped_neg h.inv.cells h.inv.n1 h.inv.bound4 _ (by omega),dropOne,if_neg h0]
    have h2 : (pages s.bs[i].rs).set o.at_.toNat (-1) = pages s.bs[i].rs := by
      have h3 := pages_range _ hm o.at_.toNat (by omega);have h4 : (pages s.bs[i].rs).getD o.at_.toNat 0 = -1 := by omega
      rw [<- h4,set_same]
    rw [h2,mapOf_pages _ hm];have h5 : s.bs.set i { s.bs[i] with rs := s.bs[i].rs } = s.bs := List.set_getElem_self hi;rw [h5]
theorem do_copy {s : Sf} {o : Oq} {i : Nat} (h : OpIn s o i) (hk : o.k = 4 \/ o.k = 5) : doOp s o = (⟨(sharedAllL (s.cs,s.ps) (pagesOf (s.bs[i]'h.lt).rs)).1,(sharedAllL (s.cs,s.ps) (pagesOf (s.bs[i]'h.lt).rs)).2,insertP s.bs ⟨o.ot,(s.bs[i]'h.lt).sz,(s.bs[i]'h.lt).rs,o.k == 4,0⟩⟩,(0,0)) := by
  have hi := h.lt;have hm := h.inv.mapOk i hi;have hcn := h.inv.cells.c
  have hsub : ∀ p ∈ pagesOf s.bs[i].rs,0 <= p /\ p ∈ pages s.bs[i].rs := fun p hp => by
    rw [pagesOf,if_pos hm] at hp;obtain ⟨a,b⟩ := List.mem_filter.1 hp;exact ⟨by simpa using b,a⟩
  have e : sharedAllL (s.cs,s.ps) (pagesOf s.bs[i].rs) = (shareAll s.cs (pagesOf s.bs[i].rs),s.ps) := by
    refine sharedAll_link h.inv.n1 _ h.inv.cells (fun k hk => ?_) (fun p hp => ?_) (fun p hp => ?_)
    · have h1 := h.inv.bound k hk
      have h2 : (pagesOf s.bs[i].rs).count (k : Int) <= 16 := by
        have h3 := List.count_le_length (a := (k : Int)) (l := pagesOf s.bs[i].rs)
        have h4 : (pagesOf s.bs[i].rs).length <= 16 := by
          rw [pagesOf,if_pos hm];have h5 := List.length_filter_le (fun p => decide (0 <= p)) (pages s.bs[i].rs);rw [pages_length] at h5;exact h5
        omega
      omega
    · obtain ⟨a,b⟩ := hsub p hp
      exact ⟨a,(h.inv.page i hi p b a).1⟩
    · obtain ⟨a,b⟩ := hsub p hp
      exact (h.inv.page i hi p b a).2
  have hko : kOther o.k = true := by rcases hk with q | q <;> rw [q] <;> decide
  rw [doOp,if_neg (by rw [h.ok];decide),if_neg (by rw [h.ref];simp),if_neg (by omega),if_neg (by omega),if_pos hko,h.book,e];have e4 : decide (o.k = 4) = (o.k == 4) := rfl;rw [e4]
theorem do_delete {s : Sf} {o : Oq} {i : Nat} (h : OpIn s o i) (hk : o.k = 6) : doOp s o = (⟨(droppedAllL (s.cs,s.ps) (pagesOf (s.bs[i]'h.lt).rs)).1,(droppedAllL (s.cs,s.ps) (pagesOf (s.bs[i]'h.lt).rs)).2,s.bs.take i ++ s.bs.drop (i + 1)⟩,(0,0)) := by
  have hi := h.lt;rw [doOp,if_neg (by rw [h.ok];decide),if_neg (by rw [h.ref];simp),if_neg (by omega),if_pos hk,h.inv.whole i hi,h.at_,Int.toNat_natCast,cutBook,bookAt_of s.bs i hi]
theorem do_resize {s : Sf} {o : Oq} {i : Nat} (h : OpIn s o i) (hk : o.k = 7) : doOp s o = (⟨(droppedAllL (s.cs,s.ps) ((pagesOf (s.bs[i]'h.lt).rs).drop (pagesOf (belowM (s.bs[i]'h.lt).rs o.va)).length)).1,(droppedAllL (s.cs,s.ps) ((pagesOf (s.bs[i]'h.lt).rs).drop (pagesOf (belowM (s.bs[i]'h.lt).rs o.va)).length)).2,s.bs.set i { s.bs[i]'h.lt with sz := o.va,rs := belowM (s.bs[i]'h.lt).rs o.va }⟩,(0,0)) := by
  have hi := h.lt;have hm := h.inv.mapOk i hi;have hv := (op_parts h.ok).2.2.2.2.1 (by rw [hk];decide);obtain ⟨n,hn⟩ := Int.eq_ofNat_of_zero_le (show 0 <= o.va by omega);rw [h.go (by omega) (by omega) (by rw [hk];decide),doKind,if_neg (by omega),if_neg (by omega),if_pos hk,hn,pagesOf_cut _ hm n (by omega),h.inv.part i hi n,Int.toNat_natCast,cutBook,bookAt_of s.bs i hi];simp only;rw [bookAt_of _ i (by simpa using hi),List.getElem_set_self,List.set_set,belowM,if_pos hm]
theorem do_writes {s : Sf} {o : Oq} {i : Nat} (h : OpIn s o i) (hk : o.k = 2) : doOp s o = match writtenS s.cs s.ps (s.bs[i]'h.lt).rs o.at_ o.va with
    | none => (s,(9,0))
    | some X => (⟨X.1.1,X.1.2,s.bs.set i { s.bs[i]'h.lt with rs := X.2 }⟩,(0,0)) := by
  have hp := h.place (by omega) (by rw [hk];decide);have hi := h.lt;have hm := h.inv.mapOk i hi;have hcn := h.inv.cells.c;have hpn := h.inv.cells.p;have hn1 := h.inv.n1;have hv := (op_parts h.ok).2.2.2.2.2 hk;have hmem : (pages s.bs[i].rs).getD o.at_.toNat 0 ∈ pages s.bs[i].rs := (mem_getD _ (pages_length _) _).2 ⟨_,by omega,rfl⟩;have hpg := h.inv.page i hi _ hmem;rw [h.go (by omega) (by omega) (by rw [hk];decide),doKind,if_neg (by omega),if_neg (by omega),if_neg (by omega),if_neg (by omega),if_pos hp.1.2,writtenS,pageOf_page hm _ hp.1,doWrite];have hr := pages_range _ hm o.at_.toNat (by omega)
  obtain ⟨p,hpp⟩ : ∃ p,(pages s.bs[i].rs).getD o.at_.toNat 0 = p := ⟨_,rfl⟩
  rw [hpp] at hpg hr ⊢;have hca : 0 <= p -> countAt s.cs p = s.cs.getD p.toNat 0 := fun h0 => by rw [countAt,if_pos ⟨h0,(hpg h0).1⟩]
  by_cases h1 : 0 <= p /\ s.cs.getD p.toNat 0 = 1
  · rw [if_pos h1,hca h1.1,if_pos h1.2]
    simp only;have h2 : s.cs.set p.toNat 1 = s.cs := by rw [<- h1.2,set_same]
    have h5 : s.bs.set i { s.bs[i] with rs := s.bs[i].rs } = s.bs := List.set_getElem_self hi;rw [h2,h5]
  · have h2 : ¬ countAt s.cs p = 1 := fun q => by
      by_cases h0 : 0 <= p
      · rw [hca h0] at q;exact h1 ⟨h0,q⟩
      · rw [countAt,if_neg (by omega)] at q;omega
    rw [if_neg h1,if_neg h2];by_cases hf : firstFree s.cs < s.cs.length
    · rw [if_pos hf,taken_some _ _ _ h.inv.poolOk ⟨hf,hv⟩]
      simp only;rw [if_neg (by omega)];simp only;rw [mapped_set hm _ _ hp.1 (by omega)];have e1 : tookC s.cs = s.cs.set (firstFree s.cs) 1 := by rw [tookC,if_pos hf]
      have e2 : tookP s.cs s.ps o.va = s.ps.set (firstFree s.cs) o.va := by rw [tookP,if_pos hf]
      have e3 : tookAt s.cs = (firstFree s.cs : Int) := by rw [tookAt,if_pos hf]
      obtain ⟨ct,gt⟩ := Cells.took h.inv.cells o.va hv hf
      have hb' : ∀ k,k < s.cs.length -> 0 <= (tookC s.cs).getD k 0 /\ (tookC s.cs).getD k 0 <= 400 := fun k hk' => by
        have := h.inv.bound k hk';rw [gt k hk']
        split <;> omega
      have e4 : (dropped (s.cs.set (firstFree s.cs) 1) (s.ps.set (firstFree s.cs) o.va) p).1 = dropOne (s.cs.set (firstFree s.cs) 1,s.ps.set (firstFree s.cs) o.va) p := by
        rw [<- e1,<- e2];by_cases h0 : 0 <= p
        · have h3 := hpg h0
          obtain ⟨m,rfl⟩ := Int.eq_ofNat_of_zero_le h0;rw [dropped_one ct hn1 hb' m (by omega) (by have h4 := h3.2;rw [Int.toNat_natCast] at h4;rw [gt m (by omega)];split <;> omega)]
        · rw [dropped_neg ct hn1 hb' _ (by omega)]
      rw [e1,e2,e3,e4]
    · rw [if_neg hf,taken_none _ _ _ h.inv.poolOk (fun q => hf q.1),if_pos (show ((s.cs,s.ps),(-1 : Int)).2 < 0 from by show (-1 : Int) < 0;decide)]
def cmpI (a b : ByteArray) : Int := Lib.compareBytes a.data.toList b.data.toList
theorem cmp_less : ∀ (x y : List UInt8),Lib.compareBytes x y < 0 ↔ Op.bytesLess x y = true := by
  intro x
  induction x with
  | nil =>
    intro y
    cases y with
    | nil => simp [Lib.compareBytes,Op.bytesLess]
    | cons b u => simp [Lib.compareBytes,Op.bytesLess]
  | cons a t ih =>
    intro y
    cases y with
    | nil => simp [Lib.compareBytes,Op.bytesLess]
    | cons b u =>
      simp only [Lib.compareBytes,Op.bytesLess,Bool.or_eq_true,decide_eq_true_eq,Bool.and_eq_true,beq_iff_eq];by_cases h1 : a < b
      · simp [h1]
      · by_cases h2 : b < a
        · have hne : a ≠ b := fun e => by subst e;exact UInt8.lt_irrefl a h2
          simp [h1,h2,hne]
        · have he : a = b := UInt8.le_antisymm (UInt8.not_lt.1 h2) (UInt8.not_lt.1 h1)
          subst he;simp [ih u]
theorem cmpI_neg (a b : ByteArray) : cmpI a b < 0 ↔ ltB a b = true := by
  rw [cmpI,cmp_less,ltB,ByteArray.toList_eq,ByteArray.toList_eq]
def insB (bks : List Bk) (b : Bk) : List Bk := bks.take (insertAt (bks.map Bk.pb) b.nm) ++ [b] ++ bks.drop (insertAt (bks.map Bk.pb) b.nm)
theorem insB_pb (bks : List Bk) (b : Bk) : (insB bks b).map Bk.pb = insertP (bks.map Bk.pb) b.pb := by
  simp only [insB,insertP,List.map_append,List.map_take,List.map_drop,List.map_cons,List.map_nil]
  rfl
def stepB (bks : List Bk) (b : Bk) (j : Nat) : List Bk := bks.take j ++ [b] ++ bks.drop j
theorem stepB_len (bks : List Bk) (b : Bk) (j : Nat) (h : j <= bks.length) : (stepB bks b j).length = bks.length + 1 := by
  simp [stepB];omega
theorem stepB_at (bks : List Bk) (b : Bk) (j : Nat) (h : j <= bks.length) : (stepB bks b j)[j]? = some b := by
  have hl : (bks.take j).length = j := by rw [List.length_take];omega
  rw [stepB,List.append_assoc,List.getElem?_append_right (by omega),hl,Nat.sub_self];rfl
theorem stepB_before (bks : List Bk) (b : Bk) (j i : Nat) (h : i < j) (hj : j <= bks.length) : (stepB bks b j)[i]? = bks[i]? := by
  rw [stepB,List.append_assoc,List.getElem?_append_left (by rw [List.length_take];omega),List.getElem?_take,if_pos h]
theorem stepB_swap (bks : List Bk) (b : Bk) (j : Nat) (h : j < bks.length) : ((stepB bks b (j + 1)).set (j + 1) bks[j]).set j b = stepB bks b j /\ ((stepB bks b (j + 1)).set j b).set (j + 1) bks[j] = stepB bks b j := by
  have hl : (bks.take (j + 1)).length = j + 1 := by rw [List.length_take];omega
  have hl0 : (bks.take j).length = j := by rw [List.length_take];omega
  have e : bks.take (j + 1) = bks.take j ++ [bks[j]] := List.take_succ_eq_append_getElem h;have e2 : bks.drop j = bks[j] :: bks.drop (j + 1) := List.drop_eq_getElem_cons h
  have key : ((stepB bks b (j + 1)).set (j + 1) bks[j]).set j b = stepB bks b j := by
    rw [stepB,List.append_assoc,List.set_append_right _ _ (by omega),hl,Nat.sub_self,List.singleton_append,List.set_cons_zero,e,List.append_assoc,List.set_append_right _ _ (by omega),hl0,Nat.sub_self,List.singleton_append,List.set_cons_zero,stepB,e2,List.append_assoc]
    rfl
  exact ⟨key,by rw [List.set_comm _ _ (by omega)];exact key⟩
set_option maxHeartbeats 1000000 in
theorem cmpString_any (a b : ByteArray) (w : World) :
    Calls Tryz.prog 227 #[.string a,.string b] w fun e w' => e = .returned (.int .i64 (cmpI a b)) /\ w' = w := by
  go_enter Tryz.func227,Tryz.ntmps227
  go_wp2
  rw [run_callFunc_extern Tryz.func241 (by kernel_rfl) (by kernel_rfl) (by kernel_rfl) (e := Extern.BytealgCompare.compare) (by kernel_rfl),Lib.run_compareString];simp only [Result.andThen];rw [Oper.upon_value]
  go_wp2
  go_ret;exact ⟨rfl,rfl⟩
theorem compare_any (a b : ByteArray) (w : World) :
    Calls Tryz.prog 197 #[.string a,.string b] w fun e w' => e = .returned (.int .i64 (cmpI a b)) /\ w' = w := by
  go_enter Tryz.func197,Tryz.ntmps197
  go_wp2_with (go_at_call 227;refine (cmpString_any _ _ _).mono ?_;rintro e w' ⟨rfl,rfl⟩)
  go_ret;exact ⟨rfl,rfl⟩
theorem byName_any (n1 : ByteArray) (s1 : Int) (o1 : Option Addr) (l1 c1 : Nat) (f1 : Bool) (e1 : Int) (n2 : ByteArray) (s2 : Int) (o2 : Option Addr) (l2 c2 : Nat) (f2 : Bool) (e2 : Int) (w : World) :
    Calls Tryz.prog 230 #[.agg #[.string n1,.int .i64 s1,.slice o1 l1 c1,.bool f1,.int .i64 e1],.agg #[.string n2,.int .i64 s2,.slice o2 l2 c2,.bool f2,.int .i64 e2]] w fun e w' => e = .returned (.int .i64 (cmpI n1 n2)) /\ Below w.heap.size w w' := by
  go_enter Tryz.func230,Tryz.ntmps230
  go_wp2_with (go_at_call 197;refine (compare_any _ _ _).mono ?_;rintro e w' ⟨rfl,rfl⟩)
  go_ret;exact ⟨rfl,bw_alloc (bw_alloc (Below.refl _ _))⟩
theorem len64_any (n : Nat) (h : n <= 7) (w : World) :
    Calls Tryz.prog 226 #[.int .u64 n] w fun e w' => ∃ r : Int,e = .returned (.int .i64 r) /\ w' = w := by
  have hn : n = 0 \/ n = 1 \/ n = 2 \/ n = 3 \/ n = 4 \/ n = 5 \/ n = 6 \/ n = 7 := by omega
  rcases hn with rfl | rfl | rfl | rfl | rfl | rfl | rfl | rfl
  all_goals
    go_enter Tryz.func226,Tryz.ntmps226
    go_wp2
    go_ret;exact ⟨_,rfl,rfl⟩
theorem len_any (n : Nat) (h : n <= 7) (w : World) :
    Calls Tryz.prog 196 #[.int .u64 n] w fun e w' => ∃ r : Int,e = .returned (.int .i64 r) /\ w' = w := by
  go_enter Tryz.func196,Tryz.ntmps196
  go_wp2_with fail
  refine (len64_any n h _).mono ?_;rintro e w' ⟨r,rfl,rfl⟩
  go_wp2_with fail
  go_ret;exact ⟨r,rfl,rfl⟩
theorem hasName_in (nm : ByteArray) (sz : Int) (m : Value) (fx : Bool) (ep : Int) (n : ByteArray) (c : Nat) (w : World) (hm : ∃ o k cap,m = .slice o k cap) (hc : c < w.heap.size) (hn : w.cell? ⟨c,0,none⟩ = some (.string n)) :
    Calls Tryz.prog 194 #[.agg #[.string nm,.int .i64 sz,m,.bool fx,.int .i64 ep],.pointer (some ⟨c,0,none⟩)] w fun e w' => e = .returned (.bool (decide (nm = n))) /\ Below w.heap.size w w' := by
  obtain ⟨o,k,cap,rfl⟩ := hm;obtain ⟨W0,hW0,k0,d0,z0⟩ := box1 w #[.string nm,.int .i64 sz,.slice o k cap,.bool fx,.int .i64 ep] 96;have HW0 : Hid (W0 = _) := hW0;have p0 := at_cell k0 0;have c0 := (d0.cell (p := ⟨c,0,none⟩) hc).trans hn;rw [hW0] at p0 c0;have hq := text_eq nm n;clear hW0 k0
  go_enter Tryz.func194,Tryz.ntmps194
  go_wp2_with fail
  go_ret;exact ⟨rfl,by rw [<- HW0.out];exact d0⟩
set_option maxHeartbeats 1600000 in
theorem indexBook_any (v : Value) (bs : List Bk) (n : ByteArray) (c : Nat) (w : World) (hms : ∀ b ∈ bs,∃ o k cap,b.m = .slice o k cap) (r : ReadsR 5 bookC w.heap.size w v bs) (hc : c < w.heap.size) (hn : w.cell? ⟨c,0,none⟩ = some (.string n)) :
    Calls Tryz.prog 154 #[v,.func (.func 194) #[] #[.pointer (some ⟨c,0,none⟩)]] w fun e w' => e = .returned (.int .i64 (findB bs n)) /\ Below w.heap.size w w' := by
  obtain ⟨o,cap,rfl,hm,hcs,-⟩ := r;have HC : Hid _ := hcs;have HM : Hid _ := hms;unfold maxLen at hm;clear hcs hms
  go_enter Tryz.func154,Tryz.ntmps154
  go_wp2_with fail
  go_loopw [8] (fun i wr => ∃ k : Nat,k <= bs.length /\ i = .int .i64 k /\ findB bs n = findFrom n ((bs.map Bk.nm).drop k) k /\ Below w.heap.size w wr) (fun i _ => bs.length - (intOf i).toNat)
  case atStart => exact ⟨0,Nat.zero_le _,rfl,rfl,Below.refl _ _⟩
  case round =>
    obtain ⟨k,hk,rfl,hf,hb⟩ := hrel;by_cases hlt : k < bs.length
    · obtain ⟨g,off,rfl,hg,hx⟩ := HC.out k bs[k] (List.getElem?_eq_getElem hlt)
      rw [find_at bs n k hlt] at hf;have HF : Hid _ := hf;have a0 := (hb.cell (p := ⟨g,off + k * 5,none⟩) hg).trans (hx 0 _ rfl);have a1 := (hb.cell (p := ⟨g,off + k * 5 + 1,none⟩) hg).trans (hx 1 _ rfl);have a2 := (hb.cell (p := ⟨g,off + k * 5 + 2,none⟩) hg).trans (hx 2 _ rfl);have a3 := (hb.cell (p := ⟨g,off + k * 5 + 3,none⟩) hg).trans (hx 3 _ rfl);have a4 := (hb.cell (p := ⟨g,off + k * 5 + 4,none⟩) hg).trans (hx 4 _ rfl);have hsl := HM.out bs[k] (List.getElem_mem hlt);have cn := (hb.cell (p := ⟨c,0,none⟩) hc).trans hn;have hcl := Nat.lt_of_lt_of_le hc hb.size;clear hf HC HM hx;generalize bs[k] = x at a0 a1 a2 a3 a4 HF hsl;obtain ⟨nm,sz,m,rs,fx,ep⟩ := x;simp only at a0 a1 a2 a3 a4 HF hsl;obtain ⟨o',k',cap',rfl⟩ := hsl
      go_wp2_with (go_at_call 194;refine (hasName_in nm sz _ fx ep n c _ ⟨_,_,_,rfl⟩ hcl cn).mono ?_)
      rintro e w1 ⟨rfl,b1⟩;replace hb := bw_call hb b1;clear a0 a1 a2 a3 a4 b1 cn hcl;by_cases hx : nm = n
      · have HV : Hid (findB bs n = k) := by have := HF.out;rwa [if_pos hx] at this
        rw [decide_eq_true hx];clear HF hx
        go_wp2_with fail
        go_ret;exact ⟨ret_int HV.out.symm,hb⟩
      · have HV : Hid (findB bs n = findFrom n ((bs.map Bk.nm).drop (k + 1)) (k + 1)) := by have := HF.out;rwa [if_neg hx] at this
        rw [decide_eq_false hx];clear HF hx
        go_wp2_with fail
        go_roundw
        case rel => exact ⟨k + 1,by omega,by go_num,HV.out,hb⟩
        case measure => simp [intOf];omega
    · rw [find_end bs n k hlt] at hf
      have HF : Hid _ := hf;clear hf HC
      go_wp2_with fail
      go_ret;exact ⟨ret_int HF.out.symm,hb⟩
theorem hasName_any (n : ByteArray) (w : World) :
    Calls Tryz.prog 155 #[.string n] w fun e w' => e = .returned (.func (.func 194) #[] #[.pointer (some ⟨w.heap.size,0,none⟩)]) /\ w' = w.alloc (.cells #[.string n] 9) := by
  have hmf : ∀ (fn : Fn) (first cap : Array Value) (w : World),(Instr.makeFunc fn first cap).run Tryz.prog w = .ok (.func fn first cap) w := fun _ _ _ _ => rfl
  go_enter Tryz.func155,Tryz.ntmps155
  go_wp2_with fail
  go_ret;exact ⟨rfl,rfl⟩
theorem implFindBook_any (v : Value) (bs : List Bk) (n : ByteArray) (w : World) (hms : ∀ b ∈ bs,∃ o k cap,b.m = .slice o k cap) (r : ReadsR 5 bookC w.heap.size w v bs) :
    Calls Tryz.prog 96 #[v,.string n] w fun e w' => e = .returned (.int .i64 (findB bs n)) /\ Below w.heap.size w w' := by
  obtain ⟨W0,hW0,k0,d0,z0⟩ := box1 w #[.string n] 9;have r0 := (r.below d0).mono d0.size;have p0 := at_cell k0 0;have hlt := heap_lt k0;have HM : Hid _ := hms;clear k0 r hms
  go_enter Tryz.func96,Tryz.ntmps96
  go_wp2_with fail
  refine (hasName_any n _).mono ?_;rintro e w1 ⟨rfl,h1⟩;rw [<- hW0] at h1;subst h1;clear hW0
  go_wp2_with fail
  refine (indexBook_any v bs n _ _ HM.out r0 hlt p0).mono ?_;rintro e w2 ⟨rfl,b2⟩
  go_wp2_with fail
  go_ret;exact ⟨rfl,bw_call d0 b2⟩
end Go.Proofs.YtmnhnhjefocicaaGreatDoor
namespace Go.Proofs.YtmnhnhjefocicaaGreatDoor
open Nums
set_option linter.unusedVariables false
set_option maxRecDepth 100000
def lmAt (k : Int) : Int := if kAt k = true then 255 else 0
def lmLo (k : Int) : Int := if kSize k = true then 1 else 0
def lmHi (k : Int) : Int := if kSize k = true then 16 else if k = 2 then 999 else 0
def lmEp (k : Int) : Int := if kEpoch k = true then 1000 else 0
def otOk (ot : ByteArray) (h : Bool) : Bool := if h = true then nameB ot.data.toList else decide (ot.size = 0)
def opBy (o : Oq) : Bool :=
  inB o.k 1 9 && nameB o.nm.data.toList && otOk o.ot (kOther o.k) && inB o.at_ 0 (lmAt o.k) && inB o.va (lmLo o.k) (lmHi o.k) && inB o.ep 0 (lmEp o.k)
theorem inB_zero (x : Int) : inB x 0 0 = decide (x = 0) := by
  rw [Bool.eq_iff_iff,inB_iff,decide_eq_true_eq];omega
theorem inB_or (b : Bool) (x hi : Int) (h : 0 <= hi) : ((b || decide (x = 0)) && inB x 0 hi) = inB x 0 (if b = true then hi else 0) := by
  cases b
  · rw [Bool.eq_iff_iff]
    simp only [Bool.false_or,Bool.and_eq_true,inB_iff,decide_eq_true_eq,Bool.false_eq_true,if_false]
    omega
  · simp
theorem ot_by (ot : ByteArray) (b : Bool) : ((b == decide (ot.size ≠ 0)) && (!b || nameB ot.data.toList)) = otOk ot b := by
  cases b
  · simp [otOk]
  · unfold otOk
    rw [if_pos rfl];cases h : nameB ot.data.toList
    · simp
    · have := nameB_size ot h
      have e : decide (ot.size ≠ 0) = true := by simp only [decide_eq_true_eq];omega
      rw [e]
      rfl
theorem val_by (k va : Int) : valOk k va = inB va (lmLo k) (lmHi k) := by
  unfold valOk lmLo lmHi
  split
  · rfl
  · split
    · rfl
    · exact (inB_zero va).symm
theorem opOk_by (o : Oq) : opOk o = opBy o := by
  have h1 := ot_by o.ot (kOther o.k);have h2 := inB_or (kAt o.k) o.at_ 255 (by omega);have h3 := inB_or (kEpoch o.k) o.ep 1000 (by omega);have h4 := val_by o.k o.va
  have e : opOk o = (nameB o.nm.data.toList && inB o.k 1 9 && ((kOther o.k == decide (o.ot.size ≠ 0)) && (!kOther o.k || nameB o.ot.data.toList)) && ((kAt o.k || decide (o.at_ = 0)) && inB o.at_ 0 255) && ((kEpoch o.k || decide (o.ep = 0)) && inB o.ep 0 1000) && valOk o.k o.va) := by
    unfold opOk;simp only [Bool.and_assoc]
  rw [e,h1,h2,h3,h4];unfold opBy lmAt lmEp;generalize nameB o.nm.data.toList = a;generalize inB o.k 1 9 = b;generalize otOk o.ot (kOther o.k) = c;generalize inB o.at_ 0 _ = d;generalize inB o.ep 0 _ = e;generalize inB o.va _ _ = f;cases a <;> cases b <;> cases c <;> cases d <;> cases e <;> cases f <;> rfl
end Go.Proofs.YtmnhnhjefocicaaGreatDoor
