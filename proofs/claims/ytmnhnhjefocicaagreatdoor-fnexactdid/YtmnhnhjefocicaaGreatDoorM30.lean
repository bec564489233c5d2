import Derived.Laws.CopyOwn
import Derived.Test.YtmnhnhjefocicaaGreatDoorM01
import Derived.Test.YtmnhnhjefocicaaGreatDoorM11
import Derived.Test.YtmnhnhjefocicaaGreatDoorM12
import Derived.Test.YtmnhnhjefocicaaGreatDoorM27
import Derived.Test.YtmnhnhjefocicaaGreatDoorM29
namespace Go.Proofs.YtmnhnhjefocicaaGreatDoor
open Go.RowKit
set_option linter.unusedVariables false
set_option maxRecDepth 100000
structure ChFacts (cs ps : List Int) (bks : List Bk) : Prop where
  few : bks.length <= 6
  len : cs.length = ps.length
  c24 : cs.length <= 24
  nm : ∀ b ∈ bks,b.nm.size <= 4
  fit : ∀ b ∈ bks,FitRuns b.rs
  rs : ∀ b ∈ bks,b.rs.length <= 16
  srt : (bks.map Bk.nm).Pairwise (fun x y => ltB x y = true)
  ep : ∀ b ∈ bks,0 <= b.ep /\ b.ep <= 1000
  map : ∀ b ∈ bks,mapOk b.rs = true
theorem fit_ok {rs : List (Int × Int × Int)} (h : mapOk rs = true) : FitRuns rs := by
  have := fit_of (pages rs) (pages_length rs) (pages_range rs h)
  rwa [mapOf_pages rs h] at this
theorem ch_facts {cs ps : List Int} {bks : List Bk} (inv : ShInv ⟨cs,ps,bks.map Bk.pb⟩) : ChFacts cs ps bks := by
  have hok : ∀ b ∈ bks,b.pb.ok = true := fun b hb => inv.oks b.pb (List.mem_map_of_mem hb)
  have hmp : ∀ b ∈ bks,mapOk b.rs = true := fun b hb => (book_parts (hok b hb)).2.2.2.1
  refine ⟨by have := inv.few;simpa using this,?_,inv.n1.2,fun b hb => (nameB_size _ (book_parts (hok b hb)).1).2,fun b hb => fit_ok (hmp b hb),fun b hb => ?_,?_,fun b hb => (book_parts (hok b hb)).2.2.1,hmp⟩
  · have h1 := inv.cells.p
    exact h1.symm
  · have h := hmp b hb
    rw [mapOk,Bool.and_eq_true,decide_eq_true_iff] at h;exact h.2
  · have h := inv.srt
    simp only [List.map_map] at h;exact h
theorem op_in {cs ps : List Int} {bks : List Bk} (inv : ShInv ⟨cs,ps,bks.map Bk.pb⟩) {o : Oq} (ho : opOk o = true) (hr : refused (bks.map Bk.pb) o = 0) (hk : o.k ≠ 1) : ∃ (i : Nat) (hi : i < bks.length),findB bks o.nm = i /\ OpIn ⟨cs,ps,bks.map Bk.pb⟩ o i := by
  have h0 := (refused_parts hr).1 hk;obtain ⟨i,hi,h1,h2⟩ := find_in (bks.map Bk.pb) o.nm (by omega);have hi' : i < bks.length := by simpa using hi
  exact ⟨i,hi',by rw [findB_P,h1],⟨inv,ho,hr,hi,h1⟩⟩
theorem pb_set (bks : List Bk) (i : Nat) (y : Bk) : (bks.set i y).map Bk.pb = (bks.map Bk.pb).set i y.pb := List.map_set
theorem new_names {bks : List Bk} {n : ByteArray} (h : findP (bks.map Bk.pb) n < 0) : ∀ x ∈ bks,x.nm ≠ n := fun x hx => find_not (bks.map Bk.pb) n h x.pb (List.mem_map_of_mem hx)
theorem ch_make {cs ps : List Int} {bks : List Bk} {nm ot : ByteArray} {at_ va ep : Int} (ho : opOk ⟨1,nm,ot,at_,va,ep⟩ = true) (hr : refused (bks.map Bk.pb) ⟨1,nm,ot,at_,va,ep⟩ = 0) (m : Value) : doOp ⟨cs,ps,bks.map Bk.pb⟩ ⟨1,nm,ot,at_,va,ep⟩ = (⟨cs,ps,(insB bks ⟨nm,va,m,[],false,0⟩).map Bk.pb⟩,(0,0)) := by
  rw [do_make ho hr rfl,insB_pb]
  rfl
theorem ch_write {cs ps : List Int} {bks : List Bk} {nm ot : ByteArray} {at_ va ep : Int} {i : Nat} (hi : i < bks.length) (h : OpIn ⟨cs,ps,bks.map Bk.pb⟩ ⟨2,nm,ot,at_,va,ep⟩ i) :
    (∀ X,writtenS cs ps bks[i].rs at_ va = some X -> ∀ m : Value,doOp ⟨cs,ps,bks.map Bk.pb⟩ ⟨2,nm,ot,at_,va,ep⟩ = (⟨X.1.1,X.1.2,(bks.set i ⟨bks[i].nm,bks[i].sz,m,X.2,bks[i].fx,bks[i].ep⟩).map Bk.pb⟩,(0,0))) /\
    (writtenS cs ps bks[i].rs at_ va = none -> doOp ⟨cs,ps,bks.map Bk.pb⟩ ⟨2,nm,ot,at_,va,ep⟩ = (⟨cs,ps,bks.map Bk.pb⟩,(9,0))) := by
  have e := do_writes h rfl;simp only [List.getElem_map] at e;refine ⟨fun X hX m => ?_,fun hX => ?_⟩
  · rw [e,show bks[i].pb.rs = bks[i].rs from rfl,hX,pb_set]
    rfl
  · rw [e,show bks[i].pb.rs = bks[i].rs from rfl,hX]
theorem ch_trim {cs ps : List Int} {bks : List Bk} {nm ot : ByteArray} {at_ va ep : Int} {i : Nat} (hi : i < bks.length) (h : OpIn ⟨cs,ps,bks.map Bk.pb⟩ ⟨3,nm,ot,at_,va,ep⟩ i) (m : Value) :
    doOp ⟨cs,ps,bks.map Bk.pb⟩ ⟨3,nm,ot,at_,va,ep⟩ = (⟨(dropped cs ps (pageOf bks[i].rs at_)).1.1,(dropped cs ps (pageOf bks[i].rs at_)).1.2,(bks.set i ⟨bks[i].nm,bks[i].sz,m,(mapped bks[i].rs at_ (-1)).1,bks[i].fx,bks[i].ep⟩).map Bk.pb⟩,(0,0)) := by
  have e := do_trim h rfl;simp only [List.getElem_map] at e;rw [e,pb_set]
  rfl
theorem ch_copy {cs ps : List Int} {bks : List Bk} {k : Int} {nm ot : ByteArray} {at_ va ep : Int} {i : Nat} (hk : k = 4 \/ k = 5) (hi : i < bks.length) (h : OpIn ⟨cs,ps,bks.map Bk.pb⟩ ⟨k,nm,ot,at_,va,ep⟩ i) (m : Value) :
    doOp ⟨cs,ps,bks.map Bk.pb⟩ ⟨k,nm,ot,at_,va,ep⟩ = (⟨(sharedAllL (cs,ps) (pagesOf bks[i].rs)).1,(sharedAllL (cs,ps) (pagesOf bks[i].rs)).2,(insB bks ⟨ot,bks[i].sz,m,bks[i].rs,k == 4,0⟩).map Bk.pb⟩,(0,0)) := by
  have e := do_copy h hk;simp only [List.getElem_map] at e;rw [e,insB_pb]
  rfl
theorem ch_delete {cs ps : List Int} {bks : List Bk} {nm ot : ByteArray} {at_ va ep : Int} {i : Nat} (hi : i < bks.length) (h : OpIn ⟨cs,ps,bks.map Bk.pb⟩ ⟨6,nm,ot,at_,va,ep⟩ i) :
    doOp ⟨cs,ps,bks.map Bk.pb⟩ ⟨6,nm,ot,at_,va,ep⟩ = (⟨(droppedAllL (cs,ps) (pagesOf bks[i].rs)).1,(droppedAllL (cs,ps) (pagesOf bks[i].rs)).2,(bks.take i ++ bks.drop (i + 1)).map Bk.pb⟩,(0,0)) := by
  have e := do_delete h rfl;simp only [List.getElem_map] at e;rw [e,List.map_append,List.map_take,List.map_drop]
  rfl
theorem ch_resize {cs ps : List Int} {bks : List Bk} {nm ot : ByteArray} {at_ va ep : Int} {i : Nat} (hi : i < bks.length) (h : OpIn ⟨cs,ps,bks.map Bk.pb⟩ ⟨7,nm,ot,at_,va,ep⟩ i) (m : Value) :
    doOp ⟨cs,ps,bks.map Bk.pb⟩ ⟨7,nm,ot,at_,va,ep⟩ = (⟨(droppedAllL (cs,ps) ((pagesOf bks[i].rs).drop (pagesOf (belowM bks[i].rs va)).length)).1,(droppedAllL (cs,ps) ((pagesOf bks[i].rs).drop (pagesOf (belowM bks[i].rs va)).length)).2,(bks.set i ⟨bks[i].nm,va,m,belowM bks[i].rs va,bks[i].fx,bks[i].ep⟩).map Bk.pb⟩,(0,0)) := by
  have e := do_resize h rfl;simp only [List.getElem_map] at e;rw [e,pb_set]
  rfl
theorem ch_attach {cs ps : List Int} {bks : List Bk} {nm ot : ByteArray} {at_ va ep : Int} {i : Nat} (hi : i < bks.length) (h : OpIn ⟨cs,ps,bks.map Bk.pb⟩ ⟨8,nm,ot,at_,va,ep⟩ i) (m : Value) :
    doOp ⟨cs,ps,bks.map Bk.pb⟩ ⟨8,nm,ot,at_,va,ep⟩ = (⟨cs,ps,(bks.set i ⟨bks[i].nm,bks[i].sz,m,bks[i].rs,bks[i].fx,bks[i].ep + 1⟩).map Bk.pb⟩,(0,bks[i].ep + 1)) := by
  have e := do_attach h rfl;simp only [List.getElem_map] at e;rw [e,pb_set]
  rfl
theorem ch_read {cs ps : List Int} {bks : List Bk} {nm ot : ByteArray} {at_ va ep : Int} {i : Nat} (hi : i < bks.length) (h : OpIn ⟨cs,ps,bks.map Bk.pb⟩ ⟨9,nm,ot,at_,va,ep⟩ i) :
    doOp ⟨cs,ps,bks.map Bk.pb⟩ ⟨9,nm,ot,at_,va,ep⟩ = (⟨cs,ps,bks.map Bk.pb⟩,(0,if pageOf bks[i].rs at_ < 0 then 0 else ps.getD (pageOf bks[i].rs at_).toNat 0)) := by
  have e := do_read h rfl;simp only [List.getElem_map] at e;rw [e]
  rfl
theorem page_in {cs ps : List Int} {bks : List Bk} (inv : ShInv ⟨cs,ps,bks.map Bk.pb⟩) (i : Nat) (hi : i < bks.length) (at_ : Int) : -1 <= pageOf bks[i].rs at_ /\ pageOf bks[i].rs at_ < (ps.length : Int) := by
  have hm := (ch_facts inv).map bks[i] (List.getElem_mem hi);have hl := (ch_facts inv).len;have h1 := inv.n1.1;simp only at h1;unfold pageOf
  split
  · rename_i q
    have hr := pages_range _ hm at_.toNat (by omega);refine ⟨hr.1,?_⟩;by_cases h0 : 0 <= (pages bks[i].rs).getD at_.toNat 0
    · have hmem : (pages bks[i].rs).getD at_.toNat 0 ∈ pages bks[i].rs := (mem_getD _ (pages_length _) _).2 ⟨_,by omega,rfl⟩
      have := (inv.page i (by simpa using hi) _ (by simp only [List.getElem_map];exact hmem) h0).1;simp only at this
      omega
    · omega
  · omega
def ChPost (ad : Nat -> Addr) (base : Nat) (X : Sf × (Int × Int)) (e : Ending) (w' : World) : Prop :=
  (X.2.1 = 0 /\ ∃ (u1 u2 ub : Value) (ms : List Bk),e = .returned (.tuple #[.agg #[u1,u2,ub],.int .i64 X.2.2,.nilIface]) /\ OwnS base w' u1 u2 ub X.1.cs X.1.ps ms /\ ms.map Bk.pb = X.1.bs) \/
  (X.2.1 = 9 /\ e = .returned (.tuple #[.agg #[.slice none 0 0,.slice none 0 0,.slice none 0 0],.int .i64 0,refErr ad 9]))
theorem run_copy_all {P : Program} (w : World) (T ty e : TypeId) (hu : P.underlying T = some (.slice e)) (hsz : (P.info? e).map (·.size) = some 1)
    (base g n cap : Nat) (ys news : List Value) (hown : w.ownsRow base e 1 (.slice (some ⟨g,0,none⟩) n cap) n ys)
    (ad : Option Addr) (c : Nat) (hl : news.length = n) (hnews : ∀ j u,news[j]? = some u -> ∃ g off,ad = some ⟨g,off,none⟩ /\ w.cell? ⟨g,off + j,none⟩ = some u) (h1 : ∀ u ∈ news,u.oneCell' = true) :
    ∃ w',(Builtin.copy_ #[T,T] ty #[.slice (some ⟨g,0,none⟩) n cap,.slice ad n c]).run P w = .ok (.int .i64 n) w' /\ w'.ownsRow base e 1 (.slice (some ⟨g,0,none⟩) n cap) n news /\ Upto g w w' := by
  rcases Nat.eq_zero_or_pos n with hn | hn
  · subst hn
    have e1 : news = [] := List.length_eq_zero_iff.1 hl;have e2 : ys = [] := List.length_eq_zero_iff.1 (by simpa using hown.1);subst e1;subst e2;exact ⟨w,run_copy_none (P := P) w T T ty e _ _ 0 cap 0 c hu hsz rfl,hown,Upto.refl _ _⟩
  · obtain ⟨g',off,rfl,_⟩ := hnews 0 _ (List.getElem?_eq_getElem (show 0 < news.length by omega))
    have hsrc : ∀ j v,news[j]? = some v -> w.cell? ((⟨g',off,none⟩ : Addr).add j) = some v := fun j u hj => by
      obtain ⟨g2,off2,e2,hc⟩ := hnews j u hj;cases e2;have ea : (⟨g',off,none⟩ : Addr).add j = ⟨g',off + j,none⟩ := by unfold Addr.add;split <;> simp_all
      rw [ea];exact hc
    rcases hown.2 with ⟨h',_⟩ | ⟨g2,cap2,cur,h',hbg,hg,hnc,hcm,hcs,htake⟩
    · cases h'
    · simp only [Value.slice.injEq,Option.some.injEq,Addr.mk.injEq,and_true,true_and] at h'
      obtain ⟨rfl,rfl⟩ := h';have hr := run_copy_row (P := P) w T T ty e g 0 n cap ⟨g',off,none⟩ n c cur e news hu hsz hg (by rw [hl];exact (Nat.min_self n).symm) hsrc (by omega) h1;rw [hl] at hr;refine ⟨_,hr,⟨by omega,.inr ⟨g,cap,_,rfl,hbg,setRow_heap w g cur _ e _ hg,hnc,hcm,?_,?_⟩⟩,⟨rfl,rfl,rfl,by simp,fun k _ hk => setRow_other w g k _ hk⟩⟩
      · simp;omega
      · rw [Nat.mul_one,List.take_zero,List.nil_append,<- hl]
        exact List.take_left
theorem pageCountOk_any (n : Int) (w : World) :
    Calls Tryz.prog 171 #[.int .i64 n] w fun e w' => e = .returned (.bool (decide (1 <= n) && decide (n <= 24))) /\ w' = w := by
  by_cases h : (1 : Int) <= n
  · go_enter Tryz.func171,Tryz.ntmps171
    go_wp2
    go_ret;exact ⟨ret_bool (by simp [h]),rfl⟩
  · go_enter Tryz.func171,Tryz.ntmps171
    go_wp2
    go_ret;exact ⟨ret_bool (by simp;omega),rfl⟩
theorem valueOk_any (n : Int) (w : World) :
    Calls Tryz.prog 107 #[.int .i64 n] w fun e w' => e = .returned (.bool (decide (0 <= n) && decide (n <= 999))) /\ w' = w := by
  by_cases h : (0 : Int) <= n
  · go_enter Tryz.func107,Tryz.ntmps107
    go_wp2
    go_ret;exact ⟨ret_bool (by simp [h]),rfl⟩
  · go_enter Tryz.func107,Tryz.ntmps107
    go_wp2
    go_ret;exact ⟨ret_bool (by simp;omega),rfl⟩
theorem cellOk_any (c p : Int) (w : World) :
    Calls Tryz.prog 172 #[.int .i64 c,.int .i64 p] w fun e w' => e = .returned (.bool (cellOk c p)) /\ w' = w := by
  by_cases h1 : c < 0
  · have hv : cellOk c p = false := by simp [cellOk];omega
    rw [hv]
    go_enter Tryz.func172,Tryz.ntmps172
    go_wp2
    go_ret;exact ⟨rfl,rfl⟩
  by_cases h2 : (400 : Int) < c
  · have hv : cellOk c p = false := by simp [cellOk];omega
    rw [hv]
    go_enter Tryz.func172,Tryz.ntmps172
    go_wp2
    go_ret;exact ⟨rfl,rfl⟩
  cases hp : (decide (0 <= p) && decide (p <= 999))
  · have hv : cellOk c p = false := by simp [cellOk,hp]
    rw [hv]
    go_enter Tryz.func172,Tryz.ntmps172
    go_wp2_with fail
    refine (valueOk_any _ _).mono ?_;rintro e w' ⟨rfl,rfl⟩;rw [hp]
    go_wp2_with fail
    go_ret;exact ⟨rfl,rfl⟩
  · by_cases h3 : 0 < c
    · have hv : cellOk c p = true := (cellOk_iff c p).2 (by simp at hp;omega)
      rw [hv]
      go_enter Tryz.func172,Tryz.ntmps172
      go_wp2_with fail
      refine (valueOk_any _ _).mono ?_;rintro e w' ⟨rfl,rfl⟩;rw [hp]
      go_wp2_with fail
      go_ret;exact ⟨rfl,rfl⟩
    · have hv : cellOk c p = (p == 0) := by
        rw [Bool.eq_iff_iff,cellOk_iff,beq_iff_eq];simp at hp;omega
      rw [hv]
      go_enter Tryz.func172,Tryz.ntmps172
      go_wp2_with fail
      refine (valueOk_any _ _).mono ?_;rintro e w' ⟨rfl,rfl⟩;rw [hp]
      go_wp2_with fail
      go_ret;have hd : decide (0 < c) = false := by simp;omega
      exact ⟨ret_bool (by simp [hd]),rfl⟩
set_option maxHeartbeats 1600000 in
theorem implPoolOk_any (v1 v2 : Value) (cs ps : List Int) (w : World) (h1 : Reads w.heap.size w v1 (cs.map (Value.int .i64))) (h2 : Reads w.heap.size w v2 (ps.map (Value.int .i64))) :
    Calls Tryz.prog 113 #[.agg #[v1,v2]] w fun e w' => e = .returned (.bool (poolOk cs ps)) /\ Below w.heap.size w w' := by
  obtain ⟨o1,cap1,rfl,m1,c1,-⟩ := h1;obtain ⟨o2,cap2,rfl,m2,c2,-⟩ := h2;simp only [List.length_map] at m1 m2 ⊢;have C1 : Hid (∀ j u,(cs.map (Value.int .i64))[j]? = some u -> ∃ g off,o1 = some ⟨g,off,none⟩ /\ g < w.heap.size /\ w.cell? ⟨g,off + j,none⟩ = some u) := c1;have C2 : Hid (∀ j u,(ps.map (Value.int .i64))[j]? = some u -> ∃ g off,o2 = some ⟨g,off,none⟩ /\ g < w.heap.size /\ w.cell? ⟨g,off + j,none⟩ = some u) := c2;clear c1 c2;unfold maxLen at m1 m2;obtain ⟨W0,hW0,k0,d0,z0⟩ := pool_box w (.slice o1 cs.length cap1) (.slice o2 ps.length cap2) 39;have HW0 : Hid (W0 = _) := hW0;have p0 := at_cell k0 0;have p1 := at_cell k0 1;clear hW0 k0;by_cases he : ps.length = cs.length
  · have hne : ((cs.length : Int) != (ps.length : Int)) = false := by simp [he]
    have HE : Hid (ps.length = cs.length) := he;have he1 : ps.length <= cs.length := by omega
    have he2 : cs.length <= ps.length := by omega
    clear he;cases hl : (decide ((1 : Int) <= (cs.length : Int)) && decide ((cs.length : Int) <= 24))
    · have hv : poolOk cs ps = false := poolOk_no cs ps fun q => by simp at hl;omega
      rw [hv]
      go_enter Tryz.func113,Tryz.ntmps113
      go_wp2_with fail
      rw [<- HW0.out];clear HW0;refine (pageCountOk_any _ _).mono ?_;rintro e w' ⟨rfl,rfl⟩;rw [hl]
      go_wp2_with fail
      go_ret;exact ⟨rfl,d0⟩
    · have hb : 1 <= cs.length /\ cs.length <= 24 := by simp at hl;omega
      go_enter Tryz.func113,Tryz.ntmps113
      go_wp2_with fail
      rw [<- HW0.out];clear HW0;refine (pageCountOk_any _ _).mono ?_;rintro e w' ⟨rfl,rfl⟩;rw [hl]
      go_wp2_with fail
      go_loopw [22] (fun i wr => ∃ k : Nat,k <= cs.length /\ i = .int .i64 k /\ (∀ j,j < k -> cellOk (cs.getD j 0) (ps.getD j 0) = true) /\ wr = w') (fun i _ => cs.length - (intOf i).toNat)
      case atStart => exact ⟨0,Nat.zero_le _,rfl,fun j hj => by omega,rfl⟩
      case round =>
        obtain ⟨k,hk,rfl,hall,rfl⟩ := hrel;have HA : Hid (∀ j,j < k -> cellOk (cs.getD j 0) (ps.getD j 0) = true) := hall;clear hall;by_cases hlt : k < cs.length
        · obtain ⟨g1,of1,rfl,q1,cc1⟩ := C1.out k _ (getD_some cs k hlt)
          obtain ⟨g2,of2,rfl,q2,cc2⟩ := C2.out k _ (getD_some ps k (by omega));have d1 := (d0.cell (p := ⟨g1,of1 + k,none⟩) q1).trans cc1;have d2 := (d0.cell (p := ⟨g2,of2 + k,none⟩) q2).trans cc2
          have HN : Hid (cellOk (cs.getD k 0) (ps.getD k 0) = true -> ∀ j,j < k + 1 -> cellOk (cs.getD j 0) (ps.getD j 0) = true) := fun h j hj => by
            rcases Nat.lt_or_ge j k with q | q
            · exact HA.out j q
            · obtain rfl : j = k := by omega
              exact h
          have HNo : Hid (cellOk (cs.getD k 0) (ps.getD k 0) = false -> poolOk cs ps = false) := fun h => poolOk_no cs ps fun q => by rw [q.2.2.2 k hlt] at h;cases h
          clear C1 C2 cc1 cc2 HA;have hle2 : (k : Int) < (ps.length : Int) := by rw [HE.out];omega
          generalize cs.getD k 0 = c at *;generalize ps.getD k 0 = p at *
          go_wp2_with fail
          refine (cellOk_any c p _).mono ?_;rintro e w1 ⟨rfl,rfl⟩;cases hc : cellOk c p
          · go_wp2_with fail
            go_ret;exact ⟨ret_bool (HNo.out hc).symm,d0⟩
          · have HNN : Hid _ := HN.out hc
            go_wp2_with fail
            go_roundw
            case rel => exact ⟨k + 1,by omega,by go_num,HNN.out,by trivial⟩
            case measure => simp [intOf];omega
        · have hv : poolOk cs ps = true := (poolOk_iff cs ps).2 ⟨hb.1,hb.2,HE.out,fun j hj => HA.out j (by omega)⟩
          go_wp2_with fail
          go_ret;exact ⟨ret_bool hv.symm,d0⟩
  · have hne : ((cs.length : Int) != (ps.length : Int)) = true := by simp;omega
    have hv : poolOk cs ps = false := poolOk_no cs ps fun q => he q.2.2.1
    rw [hv]
    go_enter Tryz.func113,Tryz.ntmps113
    go_wp2_with fail
    rw [<- HW0.out];clear HW0
    go_wp2_with fail
    go_ret;exact ⟨rfl,d0⟩
set_option maxHeartbeats 800000 in
theorem index_any (v : Value) (cs : List Int) (w : World) (h1 : Reads w.heap.size w v (cs.map (Value.int .i64))) :
    Calls Tryz.prog 231 #[v,.int .i64 0] w fun e w' => e = .returned (.int .i64 (tookAt cs)) /\ w' = w := by
  obtain ⟨o1,cap1,rfl,m1,c1,-⟩ := h1;simp only [List.length_map] at m1 ⊢;have C1 : Hid (∀ j u,(cs.map (Value.int .i64))[j]? = some u -> ∃ g off,o1 = some ⟨g,off,none⟩ /\ g < w.heap.size /\ w.cell? ⟨g,off + j,none⟩ = some u) := c1;unfold maxLen at m1;clear c1
  go_enter Tryz.func231,Tryz.ntmps231
  go_wp2_with fail
  go_loopw [8] (fun i wr => ∃ k : Nat,k <= cs.length /\ i = .int .i64 k /\ (∀ j,j < k -> cs.getD j 0 ≠ 0) /\ wr = w) (fun i _ => cs.length - (intOf i).toNat)
  case atStart => exact ⟨0,Nat.zero_le _,rfl,fun j hj => by omega,rfl⟩
  case round =>
    obtain ⟨q,hq,rfl,hall,rfl⟩ := hrel;have HA : Hid (∀ j,j < q -> cs.getD j 0 ≠ 0) := hall;clear hall;by_cases hlt : q < cs.length
    · obtain ⟨g1,of1,rfl,q1,cc1⟩ := C1.out q _ (getD_some cs q hlt)
      clear C1;by_cases hz : cs.getD q 0 = 0
      · have hf := firstFree_eq cs q hlt hz HA.out
        have HR : Hid (tookAt cs = q) := by rw [Hid,tookAt,hf,if_pos hlt]
        rw [hz] at cc1;clear hf hz HA
        go_wp2_with fail
        go_ret;exact ⟨ret_int HR.out.symm,rfl⟩
      · have HNN : Hid (∀ j,j < q + 1 -> cs.getD j 0 ≠ 0) := fun j hj => by
          rcases Nat.lt_or_ge j q with r | r
          · exact HA.out j r
          · obtain rfl : j = q := by omega
            exact hz
        have hz1 : ((0 : Int) == cs.getD q 0) = false := by rw [beq_eq_false_iff_ne];exact fun h => hz h.symm
        clear HA;generalize cs.getD q 0 = x at cc1 hz1 hz
        go_wp2_with fail
        go_roundw
        case rel => exact ⟨q + 1,by omega,by go_num,HNN.out,by trivial⟩
        case measure => simp [intOf];omega
    · have hf := firstFree_none cs (fun j hj => HA.out j (by omega))
      have HR : Hid (tookAt cs = -1) := by rw [Hid,tookAt,hf,if_neg (by omega)]
      clear hf HA C1
      go_wp2_with fail
      go_ret;exact ⟨ret_int HR.out.symm,rfl⟩
theorem countAt_any (v1 v2 : Value) (cs : List Int) (at_ : Int) (w : World) (h1 : Reads w.heap.size w v1 (cs.map (Value.int .i64))) :
    Calls Tryz.prog 174 #[.agg #[v1,v2],.int .i64 at_] w fun e w' => e = .returned (.int .i64 (countAt cs at_)) /\ Below w.heap.size w w' := by
  obtain ⟨o1,cap1,rfl,m1,c1,-⟩ := h1;simp only [List.length_map] at m1 ⊢;unfold maxLen at m1;by_cases h0 : 0 <= at_
  · by_cases hlt : at_ < (cs.length : Int)
    · obtain ⟨k,rfl⟩ := Int.eq_ofNat_of_zero_le h0
      have hk : k < cs.length := by omega
      have hv : countAt cs (k : Int) = cs.getD k 0 := countAt_of cs k hk;rw [hv];obtain ⟨g1,of1,rfl,q1,cc1⟩ := c1 k _ (getD_some cs k hk);have hne : ¬ g1 = w.heap.size := by omega
      clear c1 hv;generalize cs.getD k 0 = c at *
      go_enter Tryz.func174,Tryz.ntmps174
      go_wp2_with fail
      go_ret;exact ⟨rfl,bw_alloc (Below.refl _ _)⟩
    · have hv : countAt cs at_ = 0 := by unfold countAt;rw [if_neg (by omega)]
      rw [hv];clear c1 hv
      go_enter Tryz.func174,Tryz.ntmps174
      go_wp2_with fail
      go_ret;exact ⟨rfl,bw_alloc (Below.refl _ _)⟩
  · have hv : countAt cs at_ = 0 := by unfold countAt;rw [if_neg (by omega)]
    rw [hv];clear c1 hv
    go_enter Tryz.func174,Tryz.ntmps174
    go_wp2_with fail
    go_ret;exact ⟨rfl,bw_alloc (Below.refl _ _)⟩
set_option maxHeartbeats 800000 in
theorem sameNumbers_any (v : Value) (xs : List Int) (w : World) (hn : xs.length <= 1048576) (h : Reads w.heap.size w v (xs.map (Value.int .i64))) :
    Calls Tryz.prog 149 #[v] w fun e w' => ∃ v' : Value,e = .returned v' /\ w'.ownsRow w.heap.size 2 1 v' xs.length (xs.map (Value.int .i64)) /\ v' ≠ .slice none 0 0 /\ Below w.heap.size w w' := by
  obtain ⟨i0,hi,hz0,hz1,hz2⟩ := info_parts Tryz.infoI64;obtain ⟨o,cap,rfl,hm,hc,hroom⟩ := h;have hl : (xs.map (Value.int .i64)).length = xs.length := by simp
  rw [hl] at hm ⊢;obtain ⟨M,hM,hmk,hown⟩ := made_ints xs.length hn;have own0 := hown w w.heap.size (Nat.le_refl _);have d0 : Below w.heap.size w (w.alloc (.cells M 2)) := bw_alloc (Below.refl _ _)
  have HC : Hid (∀ j u,(xs.map (Value.int .i64))[j]? = some u -> ∃ g off,o = some ⟨g,off,none⟩ /\ (w.alloc (.cells M 2)).cell? ⟨g,off + j,none⟩ = some u) := fun j u hj => by
    obtain ⟨g,off,e,hg,hx⟩ := hc j u hj;exact ⟨g,off,e,(d0.cell (p := ⟨g,off + j,none⟩) hg).trans hx⟩
  obtain ⟨w',hrun,hown2,hu⟩ := run_copy_all (P := Tryz.prog) (w.alloc (.cells M 2)) 37 3 2 Tryz.underlying37 (by rw [hi];simp [hz1]) w.heap.size w.heap.size xs.length xs.length _ (xs.map (Value.int .i64)) own0 o cap hl HC.out (fun u hu => by simp at hu;obtain ⟨a,_,rfl⟩ := hu;rfl);have hb : Below w.heap.size w w' := d0.trans (hu.toBelow (by simp) (Nat.le_refl _));have HO : Hid _ := hown2;clear own0 d0 HC hu hc hl hown hM hown2;have hm8 : xs.length <= 9223372036854775807 := by omega
  go_enter Tryz.func149,Tryz.ntmps149
  go_wp2_with fail
  go_ret;exact ⟨_,rfl,HO.out,by simp,hb⟩
theorem with_list (xs : List Int) (k : Nat) (x : Int) (h : k < xs.length) : (xs.take k).map (Value.int .i64) ++ [Value.int .i64 x] ++ (xs.drop (k + 1)).map (Value.int .i64) = (xs.set k x).map (Value.int .i64) := by
  rw [List.set_eq_take_append_cons_drop,if_pos h];simp
set_option maxHeartbeats 1600000 in
theorem withNumber_any (v : Value) (xs : List Int) (k : Nat) (x : Int) (w : World) (hk : k < xs.length) (hn : xs.length <= 1048576) (h : Reads w.heap.size w v (xs.map (Value.int .i64))) :
    Calls Tryz.prog 198 #[v,.int .i64 k,.int .i64 x] w fun e w' => ∃ v' : Value,e = .returned v' /\ w'.ownsRow w.heap.size 2 1 v' (xs.set k x).length ((xs.set k x).map (Value.int .i64)) /\ v' ≠ .slice none 0 0 /\ Below w.heap.size w w' := by
  obtain ⟨i0,hi,hz0,hz1,hz2⟩ := info_parts Tryz.infoI64;obtain ⟨o,cap,rfl,hm,hc,hroom⟩ := h;have hl : (xs.map (Value.int .i64)).length = xs.length := by simp
  rw [hl] at hm ⊢
  have hc0 : ∃ g off,o = some ⟨g,off,none⟩ /\ g < w.heap.size := by
    obtain ⟨g,off,e,hg,_⟩ := hc k _ (getD_some xs k hk);exact ⟨g,off,e,hg⟩
  obtain ⟨g,off,rfl,hg⟩ := hc0
  have hcell : ∀ j u,(xs.map (Value.int .i64))[j]? = some u -> w.cell? ⟨g,off + j,none⟩ = some u := fun j u hj => by
    obtain ⟨g',off',e,_,hx⟩ := hc j u hj;cases e;exact hx
  rw [hl] at hroom;clear hc;have j0 : (0 : Int) <= (k : Int) := by omega
  have j1 : (k : Int) < (xs.length : Int) := by omega
  have j2 : (k : Int) + 1 <= (xs.length : Int) := by omega
  have j3 : (k : Int) <= (cap : Int) := by omega
  have j4 : k <= cap := by omega
  obtain ⟨A,hA⟩ : ∃ A,A = (xs.take k).map (Value.int .i64) := ⟨_,rfl⟩
  obtain ⟨D,hD⟩ : ∃ D,D = (xs.drop (k + 1)).map (Value.int .i64) := ⟨_,rfl⟩
  have HLEN : Hid (A.length = k * 1) := by rw [Hid,hA];simp;omega
  have HLEN2 : Hid (D.length = (xs.length - (k + 1)) * 1) := by rw [Hid,hD];simp
  have HI : Hid (∀ u ∈ D,u.oneCell' = true) := fun u hu => by rw [hD,List.mem_map] at hu;obtain ⟨a,_,rfl⟩ := hu;rfl
  have HWL : Hid (A ++ [Value.int .i64 x] ++ D = (xs.set k x).map (Value.int .i64)) := by rw [Hid,hA,hD];exact with_list xs k x hk
  have hA1 : ∀ j u,A[j]? = some u -> w.cell? ⟨g,off + j,none⟩ = some u := fun j u hj => by
    refine hcell j u ?_;rw [hA,List.map_take,List.getElem?_take] at hj
    split at hj
    · exact hj
    · cases hj
  have hD1 : ∀ j u,D[j]? = some u -> w.cell? ⟨g,off + (k + 1) + j,none⟩ = some u := fun j u hj => by
    rw [Nat.add_assoc];refine hcell _ u ?_
    rwa [hD,List.map_drop,List.getElem?_drop] at hj
  have d0 : Below w.heap.size w (w.alloc (.cells #[.int .i64 x] 2)) := bw_alloc (Below.refl _ _);have HOLD : Hid (∀ j u,A[j]? = some u -> (w.alloc (.cells #[.int .i64 x] 2)).cell? ((⟨g,off,none⟩ : Addr).add j) = some u) := cells_add fun j u hj => (d0.cell (p := ⟨g,off + j,none⟩) hg).trans (hA1 j u hj)
  have HNEW : Hid (∀ j u,[Value.int .i64 x][j]? = some u -> (w.alloc (.cells #[.int .i64 x] 2)).cell? ((⟨w.heap.size,0,none⟩ : Addr).add j) = some u) := new_one _ _ _;have HM1 : Hid (k + 1 <= maxLen) := by unfold maxLen at hm;rw [Hid];unfold maxLen;omega
  have HB1 : Hid ((k + 1) * 8 <= 140737488355328) := by rw [Hid];omega
  have HG : Hid (k < k + 1) := Nat.lt_succ_self k;have HBS : Hid (w.heap.size <= (w.alloc (.cells #[.int .i64 x] 2)).heap.size) := by rw [Hid];simp
  have HD1 : Hid _ := hD1;clear hA hD hA1 hD1 hcell
  go_enter Tryz.func198,Tryz.ntmps198
  go_wp2_with (at_builtin;refine wpList_append_full rfl _ _ 37 rfl w.heap.size 2 i0 (.int .i64 0) 1 8 Tryz.underlying37 hi hz0 hz1 hz2 rfl ⟨g,off,none⟩ k k A rfl HLEN.out HOLD.out ⟨w.heap.size,0,none⟩ 1 1 [.int .i64 x] rfl rfl HNEW.out HG.out HM1.out HB1.out HBS.out ?_)
  intro v5 w5 own5 grow5 nn5;have OWN5 : Hid (w5.ownsRow w.heap.size 2 1 v5 (k + 1) (A ++ [Value.int .i64 x])) := own5;have d5 : Below w.heap.size w w5 := d0.grown grow5 (by simp) (fun q hq => by cases hq);have NN5 : Hid (v5 ≠ .slice none 0 0) := nn5;obtain ⟨o5,c5,rfl⟩ := own_slice own5;clear own5 grow5 nn5 HOLD HNEW HLEN HM1 HB1 HG HBS d0;have HM2 : Hid (k + 1 + (xs.length - (k + 1)) <= maxLen) := by unfold maxLen at hm;rw [Hid];unfold maxLen;omega
  have HB2 : Hid ((k + 1 + (xs.length - (k + 1))) * 8 <= 140737488355328) := by rw [Hid];omega
  have HSRC : Hid (∀ (ad : Option Addr),(k + 1 < xs.length -> ad = some ⟨g,off + (k + 1),none⟩) -> ∀ j u,D[j]? = some u -> ∃ g off,ad = some ⟨g,off,none⟩ /\ w5.cell? ⟨g,off + j,none⟩ = some u) := fun ad had j u hj => by
    have hj' := (List.getElem?_eq_some_iff.1 hj).1;have hDl := HLEN2.out;exact ⟨g,off + (k + 1),had (by omega),(d5.cell (p := ⟨g,off + (k + 1) + j,none⟩) hg).trans (HD1.out j u hj)⟩
  have HFIN : Hid (∀ (v6 : Value) (w6 : World),w6.ownsRow w.heap.size 2 1 v6 (k + 1 + (xs.length - (k + 1))) (A ++ [Value.int .i64 x] ++ D) -> w6.ownsRow w.heap.size 2 1 v6 (xs.set k x).length ((xs.set k x).map (Value.int .i64))) := fun v6 w6 h => by
    rw [HWL.out] at h;rw [List.length_set]
    rwa [show k + 1 + (xs.length - (k + 1)) = xs.length by omega] at h
  have HBS : Hid (w.heap.size <= w5.heap.size) := d5.size;by_cases hcap : k + 1 = cap
  · subst hcap
    have hx1 : xs.length <= k + 1 := by omega
    have HE0 : Hid (xs.length - (k + 1) = 0) := by rw [Hid];omega
    have HLEN3 : Hid (D.length = 0 * 1) := by rw [Hid,HLEN2.out,HE0.out]
    have HSRC3 : Hid (∀ j u,D[j]? = some u -> ∃ g' off',some (⟨g,off,none⟩ : Addr) = some ⟨g',off',none⟩ /\ w5.cell? ⟨g',off' + j,none⟩ = some u) := HSRC.out _ (fun h => by omega);have HM3 : Hid (k + 1 + 0 <= maxLen) := by have := HM2.out;rwa [HE0.out] at this
    have HB3 : Hid ((k + 1 + 0) * 8 <= 140737488355328) := by have := HB2.out;rwa [HE0.out] at this
    have HFIN3 : Hid (∀ (v6 : Value) (w6 : World),w6.ownsRow w.heap.size 2 1 v6 (k + 1 + 0) (A ++ [Value.int .i64 x] ++ D) -> w6.ownsRow w.heap.size 2 1 v6 (xs.set k x).length ((xs.set k x).map (Value.int .i64))) := by have := HFIN.out;rwa [HE0.out] at this
    clear HSRC HLEN2 HM2 HB2 HFIN
    go_wp2_with (at_builtin;refine wpList_append_reads rfl _ _ 37 rfl w.heap.size 2 i0 (.int .i64 0) 1 8 Tryz.underlying37 hi hz0 hz1 hz2 rfl (by decide) (.slice o5 (k + 1) c5) (k + 1) (A ++ [Value.int .i64 x]) rfl OWN5.out (some ⟨g,off,none⟩) 0 0 D rfl HLEN3.out HSRC3.out HI.out HM3.out HB3.out HBS.out ?_)
    intro v6 w6 own6 grow6 nil6;have HO : Hid _ := HFIN3.out v6 w6 (by simpa using own6);have d6 : Below w.heap.size w w6 := d5.grown grow6 HBS.out (fun q hq => (OWN5.out.lt q hq).1);have NN6 : Hid (v6 ≠ .slice none 0 0) := nil6;clear own6 grow6 nil6
    go_wp2_with fail
    go_ret;exact ⟨v6,rfl,HO.out,NN6.out,d6⟩
  · have hc1 : k + 1 < cap := by omega
    have hc2 : ¬ k + 1 = cap := hcap;have HSRC3 : Hid (∀ j u,D[j]? = some u -> ∃ g' off',some (⟨g,off + (k + 1),none⟩ : Addr) = some ⟨g',off',none⟩ /\ w5.cell? ⟨g',off' + j,none⟩ = some u) := HSRC.out _ (fun _ => rfl);clear HSRC
    go_wp2_with (at_builtin;refine wpList_append_reads rfl _ _ 37 rfl w.heap.size 2 i0 (.int .i64 0) 1 8 Tryz.underlying37 hi hz0 hz1 hz2 rfl (by decide) (.slice o5 (k + 1) c5) (k + 1) (A ++ [Value.int .i64 x]) rfl OWN5.out (some ⟨g,off + (k + 1),none⟩) (xs.length - (k + 1)) (cap - (k + 1)) D rfl HLEN2.out HSRC3.out HI.out HM2.out HB2.out HBS.out ?_)
    intro v6 w6 own6 grow6 nil6;have HO : Hid _ := HFIN.out v6 w6 (by simpa using own6);have d6 : Below w.heap.size w w6 := d5.grown grow6 HBS.out (fun q hq => (OWN5.out.lt q hq).1);have NN6 : Hid (v6 ≠ .slice none 0 0) := nil6;clear own6 grow6 nil6
    go_wp2_with fail
    go_ret;exact ⟨v6,rfl,HO.out,NN6.out,d6⟩
end Go.Proofs.YtmnhnhjefocicaaGreatDoor
