/-
  Contracts and plain laws, one chapter behind the other.
-/
import Derived.Test.YtibhepekmihagaaGreatDoorM05
import Derived.Test.YtibhepekmihagaaGreatDoorM09
namespace Go.Proofs.YtibhepekmihagaaGreatDoor
open Go.RowKit

set_option linter.unusedVariables false

set_option maxRecDepth 100000


/-- What of an op that is right and not refused the shelf wants. -/
theorem op_parts {o : Oq} (h : opOk o = true) : Nums.nameB o.nm.data.toList = true ∧ (1 ≤ o.k ∧ o.k ≤ 9) ∧ (kOther o.k = true → Nums.nameB o.ot.data.toList = true) ∧ (0 ≤ o.at_ ∧ o.at_ ≤ 255) ∧ (kSize o.k = true → 1 ≤ o.va ∧ o.va ≤ 16) ∧ (o.k = 2 → 0 ≤ o.va ∧ o.va ≤ 999) := by
  simp only [opOk, Bool.and_eq_true, inB_iff] at h
  obtain ⟨⟨⟨⟨⟨⟨⟨⟨h1, h2⟩, h3⟩, h4⟩, h5⟩, h6⟩, h7⟩, h8⟩, h9⟩ := h
  refine ⟨h1, h2, fun q => ?_, h6, fun q => ?_, fun q => ?_⟩
  · rw [q] at h4; simpa using h4
  · unfold valOk at h9; rw [if_pos q, inB_iff] at h9; exact h9
  · unfold valOk at h9
    rw [q] at h9
    simp only [kSize] at h9
    rw [if_neg (by decide), if_pos (by trivial), inB_iff] at h9
    exact h9

theorem refused_parts {bs : List Pb} {o : Oq} (h : refused bs o = 0) : (o.k ≠ 1 → 0 ≤ findP bs o.nm) ∧ (o.k = 1 → findP bs o.nm < 0 ∧ bs.length ≠ 6) ∧ (kOther o.k = true → findP bs o.ot < 0 ∧ (o.k ≠ 1 → bs.length ≠ 6)) ∧ (o.k ≠ 1 → kAt o.k = true → o.at_ < (bookAt bs (findP bs o.nm)).sz) ∧ (o.k = 8 → (bookAt bs (findP bs o.nm)).ep ≠ 1000) := by
  unfold refused at h
  split at h
  · omega
  rename_i h1
  split at h
  · omega
  rename_i h2
  have a1 : o.k ≠ 1 → 0 ≤ findP bs o.nm := fun q => by
    by_cases z : findP bs o.nm < 0
    · exact absurd ⟨q, z⟩ h1
    · omega
  have a3 : kOther o.k = true → findP bs o.ot < 0 := fun q => by
    by_cases z : 0 ≤ findP bs o.ot
    · exact absurd (.inr ⟨q, z⟩) h2
    · omega
  have a2 : o.k = 1 → findP bs o.nm < 0 := fun q => by
    by_cases z : 0 ≤ findP bs o.nm
    · exact absurd (.inl ⟨q, z⟩) h2
    · omega
  split at h
  · rename_i h3
    have a4 : bs.length ≠ 6 := fun q => by rw [if_pos q] at h; omega
    exact ⟨a1, fun q => ⟨a2 q, a4⟩, fun q => ⟨a3 q, fun _ => a4⟩, fun q => absurd h3 q, fun q => by omega⟩
  rename_i h3
  split at h
  · omega
  split at h
  · omega
  split at h
  · omega
  rename_i h6
  split at h
  · omega
  rename_i h7
  split at h
  · omega
  rename_i h8
  exact ⟨a1, fun q => absurd q h3, fun q => ⟨a3 q, fun _ z => h7 ⟨q, z⟩⟩, fun _ q => by
    by_cases z : (bookAt bs (findP bs o.nm)).sz ≤ o.at_
    · exact absurd ⟨q, z⟩ h6
    · omega, fun q z => h8 ⟨q, z⟩⟩

theorem filter_count (rs : List (Int × Int × Int)) (hm : mapOk rs = true) (k : Nat) : (pagesOf rs).count (k : Int) = (pages rs).count (k : Int) := by
  unfold pagesOf
  rw [if_pos hm, List.count_filter (by simp)]

set_option maxHeartbeats 1600000 in
theorem kind_inv {s : Sf} (h : ShInv s) (o : Oq) (ho : opOk o = true) (hk : o.k = 9 ∨ o.k = 8 ∨ o.k = 7 ∨ o.k = 3 ∨ o.k = 2) (i : Nat) (hi : i < s.bs.length) (hat : kAt o.k = true → o.at_ < s.bs[i].sz) (h8 : o.k = 8 → s.bs[i].ep ≠ 1000) (page : Int) (hpg : page = if o.at_ < 16 then (pages s.bs[i].rs).getD o.at_.toNat 0 else -1) : ShInv (doKind s o i s.bs[i] page).1 := by
  obtain ⟨-, -, -, ha, hs7, hw2⟩ := op_parts ho
  have hbo := h.oks _ (List.getElem_mem hi)
  obtain ⟨b1, b2, b3, b4, b5⟩ := book_parts hbo
  unfold doKind
  rcases hk with q | q | q | q | q
  · rw [if_pos q]; exact h
  · rw [if_neg (by omega), if_pos q]
    refine h.put i hi { s.bs[i] with ep := s.bs[i].ep + 1 } (book_mk (b := { s.bs[i] with ep := s.bs[i].ep + 1 }) b1 b2 (by have := h8 q; simp only; omega) b4 b5) rfl s.cs s.ps h.cells (fun k hk => ?_) (fun k h1 h2 => cnt_out h i hi k h1 h2)
    show s.cs.getD k 0 = s.cs.getD k 0 - s.bs[i].cnt (k : Int) + s.bs[i].cnt (k : Int)
    omega
  · rw [if_neg (by omega), if_neg (by omega), if_pos q]
    have hv := hs7 (by rw [q]; decide)
    obtain ⟨n, hn⟩ := Int.eq_ofNat_of_zero_le (show 0 ≤ o.va by omega)
    obtain ⟨c1, c2⟩ := cut_ok h i hi o.va.toNat (by omega)
    have p1 := cut_pages s.bs[i].rs b4 o.va.toNat (by omega)
    have hset : (cutBook s i o.va.toNat).bs = s.bs.set i { s.bs[i] with rs := mapOf (cutAt (pages s.bs[i].rs) (o.va.toNat : Nat)) } := by
      unfold cutBook
      rw [bookAt_of s.bs i hi]
    have hbk : bookAt (cutBook s i o.va.toNat).bs i = { s.bs[i] with rs := mapOf (cutAt (pages s.bs[i].rs) (o.va.toNat : Nat)) } := by
      rw [hset, bookAt_of _ i (by simpa using hi), List.getElem_set_self]
    rw [hbk, hset, List.set_set]
    refine h.put i hi { s.bs[i] with rs := mapOf (cutAt (pages s.bs[i].rs) (o.va.toNat : Nat)), sz := o.va } (book_mk (b := { s.bs[i] with rs := mapOf (cutAt (pages s.bs[i].rs) (o.va.toNat : Nat)), sz := o.va }) b1 hv b3 p1.1 (by simp only; rw [show o.va = ((o.va.toNat : Nat) : Int) by omega]; exact p1.2.2)) rfl _ _ c1 (fun k hk => ?_) (fun k h1 h2 => ?_)
    · rw [c2 k hk]
      show _ = s.cs.getD k 0 - ((pages s.bs[i].rs).count (k : Int) : Int) + ((pages (mapOf (cutAt (pages s.bs[i].rs) (o.va.toNat : Nat)))).count (k : Int) : Int)
      rw [p1.2.1, cutAt_count _ (pages_length _) _ (by omega)]
      omega
    · show ((pages (mapOf (cutAt (pages s.bs[i].rs) (o.va.toNat : Nat)))).count (k : Int) : Int) = 0
      rw [p1.2.1, cutAt_count _ (pages_length _) _ (by omega)]
      have := cnt_out h i hi k h1 h2
      unfold Pb.cnt at this
      have := (List.drop_sublist o.va.toNat (pages s.bs[i].rs)).count_le (k : Int)
      omega
  · rw [if_neg (by omega), if_neg (by omega), if_neg (by omega), if_pos q]
    have hlt := hat (by rw [q]; decide)
    rw [if_pos (by omega)] at hpg
    split
    · rename_i h0
      obtain ⟨j, hj⟩ := Int.eq_ofNat_of_zero_le ha.1
      have hjt : o.at_.toNat = j := by omega
      rw [hjt] at hpg ⊢
      have hmem : page ∈ pages s.bs[i].rs := (mem_getD _ (pages_length _) _).2 ⟨j, by omega, hpg.symm⟩
      obtain ⟨g1, g2⟩ := h.page i hi page hmem h0
      obtain ⟨m, rfl⟩ := Int.eq_ofNat_of_zero_le h0
      rw [Int.toNat_natCast] at g2
      obtain ⟨c1, c2⟩ := dropOne_ok h.cells m (by omega) g2
      have p1 := set_pages s.bs[i] hbo j (by omega) (-1) (by omega)
      refine h.put i hi { s.bs[i] with rs := mapOf ((pages s.bs[i].rs).set j (-1)) } (book_mk (b := { s.bs[i] with rs := mapOf ((pages s.bs[i].rs).set j (-1)) }) b1 b2 b3 p1.1 p1.2.2) rfl _ _ c1 (fun k hk => ?_) (fun k h1 h2 => ?_)
      · rw [c2]
        show _ = s.cs.getD k 0 - ((pages s.bs[i].rs).count (k : Int) : Int) + ((pages (mapOf ((pages s.bs[i].rs).set j (-1)))).count (k : Int) : Int)
        rw [p1.2.1, set_count _ j (by rw [pages_length]; omega), ← hpg, if_neg (show ¬ (-1 : Int) = (k : Int) by omega)]
        by_cases e : m = k
        · subst e; rw [if_pos rfl, if_pos rfl]; omega
        · rw [if_neg e, if_neg (by omega)]; omega
      · show ((pages (mapOf ((pages s.bs[i].rs).set j (-1)))).count (k : Int) : Int) = 0
        rw [p1.2.1, set_count _ j (by rw [pages_length]; omega), ← hpg, if_neg (show ¬ (-1 : Int) = (k : Int) by omega), if_neg (by omega)]
        have := cnt_out h i hi k h1 h2
        unfold Pb.cnt at this
        omega
    · exact h
  · rw [if_neg (by omega), if_neg (by omega), if_neg (by omega), if_neg (by omega)]
    have hlt := hat (by rw [q]; decide)
    have hv := hw2 q
    rw [if_pos (by omega)] at hpg
    obtain ⟨j, hj⟩ := Int.eq_ofNat_of_zero_le ha.1
    have hjt : o.at_.toNat = j := by omega
    unfold doWrite
    rw [hjt] at hpg ⊢
    split
    · rename_i h0
      obtain ⟨m, rfl⟩ := Int.eq_ofNat_of_zero_le h0.1
      have hmem : (m : Int) ∈ pages s.bs[i].rs := (mem_getD _ (pages_length _) _).2 ⟨j, by omega, hpg.symm⟩
      obtain ⟨g1, g2⟩ := h.page i hi _ hmem h0.1
      rw [Int.toNat_natCast] at h0 g2 ⊢
      exact ⟨h.n1, h.cells.same m (by omega) o.va hv (by omega), h.few, h.oks, h.srt, h.cnt, h.out⟩
    · rename_i h0
      split
      · rename_i hf
        obtain ⟨t1, t2⟩ := h.cells.took o.va hv hf
        have htk : tookAt s.cs = (firstFree s.cs : Int) := by unfold tookAt; rw [if_pos hf]
        have hn24 := h.n1.2
        have p1 := set_pages s.bs[i] hbo j (by omega) (tookAt s.cs) (by omega)
        have hfc : s.cs.getD (firstFree s.cs) 0 = 0 := firstFree_at s.cs hf
        by_cases hp : 0 ≤ page
        · have hmem : page ∈ pages s.bs[i].rs := (mem_getD _ (pages_length _) _).2 ⟨j, by omega, hpg.symm⟩
          obtain ⟨g1, g2⟩ := h.page i hi page hmem hp
          obtain ⟨m, rfl⟩ := Int.eq_ofNat_of_zero_le hp
          rw [Int.toNat_natCast] at g2
          have hmf : firstFree s.cs ≠ m := fun e => by rw [e] at hfc; omega
          have t3 := t2 m (by omega)
          rw [if_neg (by omega)] at t3
          obtain ⟨c1, c2⟩ := dropOne_ok t1 m (by omega) (by omega)
          refine h.put i hi { s.bs[i] with rs := mapOf ((pages s.bs[i].rs).set j (tookAt s.cs)) } (book_mk (b := { s.bs[i] with rs := mapOf ((pages s.bs[i].rs).set j (tookAt s.cs)) }) b1 b2 b3 p1.1 p1.2.2) rfl _ _ c1 (fun k hk => ?_) (fun k h1 h2 => ?_)
          · rw [c2]
            show _ = s.cs.getD k 0 - ((pages s.bs[i].rs).count (k : Int) : Int) + ((pages (mapOf ((pages s.bs[i].rs).set j (tookAt s.cs)))).count (k : Int) : Int)
            rw [p1.2.1, set_count _ j (by rw [pages_length]; omega), ← hpg, t2 k hk]
            by_cases e : m = k
            · subst e; rw [if_pos rfl, if_pos rfl]; omega
            · rw [if_neg e, if_neg (show ¬ (m : Int) = (k : Int) by omega)]; omega
          · show ((pages (mapOf ((pages s.bs[i].rs).set j (tookAt s.cs)))).count (k : Int) : Int) = 0
            rw [p1.2.1, set_count _ j (by rw [pages_length]; omega), ← hpg, if_neg (by omega), if_neg (by omega)]
            have := cnt_out h i hi k h1 h2
            unfold Pb.cnt at this
            omega
        · have hd : dropOne (tookC s.cs, tookP s.cs s.ps o.va) page = (tookC s.cs, tookP s.cs s.ps o.va) := by rw [dropOne, if_neg hp]
          rw [hd]
          refine h.put i hi { s.bs[i] with rs := mapOf ((pages s.bs[i].rs).set j (tookAt s.cs)) } (book_mk (b := { s.bs[i] with rs := mapOf ((pages s.bs[i].rs).set j (tookAt s.cs)) }) b1 b2 b3 p1.1 p1.2.2) rfl _ _ t1 (fun k hk => ?_) (fun k h1 h2 => ?_)
          · show _ = s.cs.getD k 0 - ((pages s.bs[i].rs).count (k : Int) : Int) + ((pages (mapOf ((pages s.bs[i].rs).set j (tookAt s.cs)))).count (k : Int) : Int)
            rw [p1.2.1, set_count _ j (by rw [pages_length]; omega), ← hpg, t2 k hk, if_neg (show ¬ page = (k : Int) by omega)]
            omega
          · show ((pages (mapOf ((pages s.bs[i].rs).set j (tookAt s.cs)))).count (k : Int) : Int) = 0
            rw [p1.2.1, set_count _ j (by rw [pages_length]; omega), ← hpg, if_neg (show ¬ page = (k : Int) by omega), if_neg (by omega)]
            have := cnt_out h i hi k h1 h2
            unfold Pb.cnt at this
            omega
      · exact h

theorem do_inv {s : Sf} (h : ShInv s) (o : Oq) : ShInv (doOp s o).1 := by
  unfold doOp
  split
  · exact h
  rename_i ho
  have ho : opOk o = true := by simpa using ho
  split
  · exact h
  rename_i hr
  have hr : refused s.bs o = 0 := by simpa using hr
  obtain ⟨r1, r2, r3, r4, r5⟩ := refused_parts hr
  obtain ⟨n1, n2, n3, n4, n5, n6⟩ := op_parts ho
  split
  · rename_i q
    obtain ⟨q1, q2⟩ := r2 q
    have hf := h.few
    refine h.insert ⟨o.nm, o.va, [], false, 0⟩ (book_mk (b := ⟨o.nm, o.va, [], false, 0⟩) n1 (n5 (by rw [q]; decide)) (by simp only; omega) rfl rfl) q1 (by omega) s.cs h.cells (fun k hk => ?_) (fun k h1 h2 => cnt_empty _ _ _ _ _)
    rw [cnt_empty]
    omega
  rename_i q1
  have hfi := r1 q1
  obtain ⟨i, hi, hfe, hnm⟩ := find_in s.bs o.nm (by omega)
  rw [hfe] at r4 r5 ⊢
  rw [bookAt_of s.bs i hi] at r4 r5 ⊢
  rw [Int.toNat_natCast]
  split
  · rename_i q6
    obtain ⟨c1, c2⟩ := cut_ok h i hi 0 (by omega)
    exact h.erase i hi _ _ c1 (fun k hk => by rw [c2 k hk, List.drop_zero]; rfl)
  rename_i q6
  split
  · rename_i q5
    obtain ⟨t1, t2⟩ := r3 q5
    obtain ⟨b1, b2, b3, b4, b5⟩ := book_parts (h.oks _ (List.getElem_mem hi))
    have hf := h.few
    have ht2 := t2 q1
    have hpm : ∀ p ∈ pagesOf s.bs[i].rs, 0 ≤ p ∧ p ∈ pages s.bs[i].rs := fun p hp => by
      unfold pagesOf at hp
      rw [if_pos b4, List.mem_filter, decide_eq_true_eq] at hp
      exact ⟨hp.2, hp.1⟩
    obtain ⟨c1, c2⟩ := shareAll_ok (pagesOf s.bs[i].rs) h.cells (fun p hp => ⟨(hpm p hp).1, (h.page i hi p (hpm p hp).2 (hpm p hp).1).1⟩) (fun p hp => (h.page i hi p (hpm p hp).2 (hpm p hp).1).2)
    refine h.insert ⟨o.ot, s.bs[i].sz, s.bs[i].rs, decide (o.k = 4), 0⟩ (book_mk (b := ⟨o.ot, s.bs[i].sz, s.bs[i].rs, decide (o.k = 4), 0⟩) (n3 q5) b2 (by simp only; omega) b4 b5) t1 (by omega) _ c1 (fun k hk => ?_) (fun k h1 h2 => cnt_out h i hi k h1 h2)
    rw [c2 k hk, filter_count _ b4]
    rfl
  rename_i q5
  have hk : o.k = 9 ∨ o.k = 8 ∨ o.k = 7 ∨ o.k = 3 ∨ o.k = 2 := by
    have : ¬ (o.k = 4 ∨ o.k = 5) := fun z => q5 (by unfold kOther; rcases z with z | z <;> simp [z])
    omega
  exact kind_inv h o ho hk i hi (r4 q1) r5 _ rfl
end Go.Proofs.YtibhepekmihagaaGreatDoor

namespace Go.Proofs.YtibhepekmihagaaGreatDoor
open Go.RowKit

set_option linter.unusedVariables false

set_option maxRecDepth 100000


def Bk.pb (b : Bk) : Pb := ⟨b.nm, b.sz, b.rs, b.fx, b.ep⟩
end Go.Proofs.YtibhepekmihagaaGreatDoor

namespace Go.Proofs.YtibhepekmihagaaGreatDoor
open Go.RowKit

set_option linter.unusedVariables false

set_option maxRecDepth 100000


def droppedAllL (s : List Int × List Int) (l : List Int) : List Int × List Int := l.foldl (fun s p => (dropped s.1 s.2 p).1) s

theorem poolOk_of {n : Nat} {cs ps : List Int} (h : Cells n cs ps) (hn : 1 ≤ n ∧ n ≤ 24) (hb : ∀ k, k < n → 0 ≤ cs.getD k 0 ∧ cs.getD k 0 ≤ 400) : poolOk cs ps = true := by
  have hc := h.c
  have hp := h.p
  refine (poolOk_iff cs ps).2 ⟨by omega, by omega, by omega, fun j hj => (cellOk_iff _ _).2 ?_⟩
  have h1 := hb j (by omega)
  have h2 := h.val j (by omega)
  exact ⟨h1.1, h1.2, h2.1, h2.2.1, h2.2.2⟩

theorem dropped_one {n : Nat} {cs ps : List Int} (h : Cells n cs ps) (hn : 1 ≤ n ∧ n ≤ 24) (hb : ∀ k, k < n → 0 ≤ cs.getD k 0 ∧ cs.getD k 0 ≤ 400) (k : Nat) (hk : k < n) (h1 : 1 ≤ cs.getD k 0) : dropped cs ps (k : Int) = (dropOne (cs, ps) (k : Int), true) := by
  have hc := h.c
  have e : dropOne (cs, ps) (k : Int) = (cs.set k (cs.getD k 0 - 1), if cs.getD k 0 = 1 then ps.set k 0 else ps) := by
    rw [dropOne, if_pos (by omega : (0 : Int) ≤ (k : Int)), Int.toNat_natCast]
  rw [e, dropped, if_pos (poolOk_of h hn hb), countAt_of cs k (by omega), if_pos h1, Int.toNat_natCast]

theorem droppedAll_link {n : Nat} (hn : 1 ≤ n ∧ n ≤ 24) (l : List Int) : ∀ {cs ps : List Int}, Cells n cs ps → (∀ k, k < n → 0 ≤ cs.getD k 0 ∧ cs.getD k 0 ≤ 400) → (∀ p ∈ l, 0 ≤ p ∧ p < n) → (∀ k, k < n → (l.count (k : Int) : Int) ≤ cs.getD k 0) → droppedAllL (cs, ps) l = dropAll (cs, ps) l := by
  induction l with
  | nil => intro cs ps _ _ _ _; rfl
  | cons p t ih =>
    intro cs ps h hb hp hc
    obtain ⟨h0, hm⟩ := hp p (List.mem_cons_self ..)
    obtain ⟨m, rfl⟩ := Int.eq_ofNat_of_zero_le h0
    have hm' : m < n := by omega
    have h1 : 1 ≤ cs.getD m 0 := by
      have := hc m hm'
      rw [List.count_cons_self] at this
      omega
    obtain ⟨c1, g1⟩ := dropOne_ok h m hm' h1
    show droppedAllL (dropped cs ps (m : Int)).1 t = dropAll (dropOne (cs, ps) (m : Int)) t
    rw [dropped_one h hn hb m hm' h1]
    show droppedAllL ((dropOne (cs, ps) (m : Int)).1, (dropOne (cs, ps) (m : Int)).2) t = dropAll ((dropOne (cs, ps) (m : Int)).1, (dropOne (cs, ps) (m : Int)).2) t
    refine ih c1 (fun k hk => ?_) (fun q hq => hp q (List.mem_cons_of_mem _ hq)) (fun k hk => ?_)
    · have := hb k hk
      rw [g1]
      split
      · rename_i e; subst e; omega
      · exact this
    · have := hc k hk
      rw [List.count_cons] at this
      rw [g1]
      by_cases ek : m = k
      · subst ek; rw [if_pos rfl]; rw [beq_self_eq_true, if_pos rfl] at this; omega
      · rw [if_neg ek]
        have hne : ((m : Int) == (k : Int)) = false := by rw [beq_eq_false_iff_ne]; omega
        rw [hne, if_neg (by decide)] at this
        omega

theorem dropAll_filter (l : List Int) : ∀ s : List Int × List Int, dropAll s (l.filter (fun p => decide (0 ≤ p))) = dropAll s l := by
  induction l with
  | nil => intro s; rfl
  | cons p t ih =>
    intro s
    by_cases h0 : 0 ≤ p
    · rw [List.filter_cons_of_pos (by simpa using h0)]
      exact ih (dropOne s p)
    · rw [List.filter_cons_of_neg (by simpa using h0)]
      have e : dropAll s (p :: t) = dropAll (dropOne s p) t := rfl
      rw [e, ih, dropOne, if_neg h0]

/-! ### A right shelf's pool -/
theorem ShInv.bound {s : Sf} (h : ShInv s) : ∀ k, k < s.cs.length → 0 ≤ s.cs.getD k 0 ∧ s.cs.getD k 0 ≤ 96 := fun k hk => by
  rw [h.cnt k hk]
  have h5 := cntAll_le s.bs (k : Int)
  have h6 := cntAll_nonneg s.bs (k : Int)
  have h7 := h.few
  omega

theorem ShInv.bound4 {s : Sf} (h : ShInv s) : ∀ k, k < s.cs.length → 0 ≤ s.cs.getD k 0 ∧ s.cs.getD k 0 ≤ 400 := fun k hk => by
  have := h.bound k hk
  omega

theorem ShInv.mapOk {s : Sf} (h : ShInv s) (i : Nat) (hi : i < s.bs.length) : mapOk s.bs[i].rs = true := (book_parts (h.oks _ (List.getElem_mem hi))).2.2.2.1

/-- The pages of a book in the order of its places, from a place on. -/
theorem ShInv.part {s : Sf} (h : ShInv s) (i : Nat) (hi : i < s.bs.length) (n : Nat) : droppedAllL (s.cs, s.ps) (((pages s.bs[i].rs).drop n).filter (fun p => decide (0 ≤ p))) = dropAll (s.cs, s.ps) ((pages s.bs[i].rs).drop n) := by
  have hcn := h.cells.c
  rw [droppedAll_link h.n1 _ h.cells h.bound4 (fun p hp => ?_) (fun k hk => ?_), dropAll_filter]
  · obtain ⟨h1, h2⟩ := List.mem_filter.1 hp
    have h3 : 0 ≤ p := by simpa using h2
    exact ⟨h3, (h.page i hi p (List.mem_of_mem_drop h1) h3).1⟩
  · have h1 := cnt_le_cs h i hi k hk
    unfold Pb.cnt at h1
    have h2 := (List.drop_sublist n (pages s.bs[i].rs)).count_le (k : Int)
    have h3 := ((List.filter_sublist (l := (pages s.bs[i].rs).drop n) (p := fun p => decide (0 ≤ p))).count_le (k : Int))
    omega

theorem ShInv.whole {s : Sf} (h : ShInv s) (i : Nat) (hi : i < s.bs.length) : droppedAllL (s.cs, s.ps) (pagesOf s.bs[i].rs) = dropAll (s.cs, s.ps) ((pages s.bs[i].rs).drop 0) := by
  rw [← h.part i hi 0, List.drop_zero, pagesOf, if_pos (h.mapOk i hi)]

/-! ### Kind by kind -/
structure OpIn (s : Sf) (o : Oq) (i : Nat) : Prop where
  inv : ShInv s
  ok : opOk o = true
  ref : refused s.bs o = 0
  lt : i < s.bs.length
  at_ : findP s.bs o.nm = i

theorem OpIn.book {s : Sf} {o : Oq} {i : Nat} (h : OpIn s o i) : bookAt s.bs (findP s.bs o.nm) = s.bs[i]'h.lt := by rw [h.at_, bookAt_of s.bs i h.lt]

theorem OpIn.place {s : Sf} {o : Oq} {i : Nat} (h : OpIn s o i) (h1 : o.k ≠ 1) (ha : kAt o.k = true) : (0 ≤ o.at_ ∧ o.at_ < 16) ∧ o.at_ < (s.bs[i]'h.lt).sz := by
  have h2 := (refused_parts h.ref).2.2.2.1 h1 ha
  rw [h.book] at h2
  have h3 := (book_parts (h.inv.oks _ (List.getElem_mem h.lt))).2.1
  have h4 := (op_parts h.ok).2.2.2.1
  omega
end Go.Proofs.YtibhepekmihagaaGreatDoor

namespace Go.Proofs.YtibhepekmihagaaGreatDoor
set_option linter.unusedVariables false

set_option maxRecDepth 100000


theorem new_inv (n : Int) (h : 1 ≤ n ∧ n ≤ 24) : ShInv ⟨(newPool n).1.1, (newPool n).1.2, []⟩ := by
  have e : newPool n = ((List.replicate n.toNat 0, List.replicate n.toNat 0), true) := by rw [newPool, if_pos h]
  rw [e]
  have g : ∀ k : Nat, (List.replicate n.toNat (0 : Int)).getD k 0 = 0 := fun k => by
    rw [List.getD_eq_getElem?_getD, List.getElem?_replicate]
    split <;> rfl
  refine ⟨?_, ⟨rfl, ?_, ?_⟩, ?_, ?_, ?_, ?_, ?_⟩
  · simp only [List.length_replicate]; omega
  · simp only [List.length_replicate]
  · intro k _
    rw [g k]
    omega
  · exact Nat.zero_le _
  · intro b hb; cases hb
  · exact List.Pairwise.nil
  · intro k _
    show (List.replicate n.toNat (0 : Int)).getD k 0 = _
    rw [g k]
    rfl
  · intro k _ _
    rfl
end Go.Proofs.YtibhepekmihagaaGreatDoor

