/-
  Chapter 4, in plain words: what a pool is, what taking, sharing, dropping a page and counting the spare ones come to; and their laws.
-/
import Derived.WalkKit
namespace Go.Proofs.Ytghhphhnalfjaaa

def cellOk (c p : Int) : Bool := (decide (0 ≤ c) && decide (c ≤ 400)) && (decide (0 ≤ p) && decide (p ≤ 999)) && !(decide (c = 0) && !decide (p = 0))
theorem cellOk_iff (c p : Int) : cellOk c p = true ↔ 0 ≤ c ∧ c ≤ 400 ∧ 0 ≤ p ∧ p ≤ 999 ∧ (c = 0 → p = 0) := by
  simp only [cellOk, Bool.and_eq_true, decide_eq_true_eq, Bool.not_eq_true', Bool.and_eq_false_iff, decide_eq_false_iff_not, Bool.not_eq_false']
  constructor
  · rintro ⟨⟨⟨h1, h2⟩, h3, h4⟩, h5⟩
    refine ⟨h1, h2, h3, h4, fun h => ?_⟩
    rcases h5 with h5 | h5
    · exact absurd h h5
    · exact h5
  · rintro ⟨h1, h2, h3, h4, h5⟩
    refine ⟨⟨⟨h1, h2⟩, h3, h4⟩, ?_⟩
    by_cases h : c = 0
    · exact .inr (h5 h)
    · exact .inl h

def poolOk (cs ps : List Int) : Bool := decide (1 ≤ cs.length ∧ cs.length ≤ 24 ∧ ps.length = cs.length ∧ ∀ j, j < cs.length → cellOk (cs.getD j 0) (ps.getD j 0) = true)
theorem poolOk_iff (cs ps : List Int) : poolOk cs ps = true ↔ (1 ≤ cs.length ∧ cs.length ≤ 24 ∧ ps.length = cs.length ∧ ∀ j, j < cs.length → cellOk (cs.getD j 0) (ps.getD j 0) = true) := by
  rw [poolOk, decide_eq_true_iff]
theorem poolOk_no (cs ps : List Int) (h : ¬ (1 ≤ cs.length ∧ cs.length ≤ 24 ∧ ps.length = cs.length ∧ ∀ j, j < cs.length → cellOk (cs.getD j 0) (ps.getD j 0) = true)) : poolOk cs ps = false := by
  rw [poolOk, decide_eq_false_iff_not]
  exact h

/-- The first place that is free; the length where none is. -/
def firstFree (cs : List Int) : Nat := cs.findIdx fun c => decide (c = 0)
theorem firstFree_le (cs : List Int) : firstFree cs ≤ cs.length := List.findIdx_le_length
theorem firstFree_at (cs : List Int) (h : firstFree cs < cs.length) : cs.getD (firstFree cs) 0 = 0 := by
  have := List.findIdx_getElem (p := fun c => decide (c = (0 : Int))) (xs := cs) (w := h)
  rw [List.getD_eq_getElem?_getD, List.getElem?_eq_getElem h]
  exact of_decide_eq_true this
theorem firstFree_before (cs : List Int) (j : Nat) (h : j < firstFree cs) : cs.getD j 0 ≠ 0 := by
  have hl := firstFree_le cs
  have := List.not_of_lt_findIdx (p := fun c => decide (c = 0)) (xs := cs) h
  rw [List.getD_eq_getElem?_getD, List.getElem?_eq_getElem (by omega)]
  simpa using this
theorem firstFree_eq (cs : List Int) (k : Nat) (h : k < cs.length) (h0 : cs.getD k 0 = 0) (hb : ∀ j, j < k → cs.getD j 0 ≠ 0) : firstFree cs = k := by
  have h1 : ¬ firstFree cs < k := fun q => hb _ q (firstFree_at cs (by omega))
  have h2 : ¬ k < firstFree cs := fun q => firstFree_before cs k q h0
  omega
theorem firstFree_none (cs : List Int) (hb : ∀ j, j < cs.length → cs.getD j 0 ≠ 0) : firstFree cs = cs.length := by
  have h1 : ¬ firstFree cs < cs.length := fun q => hb _ q (firstFree_at cs q)
  have := firstFree_le cs
  omega

/-- What l4Take leaves of the two rows, and what it tells. -/
def tookC (cs : List Int) : List Int := if firstFree cs < cs.length then cs.set (firstFree cs) 1 else cs
def tookP (cs ps : List Int) (v : Int) : List Int := if firstFree cs < cs.length then ps.set (firstFree cs) v else ps
def tookAt (cs : List Int) : Int := if firstFree cs < cs.length then (firstFree cs : Int) else -1

def newPool (n : Int) : (List Int × List Int) × Bool :=
  if 1 ≤ n ∧ n ≤ 24 then ((List.replicate n.toNat 0, List.replicate n.toNat 0), true) else (([], []), false)
def takenPage (cs ps : List Int) (v : Int) : (List Int × List Int) × Int :=
  if poolOk cs ps = true then (if firstFree cs < cs.length ∧ 0 ≤ v ∧ v ≤ 999 then ((cs.set (firstFree cs) 1, ps.set (firstFree cs) v), (firstFree cs : Int)) else ((cs, ps), -1)) else (([], []), -1)
/-- The count at a place; 0 where there is none. -/
def countAt (cs : List Int) (at_ : Int) : Int := if 0 ≤ at_ ∧ at_ < cs.length then cs.getD at_.toNat 0 else 0
def shared (cs ps : List Int) (at_ : Int) : (List Int × List Int) × Bool :=
  if poolOk cs ps = true then (if 1 ≤ countAt cs at_ ∧ countAt cs at_ < 400 then ((cs.set at_.toNat (countAt cs at_ + 1), ps), true) else ((cs, ps), false)) else (([], []), false)
def dropped (cs ps : List Int) (at_ : Int) : (List Int × List Int) × Bool :=
  if poolOk cs ps = true then (if 1 ≤ countAt cs at_ then ((cs.set at_.toNat (countAt cs at_ - 1), if countAt cs at_ = 1 then ps.set at_.toNat 0 else ps), true) else ((cs, ps), false)) else (([], []), false)
/-- How many of a list are 0. -/
def zeros (cs : List Int) : Nat := cs.countP fun c => decide (c = 0)
def spare (cs ps : List Int) : Int := if poolOk cs ps = true then (zeros cs : Int) else -1

theorem getD_of (cs : List Int) (k : Nat) (h : k < cs.length) : cs.getD k 0 = cs[k] := by
  rw [List.getD_eq_getElem?_getD, List.getElem?_eq_getElem h]; rfl
theorem getD_set (cs : List Int) (k j : Nat) (x : Int) (h : k < cs.length) : (cs.set k x).getD j 0 = if k = j then x else cs.getD j 0 := by
  rw [List.getD_eq_getElem?_getD, List.getElem?_set, List.getD_eq_getElem?_getD]
  by_cases e : k = j
  · subst e; simp [h]
  · simp [e]
theorem set_same (cs : List Int) (k : Nat) : cs.set k (cs.getD k 0) = cs := by
  apply List.ext_getElem? 
  intro j
  rw [List.getElem?_set]
  by_cases e : k = j
  · subst e
    by_cases h : k < cs.length
    · simp [h]
    · simp [h]
  · simp [e]
theorem set_back (cs : List Int) (k : Nat) (x y : Int) (h : cs.getD k 0 = y) : (cs.set k x).set k y = cs := by
  rw [List.set_set, ← h, set_same]
theorem zeros_set (cs : List Int) (k : Nat) (x : Int) (h : k < cs.length) : (zeros (cs.set k x) : Int) = (zeros cs : Int) - (if cs.getD k 0 = 0 then 1 else 0) + (if x = 0 then 1 else 0) := by
  induction cs generalizing k with
  | nil => simp at h
  | cons c cs ih =>
    match k with
    | 0 =>
      simp only [zeros, List.set_cons_zero, List.countP_cons, List.getD_cons_zero]
      by_cases h1 : c = 0 <;> by_cases h2 : x = 0 <;> simp [h1, h2] <;> omega
    | k + 1 =>
      have := ih k (by simpa using h)
      simp only [zeros, List.set_cons_succ, List.countP_cons, List.getD_cons_succ] at this ⊢
      omega
theorem zeros_pos (cs : List Int) (h : firstFree cs < cs.length) : 0 < zeros cs := by
  rw [zeros, List.countP_pos_iff]
  exact ⟨cs[firstFree cs], List.getElem_mem h, by rw [← getD_of cs _ h, firstFree_at cs h]; rfl⟩
theorem zeros_none (cs : List Int) (h : ¬ firstFree cs < cs.length) : zeros cs = 0 := by
  have hl := firstFree_le cs
  rw [zeros, List.countP_eq_zero]
  intro a ha
  obtain ⟨i, hi, rfl⟩ := List.getElem_of_mem ha
  have := firstFree_before cs i (by omega)
  rw [getD_of cs i hi] at this
  simpa using this

/-- A pool of which one cell was written stays one, where that cell is right. -/
theorem poolOk_set (cs ps : List Int) (k : Nat) (c p : Int) (h : poolOk cs ps = true) (hk : k < cs.length) (hc : cellOk c p = true) : poolOk (cs.set k c) (ps.set k p) = true := by
  rw [poolOk_iff] at h ⊢
  obtain ⟨h1, h2, h3, h4⟩ := h
  refine ⟨by simpa using h1, by simpa using h2, by simpa using h3, fun j hj => ?_⟩
  rw [getD_set cs k j c hk, getD_set ps k j p (by omega)]
  by_cases e : k = j
  · simpa [e] using hc
  · simpa [e] using h4 j (by simpa using hj)
theorem countAt_of (cs : List Int) (k : Nat) (h : k < cs.length) : countAt cs k = cs.getD k 0 := by
  unfold countAt
  rw [if_pos (by omega), Int.toNat_natCast]
theorem countAt_pos (cs : List Int) (at_ : Int) (h : 1 ≤ countAt cs at_) : ∃ k : Nat, at_ = k ∧ k < cs.length ∧ countAt cs at_ = cs.getD k 0 := by
  unfold countAt at h ⊢
  split at h
  · next q => exact ⟨at_.toNat, by omega, by omega, by rw [if_pos q]⟩
  · omega

/-- What was taken is dropped: as it was. -/
theorem taken_dropped (cs ps : List Int) (v : Int) (h : poolOk cs ps = true) (hf : firstFree cs < cs.length) (hv : 0 ≤ v ∧ v ≤ 999) :
    poolOk (cs.set (firstFree cs) 1) (ps.set (firstFree cs) v) = true ∧ dropped (cs.set (firstFree cs) 1) (ps.set (firstFree cs) v) (firstFree cs : Int) = ((cs, ps), true) := by
  have h4 := (poolOk_iff cs ps).1 h
  have hk : poolOk (cs.set (firstFree cs) 1) (ps.set (firstFree cs) v) = true := poolOk_set cs ps _ 1 v h hf ((cellOk_iff 1 v).2 ⟨by omega, by omega, hv.1, hv.2, by omega⟩)
  refine ⟨hk, ?_⟩
  have hc : countAt (cs.set (firstFree cs) 1) (firstFree cs : Int) = 1 := by
    rw [countAt_of _ _ (by simpa using hf), getD_set cs _ _ 1 hf, if_pos rfl]
  have hz := firstFree_at cs hf
  have hp : ps.getD (firstFree cs) 0 = 0 := ((cellOk_iff _ _).1 (h4.2.2.2 _ hf)).2.2.2.2 hz
  unfold dropped
  rw [if_pos hk, hc, if_pos (by omega), if_pos rfl, Int.toNat_natCast, set_back cs _ 1 _ (by rw [hz]; rfl), set_back ps _ v _ hp]
/-- What was shared is dropped: as it was. -/
theorem shared_dropped (cs ps : List Int) (at_ : Int) (h : poolOk cs ps = true) (hc : 1 ≤ countAt cs at_ ∧ countAt cs at_ < 400) :
    poolOk (cs.set at_.toNat (countAt cs at_ + 1)) ps = true ∧ dropped (cs.set at_.toNat (countAt cs at_ + 1)) ps at_ = ((cs, ps), true) ∧ zeros (cs.set at_.toNat (countAt cs at_ + 1)) = zeros cs := by
  obtain ⟨k, rfl, hk, he⟩ := countAt_pos cs at_ hc.1
  have h4 := ((poolOk_iff cs ps).1 h)
  have hck := (cellOk_iff _ _).1 (h4.2.2.2 k hk)
  rw [he, Int.toNat_natCast]
  rw [he] at hc
  have hk2 : poolOk (cs.set k (cs.getD k 0 + 1)) ps = true := by
    have := poolOk_set cs ps k (cs.getD k 0 + 1) (ps.getD k 0) h hk ((cellOk_iff _ _).2 ⟨by omega, by omega, hck.2.2.1, hck.2.2.2.1, by omega⟩)
    rwa [set_same] at this
  have hcc : countAt (cs.set k (cs.getD k 0 + 1)) (k : Int) = cs.getD k 0 + 1 := by
    rw [countAt_of _ _ (by simpa using hk), getD_set cs _ _ _ hk, if_pos rfl]
  refine ⟨hk2, ?_, ?_⟩
  · unfold dropped
    rw [if_pos hk2, hcc, if_pos (by omega), if_neg (by omega), Int.toNat_natCast, set_back cs _ _ _ (by omega)]
  · have := zeros_set cs k (cs.getD k 0 + 1) hk
    rw [if_neg (by omega), if_neg (by omega)] at this
    omega
/-- What was dropped is a pool; its count is one less, and its page is gone with the last. -/
theorem dropped_ok (cs ps : List Int) (k : Nat) (h : poolOk cs ps = true) (hk : k < cs.length) (hc : 1 ≤ cs.getD k 0) :
    poolOk (cs.set k (cs.getD k 0 - 1)) (if cs.getD k 0 = 1 then ps.set k 0 else ps) = true := by
  have h4 := ((poolOk_iff cs ps).1 h)
  have hck := (cellOk_iff _ _).1 (h4.2.2.2 k hk)
  by_cases e : cs.getD k 0 = 1
  · rw [if_pos e]
    exact poolOk_set cs ps k _ _ h hk ((cellOk_iff _ _).2 ⟨by omega, by omega, by omega, by omega, by omega⟩)
  · rw [if_neg e]
    have := poolOk_set cs ps k (cs.getD k 0 - 1) (ps.getD k 0) h hk ((cellOk_iff _ _).2 ⟨by omega, by omega, hck.2.2.1, hck.2.2.2.1, by omega⟩)
    rwa [set_same] at this

theorem poolOk_len {cs ps : List Int} (h : poolOk cs ps = true) : cs.length ≤ 24 ∧ ps.length ≤ 24 := by
  have := (poolOk_iff cs ps).1 h
  omega
theorem newPool_len (n : Int) : (newPool n).1.1.length ≤ 24 ∧ (newPool n).1.2.length ≤ 24 := by
  unfold newPool
  split
  · next h => simp; omega
  · simp
theorem takenPage_len (cs ps : List Int) (v : Int) : (takenPage cs ps v).1.1.length ≤ 24 ∧ (takenPage cs ps v).1.2.length ≤ 24 := by
  unfold takenPage
  split
  · next h =>
    have := poolOk_len h
    split <;> simp <;> omega
  · simp
theorem shared_len (cs ps : List Int) (v : Int) : (shared cs ps v).1.1.length ≤ 24 ∧ (shared cs ps v).1.2.length ≤ 24 := by
  unfold shared
  split
  · next h =>
    have := poolOk_len h
    split <;> simp <;> omega
  · simp
theorem dropped_len (cs ps : List Int) (v : Int) : (dropped cs ps v).1.1.length ≤ 24 ∧ (dropped cs ps v).1.2.length ≤ 24 := by
  unfold dropped
  split
  · next h =>
    have := poolOk_len h
    split
    · refine ⟨by simp; omega, ?_⟩
      simp only
      split
      · simp; omega
      · omega
    · simp; omega
  · simp

end Go.Proofs.Ytghhphhnalfjaaa
