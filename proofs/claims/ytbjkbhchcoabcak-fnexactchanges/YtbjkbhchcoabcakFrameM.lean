/-
  What chapter 2's functions come to, as plain functions on bytes, and their laws; nothing of the program is imported.
-/
import Derived.Test.YtbjkbhchcoabcakNumsB
namespace Go.Proofs.Ytbjkbhchcoabcak.Fr
open Go.Proofs.Ytbjkbhchcoabcak.Nums

def bodyB (s : ByteArray) : ByteArray := showS (s.size : Int) 1 ++ s
def framed2 (s : ByteArray) : ByteArray := (⟨#[165]⟩ ++ bodyB s) ++ showS (sumI (bodyB s).data.toList) 2
def framedS (s : ByteArray) : ByteArray := if 60 < s.size then ByteArray.empty else framed2 s

def byteI (s : ByteArray) (i : Nat) : Int := ((s.data.toList.getD i 0).toNat : Int)
theorem byteI_eq (s : ByteArray) (k : Nat) (h : k < s.size) : (s[k].toNat : Int) = byteI s k := by
  unfold byteI
  rw [List.getD_eq_getElem?_getD, List.getElem?_eq_getElem (by simpa using h)]
  rfl
theorem byteI_bd (s : ByteArray) (k : Nat) : 0 ≤ byteI s k ∧ byteI s k ≤ 255 := byte_lt _
/-- The bytes from a on, so many. -/
def cut (s : ByteArray) (a k : Nat) : List UInt8 := (s.data.toList.drop a).take k
theorem extract_cut (s : ByteArray) (a k : Nat) : (s.extract a (a + k)).data.toList = cut s a k := by simp [cut]

/-- The sum over the length byte and the text of a frame that begins at p. -/
def frSum (s : ByteArray) (p : Nat) : Int := sumI (cut s (p + 1) ((byteI s (p + 1)).toNat + 1))
def frLast (s : ByteArray) (p : Nat) : Nat := p + 2 + (byteI s (p + 1)).toNat
def frIn (s : ByteArray) (p : Nat) : Int :=
  if byteI s p ≠ 165 then -1 else if p + 1 = s.size then -2 else if 60 < byteI s (p + 1) then -1
  else if s.size ≤ frLast s p then -2 else if byteI s (frLast s p) ≠ frSum s p / 256 then -1
  else if s.size ≤ frLast s p + 1 then -2 else if byteI s (frLast s p + 1) ≠ frSum s p % 256 then -1 else ((frLast s p + 2 : Nat) : Int)
def frEnd (s : ByteArray) (a : Int) : Int := if a < 0 ∨ (s.size : Int) < a then -1 else if a = s.size then -2 else frIn s a.toNat
def frText (s : ByteArray) (a : Int) : ByteArray := if frEnd s a < 0 then ByteArray.empty else s.extract (a.toNat + 2) (frLast s a.toNat)

theorem frEnd_out (s : ByteArray) (a : Int) (h : a < 0 ∨ (s.size : Int) < a) : frEnd s a = -1 := by unfold frEnd; rw [if_pos h]
theorem frEnd_at (s : ByteArray) : frEnd s s.size = -2 := by unfold frEnd; rw [if_neg (by omega), if_pos rfl]
theorem frEnd_in (s : ByteArray) (p : Nat) (h : p < s.size) : frEnd s p = frIn s p := by unfold frEnd; rw [if_neg (by omega), if_neg (by omega)]; rfl
theorem frText_no (s : ByteArray) (a : Int) (h : frEnd s a < 0) : frText s a = ByteArray.empty := by unfold frText; rw [if_pos h]
theorem frText_yes (s : ByteArray) (p : Nat) (h : ¬ frEnd s p < 0) : frText s p = s.extract (p + 2) (frLast s p) := by unfold frText; rw [if_neg h]; rfl
theorem frIn_1 (s : ByteArray) (p : Nat) (h : ¬ byteI s p = 165) : frIn s p = -1 := by unfold frIn; rw [if_pos h]
theorem frIn_2 (s : ByteArray) (p : Nat) (h : byteI s p = 165) (h2 : p + 1 = s.size) : frIn s p = -2 := by unfold frIn; rw [if_neg (by simpa using h), if_pos h2]
theorem frIn_3 (s : ByteArray) (p : Nat) (h : byteI s p = 165) (h2 : ¬ p + 1 = s.size) (h3 : 60 < byteI s (p + 1)) : frIn s p = -1 := by unfold frIn; rw [if_neg (by simpa using h), if_neg h2, if_pos h3]
theorem frIn_4 (s : ByteArray) (p : Nat) (h : byteI s p = 165) (h2 : ¬ p + 1 = s.size) (h3 : ¬ 60 < byteI s (p + 1)) (h4 : s.size ≤ frLast s p) : frIn s p = -2 := by
  unfold frIn; rw [if_neg (by simpa using h), if_neg h2, if_neg h3, if_pos h4]
theorem frIn_5 (s : ByteArray) (p : Nat) (h : byteI s p = 165) (h2 : ¬ p + 1 = s.size) (h3 : ¬ 60 < byteI s (p + 1)) (h4 : ¬ s.size ≤ frLast s p) (h5 : ¬ byteI s (frLast s p) = frSum s p / 256) : frIn s p = -1 := by
  unfold frIn; rw [if_neg (by simpa using h), if_neg h2, if_neg h3, if_neg h4, if_pos h5]
theorem frIn_6 (s : ByteArray) (p : Nat) (h : byteI s p = 165) (h2 : ¬ p + 1 = s.size) (h3 : ¬ 60 < byteI s (p + 1)) (h4 : ¬ s.size ≤ frLast s p) (h5 : byteI s (frLast s p) = frSum s p / 256) (h6 : s.size ≤ frLast s p + 1) : frIn s p = -2 := by
  unfold frIn; rw [if_neg (by simpa using h), if_neg h2, if_neg h3, if_neg h4, if_neg (by simpa using h5), if_pos h6]
theorem frIn_7 (s : ByteArray) (p : Nat) (h : byteI s p = 165) (h2 : ¬ p + 1 = s.size) (h3 : ¬ 60 < byteI s (p + 1)) (h4 : ¬ s.size ≤ frLast s p) (h5 : byteI s (frLast s p) = frSum s p / 256) (h6 : ¬ s.size ≤ frLast s p + 1) (h7 : ¬ byteI s (frLast s p + 1) = frSum s p % 256) : frIn s p = -1 := by
  unfold frIn; rw [if_neg (by simpa using h), if_neg h2, if_neg h3, if_neg h4, if_neg (by simpa using h5), if_neg h6, if_pos h7]
theorem frIn_8 (s : ByteArray) (p : Nat) (h : byteI s p = 165) (h2 : ¬ p + 1 = s.size) (h3 : ¬ 60 < byteI s (p + 1)) (h4 : ¬ s.size ≤ frLast s p) (h5 : byteI s (frLast s p) = frSum s p / 256) (h6 : ¬ s.size ≤ frLast s p + 1) (h7 : byteI s (frLast s p + 1) = frSum s p % 256) : frIn s p = ((frLast s p + 2 : Nat) : Int) := by
  unfold frIn; rw [if_neg (by simpa using h), if_neg h2, if_neg h3, if_neg h4, if_neg (by simpa using h5), if_neg h6, if_neg (by simpa using h7)]
theorem frEnd_bd (s : ByteArray) (a : Int) : -2 ≤ frEnd s a ∧ frEnd s a ≤ (s.size : Int) ∧ (0 ≤ frEnd s a → 0 ≤ a ∧ a + 4 ≤ frEnd s a) := by
  unfold frEnd
  by_cases h : a < 0 ∨ (s.size : Int) < a
  · rw [if_pos h]; omega
  · rw [if_neg h]
    by_cases h2 : a = s.size
    · rw [if_pos h2]; omega
    · rw [if_neg h2]
      unfold frIn
      repeat' split
      all_goals first | omega | (have := byteI_bd s (a.toNat + 1); simp only [frLast] at *; omega)

/-- From a on the texts, one right behind the other, and where they end. -/
def frList (s : ByteArray) : Nat → Nat → List ByteArray × Nat
  | 0, a => ([], a)
  | f + 1, a => if frEnd s a < 0 then ([], a) else (frText s a :: (frList s f (frEnd s a).toNat).1, (frList s f (frEnd s a).toNat).2)
def frAll (s : ByteArray) : List ByteArray × Nat := frList s (s.size + 1) 0
theorem frList_end (s : ByteArray) (f a : Nat) (h : frEnd s a < 0) : frList s (f + 1) a = ([], a) := by simp only [frList]; rw [if_pos h]
theorem frList_step (s : ByteArray) (f a : Nat) (h : ¬ frEnd s a < 0) : frList s (f + 1) a = (frText s a :: (frList s f (frEnd s a).toNat).1, (frList s f (frEnd s a).toNat).2) := by simp only [frList]; rw [if_neg h]
/-- Where the walk over the frames stands: these texts, then what begins at p. -/
def Upon (s : ByteArray) (xs : List ByteArray) (p : Nat) : Prop := ∃ f, p ≤ s.size ∧ s.size < f + p ∧ xs.length ≤ p ∧ frAll s = (xs ++ (frList s f p).1, (frList s f p).2)
theorem upon_start (s : ByteArray) : Upon s [] 0 := ⟨s.size + 1, Nat.zero_le _, by omega, by simp, by simp [frAll]⟩
theorem upon_step (s : ByteArray) (xs : List ByteArray) (p : Nat) (h : Upon s xs p) (he : ¬ frEnd s p < 0) : Upon s (xs ++ [frText s p]) (frEnd s p).toNat := by
  obtain ⟨f, h1, h2, h3, h4⟩ := h
  have hb := frEnd_bd s p
  obtain ⟨g, rfl⟩ : ∃ g, f = g + 1 := ⟨f - 1, by omega⟩
  refine ⟨g, by omega, by omega, by simp; omega, ?_⟩
  rw [h4, frList_step s g p he]
  simp
theorem upon_end (s : ByteArray) (xs : List ByteArray) (p : Nat) (h : Upon s xs p) (he : frEnd s p < 0) : frAll s = (xs, p) := by
  obtain ⟨f, h1, h2, h3, h4⟩ := h
  obtain ⟨g, rfl⟩ : ∃ g, f = g + 1 := ⟨f - 1, by omega⟩
  rw [h4, frList_end s g p he]
  simp
theorem upon_le (s : ByteArray) (xs : List ByteArray) (p : Nat) (h : Upon s xs p) : p ≤ s.size ∧ xs.length ≤ p := by
  obtain ⟨f, h1, h2, h3, h4⟩ := h
  exact ⟨h1, h3⟩

theorem frList_le (s : ByteArray) : ∀ (f p : Nat), p ≤ s.size → (frList s f p).1.length + p ≤ s.size ∧ (frList s f p).2 ≤ s.size := by
  intro f
  induction f with
  | zero => intro p hp; simp [frList]; omega
  | succ f ih =>
    intro p hp
    by_cases h : frEnd s p < 0
    · rw [frList_end s f p h]; simp; omega
    · have hb := frEnd_bd s p
      have := ih (frEnd s p).toNat (by omega)
      rw [frList_step s f p h]
      simp only [List.length_cons]
      omega
theorem frAll_le (s : ByteArray) : (frAll s).1.length ≤ s.size ∧ (frAll s).2 ≤ s.size := by
  have := frList_le s (s.size + 1) 0 (Nat.zero_le _)
  unfold frAll
  omega

end Go.Proofs.Ytbjkbhchcoabcak.Fr
