/-
  Chapter 5: the program's map of pages, PageOf, Mapped, Below, PagesOf, at every argument.
-/
import Derived.Test.YtombgdjklajanaiImMap4
import Derived.Test.YtombgdjklajanaiMap4
namespace Go.Proofs.Ytombgdjklajanai
open Go.RowKit
set_option linter.unusedVariables false

/-- Each place that has a page, as a run of its own. -/
def singles (l : List Int) : Nat → List (Int × Int × Int)
  | 0 => []
  | n + 1 => if l.getD n 0 = -1 then singles l n else singles l n ++ [((n : Int), 1, l.getD n 0)]
theorem singles_len (l : List Int) (n : Nat) : (singles l n).length ≤ n := by
  induction n with
  | zero => simp [singles]
  | succ n ih =>
    rw [singles]
    split
    · omega
    · rw [List.length_append, List.length_singleton]; omega
theorem singles_single (l : List Int) (n : Nat) (hn : n ≤ 16) (hv : ∀ j, j < n → -1 ≤ l.getD j 0 ∧ l.getD j 0 ≤ 23) : ∀ r ∈ singles l n, Single r := by
  induction n with
  | zero => intro r hr; simp [singles] at hr
  | succ n ih =>
    have ih' := ih (by omega) (fun j hj => hv j (by omega))
    rw [singles]
    split
    · exact ih'
    · intro r hr
      rcases List.mem_append.1 hr with hr | hr
      · exact ih' r hr
      · rw [List.mem_singleton] at hr
        subst hr
        have := hv n (by omega)
        refine ⟨rfl, ?_, ?_, ?_, ?_⟩ <;> simp only <;> omega
theorem join_singles (l : List Int) (n : Nat) (hv : ∀ j, j < n → -1 ≤ l.getD j 0 ∧ l.getD j 0 ≤ 23) : joinRuns (singles l n) = upto l n := by
  induction n with
  | zero => rfl
  | succ n ih =>
    have ih' := ih (fun j hj => hv j (by omega))
    have hn := hv n (by omega)
    rw [singles, upto, ← ih']
    unfold grow
    by_cases h : l.getD n 0 = -1
    · rw [if_pos h, if_pos (by omega)]
    · rw [if_neg h, if_neg (by omega), joinRuns, List.foldl_append]
      rfl
theorem upto_congr (a b : List Int) (n : Nat) (h : ∀ j, j < n → a.getD j 0 = b.getD j 0) : upto a n = upto b n := by
  induction n with
  | zero => rfl
  | succ n ih => rw [upto, upto, ih (fun j hj => h j (by omega)), h n (by omega)]
theorem getD_take (l : List Int) (s j : Nat) (hj : j < s) : (l.take s).getD j 0 = l.getD j 0 := by
  rw [List.getD_eq_getElem?_getD, List.getElem?_take_of_lt hj, List.getD_eq_getElem?_getD]
/-- Of the first s places there is the same map as where all others have none. -/
theorem mapOf_take (l : List Int) (size : Int) (s : Nat) (hl : l.length = 16) (hs : (s : Int) = min (max size 0) 16) : mapOf (l.take s) = mapOf (cutAt l size) := by
  have hs16 : s ≤ 16 := by omega
  rw [mapOf, mapOf, cutAt_length, List.length_take, hl, Nat.min_eq_left hs16]
  have h1 := upto_skip (cutAt l size) s (16 - s) (fun j h1 h2 => by rw [cutAt_get l size j (by omega), if_neg (by omega)]; omega)
  rw [show s + (16 - s) = 16 by omega] at h1
  rw [h1]
  refine upto_congr _ _ s (fun j hj => ?_)
  rw [getD_take l s j hj, cutAt_get l size j (by omega), if_pos (by omega)]

end Go.Proofs.Ytombgdjklajanai
