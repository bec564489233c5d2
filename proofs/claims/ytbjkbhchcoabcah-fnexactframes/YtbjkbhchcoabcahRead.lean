/-
  The contracts of both ReadNumber: what they tell where the bytes are there, and where they are not.
-/
import Derived.Test.YtbjkbhchcoabcahBytes2
import Derived.Test.YtbjkbhchcoabcahBits
namespace Go.Proofs.Ytbjkbhchcoabcah
open Go.RowKit
set_option linter.unusedVariables false
set_option maxRecDepth 100000

theorem implRead_no (s : ByteArray) (a k : Int) (w : World) (hs : s.size ≤ maxLen) (wk : (Lit.int .i64 k).wf = true) (h : ¬ (1 ≤ k ∧ k ≤ 4 ∧ 0 ≤ a ∧ a ≤ s.size - k)) :
    Calls Try.prog 57 #[.string s, .int .i64 a, .int .i64 k] w fun e w' => e = .returned (.tuple #[.int .i64 0, .bool false]) ∧ w' = w := by
  unfold maxLen at hs
  by_cases h1 : (decide (1 ≤ k) && decide (k ≤ 4)) = true
  · have h1' : 1 ≤ k ∧ k ≤ 4 := by simpa using h1
    by_cases h2 : 0 ≤ a
    · have h3 : (s.size : Int) - k < a := by omega
      go_enter Try.func57, Try.ntmps57
      go_wp2_with (go_at_call 62; refine (widthOk_any _ _).mono ?_; rintro e w' ⟨rfl, rfl⟩)
      go_ret2
      exact ⟨rfl, rfl⟩
    · go_enter Try.func57, Try.ntmps57
      go_wp2_with (go_at_call 62; refine (widthOk_any _ _).mono ?_; rintro e w' ⟨rfl, rfl⟩)
      go_ret2
      exact ⟨rfl, rfl⟩
  · have h1' : (decide (1 ≤ k) && decide (k ≤ 4)) = false := by simpa using h1
    clear h1
    go_enter Try.func57, Try.ntmps57
    go_wp2_with (go_at_call 62; refine (widthOk_any _ _).mono ?_; rintro e w' ⟨rfl, rfl⟩)
    go_ret2
    exact ⟨rfl, rfl⟩

theorem implRead_yes (s : ByteArray) (a k : Nat) (w : World) (hs : s.size ≤ maxLen) (h1 : 1 ≤ k) (h2 : k ≤ 4) (h3 : a + k ≤ s.size) :
    Calls Try.prog 57 #[.string s, .int .i64 a, .int .i64 k] w fun e w' => e = .returned (.tuple #[.int .i64 (Nums.readI ((s.data.toList.drop a).take k)), .bool true]) ∧ w' = w := by
  unfold maxLen at hs
  have g1 : (decide (1 ≤ (k : Int)) && decide ((k : Int) ≤ 4)) = true := by simp; omega
  go_enter Try.func57, Try.ntmps57
  go_wp2_with (first | (go_at_call 62; refine (widthOk_any _ _).mono ?_; rintro e w' ⟨rfl, rfl⟩) | (go_at_call 63; refine (throughRead _ _ (by simp; omega)).mono ?_; rintro e w' ⟨rfl, rfl⟩))
  go_ret2
  exact ⟨rfl, rfl⟩

end Go.Proofs.Ytbjkbhchcoabcah
