/-
  The laws' helpers on Feeds and on lists of texts: alike, measured, copied.
-/
import Derived.Test.YtbjkbhchcoabcahFedAll
import Derived.Test.YtbjkbhchcoabcahTexts
namespace Go.Proofs.Ytbjkbhchcoabcah
open Go.RowKit
set_option linter.unusedVariables false
set_option maxRecDepth 100000

theorem eqFeed_any (r : ByteArray) (k : Int) (r' : ByteArray) (k' : Int) (w : World) :
    Calls Try.prog 20 #[.agg #[.string r, .int .i64 k], .agg #[.string r', .int .i64 k']] w fun e w' => e = .returned (.bool (decide (r = r') && decide (k = k'))) ∧ Below w.heap.size w w' := by
  by_cases e1 : r = r'
  · subst e1
    by_cases e2 : k = k'
    · subst e2
      go_enter Try.func20, Try.ntmps20
      go_wp2
      go_ret
      exact ⟨ret_bool (by simp), bw_alloc (bw_alloc (Below.refl _ _))⟩
    · have hne : (k == k') = false := by simpa using e2
      have hne2 : (k != k') = true := by simpa using e2
      go_enter Try.func20, Try.ntmps20
      go_wp2
      go_ret
      exact ⟨ret_bool (by simp [e2]), bw_alloc (bw_alloc (Below.refl _ _))⟩
  · have hne : (r.toList == r'.toList) = false := by rw [text_eq]; simp [e1]
    go_enter Try.func20, Try.ntmps20
    go_wp2
    go_ret
    exact ⟨ret_bool (by simp [e1]), bw_alloc (bw_alloc (Below.refl _ _))⟩

end Go.Proofs.Ytbjkbhchcoabcah
