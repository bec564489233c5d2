/-
  The program: which number is a house, which a view.
-/
import Derived.Test.YtghhphhnalfjaaaOpM
import Derived.Test.YtghhphhnalfjaaaRows2
import Derived.Test.YtghhphhnalfjaaaBytes
namespace Go.Proofs.Ytghhphhnalfjaaa
open Go.RowKit Nums
set_option linter.unusedVariables false
set_option maxRecDepth 100000

theorem within14_any (x lo hi : Int) (w : World) :
    Calls Try.prog 50 #[.int .i64 x, .int .i64 lo, .int .i64 hi] w fun e w' => e = .returned (.bool (inB x lo hi)) ∧ w' = w := by
  by_cases h : lo ≤ x
  · have HV : Hid (inB x lo hi = decide (x ≤ hi)) := by rw [Hid, inB, decide_eq_true h, Bool.true_and]
    go_enter Try.func50, Try.ntmps50
    go_wp2_with fail
    go_ret
    exact ⟨ret_bool HV.out.symm, rfl⟩
  · have HV : Hid (inB x lo hi = false) := by rw [Hid, inB, decide_eq_false h, Bool.false_and]
    go_enter Try.func50, Try.ntmps50
    go_wp2_with fail
    go_ret
    exact ⟨ret_bool HV.out.symm, rfl⟩
theorem houseIdOk_any (x : Int) (w : World) :
    Calls Try.prog 47 #[.int .i64 x] w fun e w' => e = .returned (.bool (inB x 0 3)) ∧ w' = w := by
  go_enter Try.func47, Try.ntmps47
  go_wp2_with fail
  refine (within14_any x 0 3 _).mono ?_
  rintro e w1 ⟨rfl, rfl⟩
  go_wp2_with fail
  go_ret
  exact ⟨rfl, rfl⟩
theorem viewNumberOk_any (x : Int) (w : World) :
    Calls Try.prog 46 #[.int .i64 x] w fun e w' => e = .returned (.bool (inB x 1 1000)) ∧ w' = w := by
  go_enter Try.func46, Try.ntmps46
  go_wp2_with fail
  refine (within14_any x 1 1000 _).mono ?_
  rintro e w1 ⟨rfl, rfl⟩
  go_wp2_with fail
  go_ret
  exact ⟨rfl, rfl⟩


end Go.Proofs.Ytghhphhnalfjaaa
