/-
  Clients and tags: what the program takes for right.
-/
import Derived.Test.YtnncbikmapjlfaaImOp1
namespace Go.Proofs.Ytnncbikmapjlfaa
open Go.RowKit
set_option linter.unusedVariables false
set_option maxRecDepth 100000

theorem clientOk_any (x : Int) (w : World) : Calls Try.prog 68 #[.int .i64 x] w fun e w' => e = .returned (.bool (inB x 0 3)) ∧ w' = w := by
  go_enter Try.func68, Try.ntmps68
  go_wp2_with fail
  refine (within_any x 0 3 _).mono ?_
  rintro e w' ⟨rfl, rfl⟩
  go_wp2_with fail
  go_ret
  exact ⟨rfl, rfl⟩
theorem tagOk_any (x : Int) (w : World) : Calls Try.prog 69 #[.int .i64 x] w fun e w' => e = .returned (.bool (inB x 1 1000)) ∧ w' = w := by
  go_enter Try.func69, Try.ntmps69
  go_wp2_with fail
  refine (within_any x 1 1000 _).mono ?_
  rintro e w' ⟨rfl, rfl⟩
  go_wp2_with fail
  go_ret
  exact ⟨rfl, rfl⟩

end Go.Proofs.Ytnncbikmapjlfaa
