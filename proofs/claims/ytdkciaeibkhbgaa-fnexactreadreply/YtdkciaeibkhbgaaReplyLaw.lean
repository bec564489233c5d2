/-
  The laws' helper on replies: the same.
-/
import Derived.Test.YtdkciaeibkhbgaaRows2
import Derived.Deep.DeepCutAuto
namespace Go.Proofs.Ytdkciaeibkhbgaa
open Go.RowKit
set_option linter.unusedVariables false
set_option maxRecDepth 100000

set_option maxHeartbeats 800000 in
theorem eqReply_same (c v : Int) (w : World) :
    Calls Try.prog 24 #[.agg #[.int .i64 c, .int .i64 v], .agg #[.int .i64 c, .int .i64 v]] w fun e w' => e = .returned (.bool true) ∧ Below w.heap.size w w' := by
  obtain ⟨W0, hW0, kA, kB, d0, z0⟩ := box2 w #[.int .i64 c, .int .i64 v] #[.int .i64 c, .int .i64 v] 42 42
  have HW0 : Hid (W0 = _) := hW0
  have a0 := at_cell kA 0
  have a1 := at_cell kA 1
  have b0 := at_cell kB 0
  have b1 := at_cell kB 1
  have hs1 : (c != c) = false := by simp
  have hs2 : (v != v) = false := by simp
  clear hW0 z0
  go_enter Try.func24, Try.ntmps24
  go_upto_region 1 with fail
  rw [← HW0.out]
  clear HW0
  go_wp2_with fail
  go_ret
  exact ⟨rfl, d0⟩

end Go.Proofs.Ytdkciaeibkhbgaa
