/-
  Contracts and plain laws, one chapter behind the other.
-/
import Derived.Test.YtibhepekmihagaaGreatDoorRows
import Derived.Test.YtibhepekmihagaaGreatDoorTie
import Derived.Test.YtibhepekmihagaaGreatDoorCards
import Derived.SevenTiedAt
import Derived.JoinedOf
import Derived.ProofKit
namespace Go.Proofs.YtibhepekmihagaaGreatDoor.fnExactNewHouse
open Go

set_option linter.unusedVariables false


theorem both {a b : Bool} (h : a = true) (k : b = true) : (a && b) = true := by rw [h, k]; rfl

theorem hfn : Tryz.prog.funcNamed Rows.fnExactNewHouseRow.func = some 3 := by kernel_rfl

set_option maxRecDepth 100000 in
set_option maxHeartbeats 12800000 in
theorem closed : joinedFacts Tryz.prog 3 Tryz.f3 Rows.fnExactNewHouseSpec Rows.fnExactNewHouseRow = true := by
  unfold joinedFacts
  refine both (both (both (both (both (both (both (both (both (both (both (both (both (both (both (both (both (both (both (both (both (both (both (both (both (both (both (both (both (both (both ?_ ?_) ?_) ?_) ?_) ?_) ?_) ?_) ?_) ?_) ?_) ?_) ?_) ?_) ?_) ?_) ?_) ?_) ?_) ?_) ?_) ?_) ?_) ?_) ?_) ?_) ?_) ?_) ?_) ?_) ?_) ?_
  all_goals as_aux_lemma => kernel_rfl

theorem hinst : Tryz.f3.isInstance Tryz.prog Rows.fnExactNewHouseRow.origin Rows.fnExactNewHouseRow.targs := of_decide_eq_true (by kernel_rfl)

theorem hwrap : Tryz.f3.isWrapper Tryz.prog Rows.fnExactNewHouseRow.wrapper Rows.fnExactNewHouseRow.mainSum := by unfold Func.isWrapper; first | (rw [if_pos (by decide +kernel)]; kernel_rfl) | (rw [if_neg (by decide +kernel)]; exact ⟨rfl, rfl⟩)

theorem byText : Rows.fnExactNewHouseRow.wfByText (OpenSpec.ofChange Rows.fnExactNewHouseSpec) = true := by kernel_rfl

theorem mainIs : Tryz.prog.mainIs = some (true, "0982d5ae380c2dea0abb4d2040c985eedbc7985d22bb2a5e3b3720686eb6e62d".toList) := by kernel_rfl

theorem looks : true = Tryz.prog.looks [] := by kernel_rfl

theorem goes : false = Rows.fnExactNewHouseRow.goesBy Tryz.prog := by kernel_rfl

theorem stand2 : Tryz.prog.wantsStandIn 2 = false := by kernel_rfl
end Go.Proofs.YtibhepekmihagaaGreatDoor.fnExactNewHouse

