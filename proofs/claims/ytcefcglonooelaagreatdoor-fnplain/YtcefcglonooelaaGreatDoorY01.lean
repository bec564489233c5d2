/-
  The closed facts.
-/
import Derived.Test.YtcefcglonooelaaGreatDoorRows
import Derived.Test.YtcefcglonooelaaGreatDoorTie
import Derived.Test.YtcefcglonooelaaGreatDoorCards
import Derived.SevenTiedAt
import Derived.JoinedOf
import Derived.ProofKit
namespace Go.Proofs.YtcefcglonooelaaGreatDoor.fnPlain
open Go

set_option linter.unusedVariables false


theorem both {a b : Bool} (h : a = true) (k : b = true) : (a && b) = true := by rw [h, k]; rfl

theorem hfn : Tryz.prog.funcNamed Rows.fnPlainRow.func = some 3 := by kernel_rfl

set_option maxRecDepth 100000 in
set_option maxHeartbeats 12800000 in
theorem closed : joinedFacts Tryz.prog 3 Tryz.f3 Rows.fnPlainSpec Rows.fnPlainRow = true := by
  unfold joinedFacts
  refine both (both (both (both (both (both (both (both (both (both (both (both (both (both (both (both (both (both (both (both (both (both (both (both (both (both (both (both (both (both (both ?_ ?_) ?_) ?_) ?_) ?_) ?_) ?_) ?_) ?_) ?_) ?_) ?_) ?_) ?_) ?_) ?_) ?_) ?_) ?_) ?_) ?_) ?_) ?_) ?_) ?_) ?_) ?_) ?_) ?_) ?_) ?_
  all_goals as_aux_lemma => kernel_rfl

theorem hinst : Tryz.f3.isInstance Tryz.prog Rows.fnPlainRow.origin Rows.fnPlainRow.targs := of_decide_eq_true (by kernel_rfl)

theorem hwrap : Tryz.f3.isWrapper Tryz.prog Rows.fnPlainRow.wrapper Rows.fnPlainRow.mainSum := by unfold Func.isWrapper; first | (rw [if_pos (by decide +kernel)]; kernel_rfl) | (rw [if_neg (by decide +kernel)]; exact ⟨rfl, rfl⟩)

theorem byText : Rows.fnPlainRow.wfByText (OpenSpec.ofChange Rows.fnPlainSpec) = true := by kernel_rfl

theorem mainIs : Tryz.prog.mainIs = some (true, "c1202ad587a82d4a6b2824aa68a774fbcede363e1cfa9649eab5822d3dd22308".toList) := by kernel_rfl

theorem looks : true = Tryz.prog.looks [] := by kernel_rfl

theorem goes : false = Rows.fnPlainRow.goesBy Tryz.prog := by kernel_rfl

theorem stand22 : Tryz.prog.wantsStandIn 22 = false := by kernel_rfl
end Go.Proofs.YtcefcglonooelaaGreatDoor.fnPlain

