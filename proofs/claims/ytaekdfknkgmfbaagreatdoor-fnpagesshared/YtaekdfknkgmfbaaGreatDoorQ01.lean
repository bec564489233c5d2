import Derived.Test.YtaekdfknkgmfbaaGreatDoorRows
import Derived.Test.YtaekdfknkgmfbaaGreatDoorTie
import Derived.Test.YtaekdfknkgmfbaaGreatDoorCards
import Derived.SevenTiedAt
import Derived.JoinedOf
import Derived.ProofKit
namespace Go.Proofs.YtaekdfknkgmfbaaGreatDoor.fnPagesShared
open Go
set_option linter.unusedVariables false
theorem both {a b : Bool} (h : a = true) (k : b = true) : (a && b) = true:=by rw [h,k];rfl
theorem hfn : Tryz.prog.funcNamed Rows.fnPagesSharedRow.func = some 4:=by kernel_rfl
set_option maxRecDepth 100000 in
set_option maxHeartbeats 12800000 in
theorem closed : joinedFacts Tryz.prog 4 Tryz.f4 Rows.fnPagesSharedSpec Rows.fnPagesSharedRow = true:=by
  unfold joinedFacts;refine both (both (both (both (both (both (both (both (both (both (both (both (both (both (both (both (both (both (both (both (both (both (both (both (both (both (both (both (both (both (both ?_ ?_) ?_) ?_) ?_) ?_) ?_) ?_) ?_) ?_) ?_) ?_) ?_) ?_) ?_) ?_) ?_) ?_) ?_) ?_) ?_) ?_) ?_) ?_) ?_) ?_) ?_) ?_) ?_) ?_) ?_) ?_
  all_goals as_aux_lemma=>kernel_rfl
theorem hinst : Tryz.f4.isInstance Tryz.prog Rows.fnPagesSharedRow.origin Rows.fnPagesSharedRow.targs:=of_decide_eq_true (by kernel_rfl)
theorem hwrap : Tryz.f4.isWrapper Tryz.prog Rows.fnPagesSharedRow.wrapper Rows.fnPagesSharedRow.mainSum:=by unfold Func.isWrapper;first | (rw [if_pos (by decide +kernel)];kernel_rfl) | (rw [if_neg (by decide +kernel)];exact ⟨rfl,rfl⟩)
theorem byText : Rows.fnPagesSharedRow.wfByText (OpenSpec.ofChange Rows.fnPagesSharedSpec) = true:=by kernel_rfl
theorem mainIs : Tryz.prog.mainIs = some (true,"b2287236bee097b051ce9616ae8ae0340ef641078460b544a384993f62e4c8ab".toList):=by kernel_rfl
theorem looks : true = Tryz.prog.looks []:=by kernel_rfl
theorem goes : false = Rows.fnPagesSharedRow.goesBy Tryz.prog:=by kernel_rfl
theorem stand22 : Tryz.prog.wantsStandIn 22 = false:=by kernel_rfl
end Go.Proofs.YtaekdfknkgmfbaaGreatDoor.fnPagesShared
