/-
  The laws' helpers on lists of texts that come in: measured, and copied into a row of the law's own.
-/
import Derived.Test.YtghhphhnalfjaaaTexts
import Derived.Laws.MakeOwn
namespace Go.Proofs.Ytghhphhnalfjaaa
open Go.RowKit
set_option linter.unusedVariables false
set_option maxRecDepth 100000

theorem copied_set (ps : List ByteArray) (xs : List Value) (j : Nat) (hj : j < ps.length) (hx : xs.length = ps.length) :
    ((ps.take j).map Value.string ++ xs.drop j).set j (.string ps[j]) = (ps.take (j + 1)).map Value.string ++ xs.drop (j + 1) := by
  have hl : ((ps.take j).map Value.string).length = j := by simp; omega
  rw [List.set_append_right _ _ (by omega), hl, Nat.sub_self, List.drop_eq_getElem_cons (show j < xs.length by omega), List.set_cons_zero, List.take_succ_eq_append_getElem hj, List.map_append, List.append_assoc]
  rfl

end Go.Proofs.Ytghhphhnalfjaaa
