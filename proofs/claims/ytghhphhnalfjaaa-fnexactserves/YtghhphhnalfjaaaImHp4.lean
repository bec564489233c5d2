/-
  Chapter 14: container/heap's down over the line's box.
-/
import Derived.Test.YtghhphhnalfjaaaImHp3
namespace Go.Proofs.Ytghhphhnalfjaaa
open Go.RowKit
set_option linter.unusedVariables false
set_option maxRecDepth 100000

theorem childP_is (L : List Mb) (k n j1 j2 : Nat) (h1 : j1 = 2 * k + 1) (h2 : j2 = j1 + 1) : childP L k n = if j2 < n ∧ lessP L j2 j1 = true then j2 else j1 := by subst h1; subst h2; rfl

end Go.Proofs.Ytghhphhnalfjaaa
