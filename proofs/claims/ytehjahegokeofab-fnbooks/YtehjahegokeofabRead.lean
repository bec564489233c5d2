/-
  The contracts of both ReadNumber: what they tell where the bytes are there, and where they are not.
-/
import Derived.Test.YtehjahegokeofabBytes2
import Derived.Test.YtehjahegokeofabBits
namespace Go.Proofs.Ytehjahegokeofab
open Go.RowKit
set_option linter.unusedVariables false

end Go.Proofs.Ytehjahegokeofab
