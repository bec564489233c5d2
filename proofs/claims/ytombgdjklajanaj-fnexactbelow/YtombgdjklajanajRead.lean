/-
  The contracts of both ReadNumber: what they tell where the bytes are there, and where they are not.
-/
import Derived.Test.YtombgdjklajanajBytes2
import Derived.Test.YtombgdjklajanajBits
namespace Go.Proofs.Ytombgdjklajanaj
open Go.RowKit
set_option linter.unusedVariables false

end Go.Proofs.Ytombgdjklajanaj
