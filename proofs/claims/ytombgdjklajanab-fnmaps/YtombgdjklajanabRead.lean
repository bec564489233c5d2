/-
  The contracts of both ReadNumber: what they tell where the bytes are there, and where they are not.
-/
import Derived.Test.YtombgdjklajanabBytes2
import Derived.Test.YtombgdjklajanabBits
namespace Go.Proofs.Ytombgdjklajanab
open Go.RowKit
set_option linter.unusedVariables false

end Go.Proofs.Ytombgdjklajanab
