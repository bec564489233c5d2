/-
  The contracts of both ReadNumber: what they tell where the bytes are there, and where they are not.
-/
import Derived.Test.YtombgdjklajanaiBytes2
import Derived.Test.YtombgdjklajanaiBits
namespace Go.Proofs.Ytombgdjklajanai
open Go.RowKit
set_option linter.unusedVariables false

end Go.Proofs.Ytombgdjklajanai
