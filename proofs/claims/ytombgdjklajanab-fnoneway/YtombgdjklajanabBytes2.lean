/-
  The contracts of the program's ways through the bytes (throughBytes with its two steps), of Sum, and of both ReadNumber.
-/
import Derived.Test.YtombgdjklajanabBytes
namespace Go.Proofs.Ytombgdjklajanab
open Go.RowKit
set_option linter.unusedVariables false

end Go.Proofs.Ytombgdjklajanab
