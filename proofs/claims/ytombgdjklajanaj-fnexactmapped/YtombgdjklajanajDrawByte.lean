/-
  The contract of the draws' l1Byte: a byte, the cursor moved, nothing else written.
-/
import Derived.Test.YtombgdjklajanajBits
import Derived.Test.YtombgdjklajanajWorlds
import Derived.Test.YtombgdjklajanajChecked
import Derived.WalkKit
import Derived.WalkSpells
import Derived.Handy
import Derived.Below
import Derived.Deep.QuietTactic
import Derived.BigQuiet
namespace Go.Proofs.Ytombgdjklajanaj
open Go.RowKit
set_option linter.unusedVariables false

end Go.Proofs.Ytombgdjklajanaj
