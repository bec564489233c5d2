/-
  The contract of the draws' l1Byte: a byte, the cursor moved, nothing else written.
-/
import Derived.Test.YtehjahegokeofajBits
import Derived.Test.YtehjahegokeofajWorlds
import Derived.Test.YtehjahegokeofajChecked
import Derived.WalkKit
import Derived.WalkSpells
import Derived.Handy
import Derived.Below
import Derived.Deep.QuietTactic
import Derived.BigQuiet
namespace Go.Proofs.Ytehjahegokeofaj
open Go.RowKit
set_option linter.unusedVariables false

end Go.Proofs.Ytehjahegokeofaj
