/-
  The contract of the draws' l1Byte: a byte, the cursor moved, nothing else written.
-/
import Derived.Test.YtehjahegokeofakBits
import Derived.Test.YtehjahegokeofakWorlds
import Derived.Test.YtehjahegokeofakChecked
import Derived.WalkKit
import Derived.WalkSpells
import Derived.Handy
import Derived.Below
import Derived.Deep.QuietTactic
import Derived.BigQuiet
namespace Go.Proofs.Ytehjahegokeofak
open Go.RowKit
set_option linter.unusedVariables false

end Go.Proofs.Ytehjahegokeofak
