/-
  The contract of the draws' l1Byte: a byte, the cursor moved, nothing else written.
-/
import Derived.Test.YtbjkbhchcoabcakBits
import Derived.Test.YtbjkbhchcoabcakWorlds
import Derived.Test.YtbjkbhchcoabcakChecked
import Derived.WalkKit
import Derived.WalkSpells
import Derived.Handy
import Derived.Below
import Derived.Deep.QuietTactic
import Derived.BigQuiet
namespace Go.Proofs.Ytbjkbhchcoabcak
open Go.RowKit
set_option linter.unusedVariables false
set_option maxRecDepth 100000

end Go.Proofs.Ytbjkbhchcoabcak
