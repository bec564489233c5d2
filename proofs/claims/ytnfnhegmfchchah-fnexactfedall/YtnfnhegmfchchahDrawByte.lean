/-
  The contract of the draws' l1Byte: a byte, the cursor moved, nothing else written.
-/
import Derived.Test.YtnfnhegmfchchahBits
import Derived.Test.YtnfnhegmfchchahWorlds
import Derived.Test.YtnfnhegmfchchahChecked
import Derived.WalkKit
import Derived.WalkSpells
import Derived.Handy
import Derived.Below
import Derived.Deep.QuietTactic
import Derived.BigQuiet
namespace Go.Proofs.Ytnfnhegmfchchah
open Go.RowKit
set_option linter.unusedVariables false

end Go.Proofs.Ytnfnhegmfchchah
