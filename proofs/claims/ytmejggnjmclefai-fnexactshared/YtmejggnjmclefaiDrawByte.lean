/-
  The contract of the draws' l1Byte: a byte, the cursor moved, nothing else written.
-/
import Derived.Test.YtmejggnjmclefaiBits
import Derived.Test.YtmejggnjmclefaiWorlds
import Derived.Test.YtmejggnjmclefaiChecked
import Derived.WalkKit
import Derived.WalkSpells
import Derived.Handy
import Derived.Below
import Derived.Deep.QuietTactic
import Derived.BigQuiet
namespace Go.Proofs.Ytmejggnjmclefai
open Go.RowKit
set_option linter.unusedVariables false

end Go.Proofs.Ytmejggnjmclefai
