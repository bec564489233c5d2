/-
  Chapter 4: the program's copies of pools, TakenPage, Shared, Dropped, at every argument.
-/
import Derived.Test.YtmejggnjmclefaaImPool2
namespace Go.Proofs.Ytmejggnjmclefaa
open Go.RowKit
set_option linter.unusedVariables false

end Go.Proofs.Ytmejggnjmclefaa
