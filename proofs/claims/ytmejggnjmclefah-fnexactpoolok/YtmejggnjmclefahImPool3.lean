/-
  Chapter 4: the program's copies of pools, TakenPage, Shared, Dropped, at every argument.
-/
import Derived.Test.YtmejggnjmclefahImPool2
namespace Go.Proofs.Ytmejggnjmclefah
open Go.RowKit
set_option linter.unusedVariables false

end Go.Proofs.Ytmejggnjmclefah
