/-
  The contracts of both ReadNumber: what they tell where the bytes are there, and where they are not.
-/
import Derived.Test.YtmejggnjmclefabBytes2
import Derived.Test.YtmejggnjmclefabBits
namespace Go.Proofs.Ytmejggnjmclefab
open Go.RowKit
set_option linter.unusedVariables false

end Go.Proofs.Ytmejggnjmclefab
