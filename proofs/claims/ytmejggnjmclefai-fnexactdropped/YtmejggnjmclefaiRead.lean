/-
  The contracts of both ReadNumber: what they tell where the bytes are there, and where they are not.
-/
import Derived.Test.YtmejggnjmclefaiBytes2
import Derived.Test.YtmejggnjmclefaiBits
namespace Go.Proofs.Ytmejggnjmclefai
open Go.RowKit
set_option linter.unusedVariables false

end Go.Proofs.Ytmejggnjmclefai
