/-
  The contracts of chapter 1's draws: each answers something in range, writes nothing that was there.
-/
import Derived.Test.YtehjahegokeofabDrawText
import Derived.Deep.RegionWith
namespace Go.Proofs.Ytehjahegokeofab
open Go.RowKit
set_option linter.unusedVariables false

end Go.Proofs.Ytehjahegokeofab
