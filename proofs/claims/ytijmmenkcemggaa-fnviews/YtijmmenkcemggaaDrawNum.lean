/-
  The contracts of chapter 1's draws: each answers something in range, writes nothing that was there.
-/
import Derived.Test.YtijmmenkcemggaaDrawText
import Derived.Deep.RegionWith
namespace Go.Proofs.Ytijmmenkcemggaa
open Go.RowKit
set_option linter.unusedVariables false
set_option maxRecDepth 100000

end Go.Proofs.Ytijmmenkcemggaa
