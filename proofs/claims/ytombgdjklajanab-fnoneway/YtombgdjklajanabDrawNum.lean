/-
  The contracts of chapter 1's draws: each answers something in range, writes nothing that was there.
-/
import Derived.Test.YtombgdjklajanabDrawText
import Derived.Deep.RegionWith
namespace Go.Proofs.Ytombgdjklajanab
open Go.RowKit
set_option linter.unusedVariables false

end Go.Proofs.Ytombgdjklajanab
