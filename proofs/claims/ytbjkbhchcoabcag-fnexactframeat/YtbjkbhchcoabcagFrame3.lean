/-
  The specification's Frames: the texts, in memory of their own, and where they end.
-/
import Derived.Test.YtbjkbhchcoabcagFrame2
import Derived.Test.YtbjkbhchcoabcagRows1
namespace Go.Proofs.Ytbjkbhchcoabcag
open Go.RowKit
set_option linter.unusedVariables false
set_option maxRecDepth 100000

end Go.Proofs.Ytbjkbhchcoabcag
