/-
  The specification's FrameAt at every argument, and its Framed.
-/
import Derived.Test.YtbjkbhchcoabcakFrame
namespace Go.Proofs.Ytbjkbhchcoabcak
open Go.RowKit
set_option linter.unusedVariables false
set_option maxRecDepth 100000

end Go.Proofs.Ytbjkbhchcoabcak
