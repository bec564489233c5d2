/-
  The laws' helpers on Feeds and on lists of texts: alike, measured, copied.
-/
import Derived.Test.YtbjkbhchcoabcaaFedAll
import Derived.Test.YtbjkbhchcoabcaaTexts
namespace Go.Proofs.Ytbjkbhchcoabcaa
open Go.RowKit
set_option linter.unusedVariables false
set_option maxRecDepth 100000

end Go.Proofs.Ytbjkbhchcoabcaa
