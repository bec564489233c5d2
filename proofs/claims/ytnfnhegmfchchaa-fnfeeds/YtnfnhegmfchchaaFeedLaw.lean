/-
  The laws' helpers on Feeds and on lists of texts: alike, measured, copied.
-/
import Derived.Test.YtnfnhegmfchchaaFedAll
import Derived.Test.YtnfnhegmfchchaaTexts
namespace Go.Proofs.Ytnfnhegmfchchaa
open Go.RowKit
set_option linter.unusedVariables false

end Go.Proofs.Ytnfnhegmfchchaa
