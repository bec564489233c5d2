/-
  The specification's Frames: the texts, in memory of their own, and where they end.
-/
import Derived.Test.YtpkcnpnhjbcgbagFrame2
import Derived.Test.YtpkcnpnhjbcgbagRows1
namespace Go.Proofs.Ytpkcnpnhjbcgbag
open Go.RowKit
set_option linter.unusedVariables false

end Go.Proofs.Ytpkcnpnhjbcgbag
