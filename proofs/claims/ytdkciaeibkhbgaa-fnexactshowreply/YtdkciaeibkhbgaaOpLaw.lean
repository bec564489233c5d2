/-
  The laws' helpers on an op: its size, copied, the same; an op as an argument, opened.
-/
import Derived.Test.YtdkciaeibkhbgaaOpM
import Derived.Test.YtdkciaeibkhbgaaArgs
import Derived.Test.YtdkciaeibkhbgaaSetAt
import Derived.Test.YtdkciaeibkhbgaaMapM
import Derived.Test.YtdkciaeibkhbgaaTexts
import Derived.Deep.RegionHeld3
namespace Go.Proofs.Ytdkciaeibkhbgaa
open Go.ChangeShapes Go.WideShapes Go.ChangeAt Go.RowKit Go.Joins
set_option linter.unusedVariables false
set_option maxRecDepth 100000

theorem lit_i64o {a : Int} (h : (Lit.int .i64 a).wf = true) : I64 a := by simpa [I64, Lit.wf, IntKind.min, IntKind.max, IntKind.signed, IntKind.bits] using h
theorem list6 {α : Type} {cs : List α} (h : cs.length = 6) : ∃ c0 c1 c2 c3 c4 c5, cs = [c0, c1, c2, c3, c4, c5] := by
  match cs, h with
  | [c0, c1, c2, c3, c4, c5], _ => exact ⟨c0, c1, c2, c3, c4, c5, rfl⟩

end Go.Proofs.Ytdkciaeibkhbgaa
