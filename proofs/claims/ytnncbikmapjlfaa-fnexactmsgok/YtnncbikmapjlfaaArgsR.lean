/-
  An argument that is a row of runs, opened.
-/
import Derived.Test.YtnncbikmapjlfaaChecked
import Derived.Test.YtnncbikmapjlfaaRuns
import Derived.Test.YtnncbikmapjlfaaMapM
import Derived.Test.YtnncbikmapjlfaaArgs
import Derived.Deep.Slices
import Derived.Deep.Strs
namespace Go.Proofs.Ytnncbikmapjlfaa
open Go.ChangeShapes Go.WideShapes Go.ChangeAt Go.RowKit Go.Deep
set_option linter.unusedVariables false
set_option maxRecDepth 100000

theorem lit_i64 {a : Int} (h : (Lit.int .i64 a).wf = true) : -9223372036854775808 ≤ a ∧ a ≤ 9223372036854775807 := by simpa [Lit.wf, IntKind.min, IntKind.max, IntKind.signed, IntKind.bits] using h

theorem own_lt {w : World} {base g len cap n k : Nat} {e : TypeId} {xs : List Value} (h : w.ownsRow base e k (.slice (some ⟨g, 0, none⟩) len cap) n xs) : g < w.heap.size := by
  rcases h.2 with ⟨h0, _⟩ | ⟨g', cap', cur, h0, hg, hh, _⟩
  · simp at h0
  · simp at h0
    obtain ⟨rfl, _, _⟩ := h0
    exact heap_lt hh

end Go.Proofs.Ytnncbikmapjlfaa
