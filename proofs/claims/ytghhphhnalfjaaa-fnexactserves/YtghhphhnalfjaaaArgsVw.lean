/-
  A view as an argument, opened.
-/
import Derived.Test.YtghhphhnalfjaaaVwLaw
import Derived.Test.YtghhphhnalfjaaaArgs
namespace Go.Proofs.Ytghhphhnalfjaaa
open Go.ChangeShapes Go.WideShapes Go.ChangeAt Go.RowKit Go.Deep Go.Joins
set_option linter.unusedVariables false
set_option maxRecDepth 100000

/-- Its numbers are of 64 bits. -/
structure FitV (n : Int) (ms : List Int) : Prop where
  n : (Lit.int .i64 n).wf = true
  ms : ∀ x ∈ ms, (Lit.int .i64 x).wf = true

theorem open_view {H : Type} {enc : TypeId × Value → H} {W : World} {base : Nat} {v : Value} {d : DataW H} {p : List MemPlace} (hv : Value.okWide Try.prog W .any base 54 v) (h : DataW.Trod enc Try.prog W 0 (fun _ => true) true 54 v d p) :
    ∃ (n : Int) (v2 : Value) (ms : List Int), v = .agg #[.int .i64 n, v2] ∧ RVw W.heap.size W v2 ms ∧ FitV n ms := by
  obtain ⟨c0, c1, y0, y1, n, rfl, _, _, t0, t1⟩ := open_agg2 Try.underlying54 (by kernel_rfl) (by kernel_rfl) hv h
  obtain ⟨f, e0, _, hw⟩ := DataW.trod_int Try.underlying2 t0
  simp at e0
  subst e0
  obtain ⟨ms, r2, hm⟩ := row_i64 t1
  exact ⟨f, c1, ms, rfl, ⟨r2⟩, ⟨hw, hm⟩⟩

end Go.Proofs.Ytghhphhnalfjaaa
