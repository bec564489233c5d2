/-
  Chapter 4: the specification's PoolOk, Spare, NewPool and its copy of a row, at every argument.
-/
import Derived.Test.YtghhphhnalfjaaaRows2
import Derived.Test.YtghhphhnalfjaaaPoolM
import Derived.Test.YtghhphhnalfjaaaInts
import Derived.Test.YtghhphhnalfjaaaBytes
namespace Go.Proofs.Ytghhphhnalfjaaa
open Go.RowKit
set_option linter.unusedVariables false
set_option maxRecDepth 100000

/-- A box of a pool: its two rows. -/
theorem pool_box (w : World) (v1 v2 : Value) (T : TypeId) : ∃ W0, W0 = w.alloc (.cells #[v1, v2] T) ∧ W0.heap[w.heap.size]? = some (.cells #[v1, v2] T (0, 0)) ∧ Below w.heap.size w W0 ∧ W0.heap.size = w.heap.size + 1 :=
  ⟨_, rfl, heap_alloc_new w _, bw_alloc (Below.refl _ _), by simp⟩

theorem getD_some (xs : List Int) (j : Nat) (h : j < xs.length) : (xs.map (Value.int .i64))[j]? = some (.int .i64 (xs.getD j 0)) := by
  rw [List.getElem?_map, List.getElem?_eq_getElem h, List.getD_eq_getElem?_getD, List.getElem?_eq_getElem h]; rfl

end Go.Proofs.Ytghhphhnalfjaaa
