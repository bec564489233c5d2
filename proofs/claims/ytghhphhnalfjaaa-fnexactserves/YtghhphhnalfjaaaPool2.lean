/-
  Chapter 4: the specification's copies of rows and pools, NewPool, Spare, l4Has, at every argument.
-/
import Derived.Test.YtghhphhnalfjaaaPool
import Derived.Deep.RegionHeld3
import Derived.Deep.RegionLaw
namespace Go.Proofs.Ytghhphhnalfjaaa
open Go.RowKit
set_option linter.unusedVariables false
set_option maxRecDepth 100000

/-- A pool whose two rows are the call's own and lie apart. -/
structure OwnP (base : Nat) (w : World) (v1 v2 : Value) (cs ps : List Int) : Prop where
  c : w.ownsRow base 2 1 v1 cs.length (cs.map (Value.int .i64))
  p : w.ownsRow base 2 1 v2 ps.length (ps.map (Value.int .i64))
  apart : ∀ g, v1.ownBlock = some g → v2.ownBlock ≠ some g
theorem OwnP.below {base : Nat} {w w' : World} {v1 v2 : Value} {cs ps : List Int} (h : OwnP base w v1 v2 cs ps) (b : Below w.heap.size w w') : OwnP base w' v1 v2 cs ps := ⟨owns_below h.c b, owns_below h.p b, h.apart⟩
theorem OwnP.mono {base base' : Nat} {w : World} {v1 v2 : Value} {cs ps : List Int} (h : OwnP base w v1 v2 cs ps) (b : base' ≤ base) : OwnP base' w v1 v2 cs ps := ⟨owns_mono h.c b, owns_mono h.p b, h.apart⟩
theorem OwnP.upto {base c : Nat} {w w' : World} {v1 v2 : Value} {cs ps : List Int} (h : OwnP base w v1 v2 cs ps) (u : Upto c w w') (hc : c < base) : OwnP base w' v1 v2 cs ps := ⟨ownsRow_upto h.c u hc, ownsRow_upto h.p u hc, h.apart⟩
theorem OwnP.r1 {base : Nat} {w : World} {v1 v2 : Value} {cs ps : List Int} (h : OwnP base w v1 v2 cs ps) : Reads w.heap.size w v1 (cs.map (Value.int .i64)) := Reads.of_own h.c
theorem OwnP.r2 {base : Nat} {w : World} {v1 v2 : Value} {cs ps : List Int} (h : OwnP base w v1 v2 cs ps) : Reads w.heap.size w v2 (ps.map (Value.int .i64)) := Reads.of_own h.p
theorem OwnP.nil (base : Nat) (w : World) : OwnP base w (.slice none 0 0) (.slice none 0 0) [] [] := ⟨owns_nil _ _ _ _, owns_nil _ _ _ _, fun g h => by cases h⟩

theorem zeros_step (cs : List Int) (k : Nat) (h : k < cs.length) : zeros (cs.take (k + 1)) = zeros (cs.take k) + (if cs.getD k 0 = 0 then 1 else 0) := by
  rw [zeros, zeros, List.take_succ_eq_append_getElem h, List.countP_append, getD_of cs k h]
  by_cases e : cs[k] = 0 <;> simp [e]
theorem zeros_le (cs : List Int) (k : Nat) : zeros (cs.take k) ≤ k := by
  have h1 : zeros (cs.take k) ≤ (cs.take k).length := List.countP_le_length
  rw [List.length_take] at h1
  omega

end Go.Proofs.Ytghhphhnalfjaaa
