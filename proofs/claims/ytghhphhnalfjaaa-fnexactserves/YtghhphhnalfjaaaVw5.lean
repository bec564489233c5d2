/-
  Chapter 14: the specification's Without and Joined, at every argument.
-/
import Derived.Test.YtghhphhnalfjaaaVw4
namespace Go.Proofs.Ytghhphhnalfjaaa
open Go.RowKit Nums
set_option linter.unusedVariables false
set_option maxRecDepth 100000

/-- The answer's box is written. -/
theorem view_end (w W : World) (n : Int) (u x y : Value) (b : Nat) (ms : List Int) (hb : w.heap.size ≤ b) (k : W.heap[b]? = some (.cells #[x, y] 59 (0, 0))) (own : W.ownsRow (b + 1) 2 1 u ms.length (ms.map (Value.int .i64))) (d : Below w.heap.size w W) :
    ((W.setCell ⟨b, 0, none⟩ (.int .i64 n)).setCell ⟨b, 1, none⟩ u).heap[b]? = some (.cells #[.int .i64 n, u] 59 (0, 0)) ∧ ((W.setCell ⟨b, 0, none⟩ (.int .i64 n)).setCell ⟨b, 1, none⟩ u).ownsRow w.heap.size 2 1 u ms.length (ms.map (Value.int .i64)) ∧ Below w.heap.size w ((W.setCell ⟨b, 0, none⟩ (.int .i64 n)).setCell ⟨b, 1, none⟩ u) := by
  obtain ⟨h1, h2⟩ := set_two k (.int .i64 n) u
  exact ⟨h1, owns_mono (ownsRow_upto own h2 (by omega)) (by omega), d.trans (h2.toBelow d.size (by omega))⟩

theorem owns_uptoN {w w' : World} {c base : Nat} {e : TypeId} {size : Nat} {v : Value} {n : Nat} {xs : List Value} (h : w.ownsRow base e size v n xs) (u : Upto c w w') (hb : v.ownBlock ≠ some c) : w'.ownsRow base e size v n xs := by
  obtain ⟨h1, h2⟩ := h
  refine ⟨h1, ?_⟩
  rcases h2 with h2 | ⟨g, cap, cur, hv, hg, hh, r⟩
  · exact Or.inl h2
  · have hlt : g < w.heap.size := by
      rcases Nat.lt_or_ge g w.heap.size with q | q
      · exact q
      · simp [Array.getElem?_eq_none q] at hh
    exact Or.inr ⟨g, cap, cur, hv, hg, by rw [u.block g hlt (fun q => hb (by rw [hv, ← q]; rfl))]; exact hh, r⟩

theorem withoutV_bad {n : Int} {ms : List Int} {h : Int} (hv : viewOk n ms = false) : withoutV n ms h = ((0, []), false) ∧ joinedV n ms h = ((0, []), false) := ⟨by rw [withoutV, if_neg (by rw [hv]; decide)], by rw [joinedV, if_neg (by rw [hv]; decide)]⟩
theorem withoutV_stay {n : Int} {ms : List Int} {h : Int} (hv : viewOk n ms = true) (hg : ¬ goes n ms h) : withoutV n ms h = ((n, ms), false) := by rw [withoutV, if_pos hv, if_neg hg]
theorem joinedV_stay {n : Int} {ms : List Int} {h : Int} (hv : viewOk n ms = true) (hg : ¬ comes n ms h) : joinedV n ms h = ((n, ms), false) := by rw [joinedV, if_pos hv, if_neg hg]
theorem joinedV_come {n : Int} {ms : List Int} {h : Int} (hv : viewOk n ms = true) (hg : comes n ms h) : joinedV n ms h = ((n + 1, ms ++ [h]), true) := by rw [joinedV, if_pos hv, if_pos hg]

end Go.Proofs.Ytghhphhnalfjaaa
