/-
  The draws' l1Bend: a text with some bytes turned, cut off, left out or put in.
-/
import Derived.Test.YtbjkbhchcoabcahDrawText
import Derived.Test.YtbjkbhchcoabcahBytesRow
import Derived.Deep.RegionLaw
import Derived.Test.YtbjkbhchcoabcahSteps
namespace Go.Proofs.Ytbjkbhchcoabcah
open Go.RowKit
set_option linter.unusedVariables false
set_option maxRecDepth 100000

/-- The row that is bent: bytes in a block of the call's own. -/
structure Row8 (w : World) (base g : Nat) (l : List UInt8) : Prop where
  lo : base ≤ g
  hi : g < w.heap.size
  cell : ∀ j u, l[j]? = some u → w.cell? ⟨g, j, none⟩ = some (.int .u8 u.toNat)
  free : ∀ j, j < l.length → w.frozen? ⟨g, j, none⟩ = false
theorem Row8.upto {w w' : World} {base g c : Nat} {l : List UInt8} (h : Row8 w base g l) (u : Upto c w w') (hc : c < base) : Row8 w' base g l :=
  ⟨h.lo, Nat.lt_of_lt_of_le h.hi u.size, fun j x hj => (u.cell (p := ⟨g, j, none⟩) h.hi (by have := h.lo; simp; omega)).trans (h.cell j x hj), fun j hj => (u.frozen (p := ⟨g, j, none⟩) h.hi (by have := h.lo; simp; omega)).trans (h.free j hj)⟩
theorem Row8.take {w : World} {base g : Nat} {l : List UInt8} (h : Row8 w base g l) (k : Nat) : Row8 w base g (l.take k) :=
  ⟨h.lo, h.hi, fun j x hj => h.cell j x (by rw [List.getElem?_take] at hj; split at hj <;> simp_all), fun j hj => h.free j (by simp at hj; omega)⟩
theorem Row8.set {w : World} {base g k : Nat} {l : List UInt8} (h : Row8 w base g l) (v : UInt8) (hk : k < l.length) : Row8 (w.setCell ⟨g, k, none⟩ (.int .u8 v.toNat)) base g (l.set k v) :=
  ⟨h.lo, by have := h.hi; simpa [go_sem] using this, cells_set w g k l v hk h.cell, fun j hj => by have := h.free j (by simpa using hj); simpa [go_sem] using this⟩
theorem Row8.of_own {w : World} {base g cap n : Nat} {l : List UInt8} (h : w.ownsRow base 5 1 (.slice (some ⟨g, 0, none⟩) n cap) n (l.map fun u => Value.int .u8 u.toNat)) : Row8 w base g l := by
  have hl := h.lt g rfl
  have hn : l.length = n := by simpa using h.1
  refine ⟨hl.1, hl.2, fun j u hj => ?_, fun j hj => h.frozenAt j⟩
  have hj' := (List.getElem?_eq_some_iff.1 hj).1
  rw [h.cellAt j (by omega), List.getElem?_map, hj]
  rfl

def vals (l : List UInt8) : List Value := l.map fun u => Value.int .u8 u.toNat
theorem vals_one (l : List UInt8) : ∀ u ∈ vals l, u.oneCell' = true := by
  intro u hu
  simp only [vals, List.mem_map] at hu
  obtain ⟨x, _, rfl⟩ := hu
  rfl
theorem vals_append (a b : List UInt8) : vals a ++ vals b = vals (a ++ b) := by simp [vals]
theorem add_off (g a j : Nat) : (⟨g, a, none⟩ : Addr).add j = ⟨g, a + j, none⟩ := by unfold Addr.add; split <;> simp_all
/-- The cells of a part of the row, in every world that has its block. -/
theorem Row8.part {w W : World} {base g : Nat} {l : List UInt8} (h : Row8 w base g l) (hW : W.heap[g]? = w.heap[g]?) (a n : Nat) : ∀ j u, (vals ((l.drop a).take n))[j]? = some u → W.cell? ((⟨g, a, none⟩ : Addr).add j) = some u := by
  intro j u hj
  rw [add_off]
  simp only [vals, List.getElem?_map, Option.map_eq_some_iff] at hj
  obtain ⟨x, hx, rfl⟩ := hj
  rw [World.cell?_of_block (w := w) (by exact hW)]
  apply h.cell
  rw [List.getElem?_take] at hx
  split at hx
  · rw [List.getElem?_drop] at hx; exact hx
  · cases hx
theorem own_empty (w W : World) (base : Nat) (hb : base ≤ w.heap.size) (hW : W.heap = (w.alloc (.cells #[] 5)).heap) : W.ownsRow base 5 1 (.slice (some ⟨w.heap.size, 0, none⟩) 0 0) 0 [] := by
  have := World.ownsRow_lit (base := base) (e := 5) (size := 1) w #[] 0 hb (Nat.zero_le _) rfl
  obtain ⟨h1, h2⟩ := this
  refine ⟨h1, ?_⟩
  rw [hW]
  exact h2

/-- What the last append leaves: the row for the next round. -/
theorem row_of {w : World} {base n : Nat} {v : Value} {l : List UInt8} (h : w.ownsRow base 5 1 v n (vals l)) (hv : ¬ v = .slice none 0 0) : ∃ g cap, v = .slice (some ⟨g, 0, none⟩) l.length cap ∧ l.length ≤ cap ∧ Row8 w base g l := by
  have hn : l.length = n := by have := h.1; simpa [vals] using this
  subst hn
  rcases h.2 with ⟨e, _⟩ | ⟨g, cap, cur, rfl, _, _, hnc, _⟩
  · exact absurd e hv
  · exact ⟨g, cap, rfl, hnc, Row8.of_own h⟩
theorem empty_slice (g n cap : Nat) : ¬ (Value.slice (some ⟨g, 0, none⟩) n cap = .slice none 0 0) := by simp

end Go.Proofs.Ytbjkbhchcoabcah
