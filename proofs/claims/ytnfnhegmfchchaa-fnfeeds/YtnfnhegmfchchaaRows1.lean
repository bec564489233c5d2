/-
  Rows of the call's own: what a walk uses of them; the table rows of the element types.
-/
import Derived.Test.YtnfnhegmfchchaaWorlds
import Derived.Test.YtnfnhegmfchchaaChecked
import Derived.Laws.OwnMore
import Derived.OwnWalk
namespace Go.Proofs.Ytnfnhegmfchchaa
open Go.RowKit
set_option linter.unusedVariables false

theorem Try.infoStr : (Try.prog.info? 9).map (fun i => (i.zero, i.size, i.bytes)) = some (some (.string ByteArray.empty), 1, 16) := by kernel_rfl

theorem Try.infoI64 : (Try.prog.info? 2).map (fun i => (i.zero, i.size, i.bytes)) = some (some (.int .i64 0), 1, 8) := by kernel_rfl

theorem owns_below {w w' : World} {base : Nat} {e : TypeId} {size : Nat} {v : Value} {n : Nat} {xs : List Value} (h : w.ownsRow base e size v n xs) (k : Below w.heap.size w w') : w'.ownsRow base e size v n xs := by
  obtain ⟨h1, h2⟩ := h
  refine ⟨h1, ?_⟩
  rcases h2 with h2 | ⟨g, cap, cur, hv, hg, hh, r⟩
  · exact Or.inl h2
  · have hlt : g < w.heap.size := by
      rcases Nat.lt_or_ge g w.heap.size with q | q
      · exact q
      · simp [Array.getElem?_eq_none q] at hh
    exact Or.inr ⟨g, cap, cur, hv, hg, by rw [k.block g hlt]; exact hh, r⟩

theorem owns_form {w : World} {base : Nat} {e : TypeId} {size : Nat} {v : Value} {n : Nat} {xs : List Value} (h : w.ownsRow base e size v (n + 1) xs) : ∃ g cap, v = .slice (some ⟨g, 0, none⟩) (n + 1) cap := by
  rcases h.2 with ⟨_, hn⟩ | ⟨g, cap, cur, hv, _⟩
  · omega
  · exact ⟨g, cap, hv⟩

theorem new_one (w : World) (v : Value) (t : TypeId) : ∀ (j : Nat) (u : Value), [v][j]? = some u → (w.alloc (.cells #[v] t)).cell? ((⟨w.heap.size, 0, none⟩ : Addr).add j) = some u := by
  intro j u hj
  match j, hj with
  | 0, hj => simp at hj; subst hj; simp [Addr.add, go_sem]

/-- A slice that is read: its length, and each of its cells, which lie below block B. -/
def Reads (B : Nat) (w : World) (v : Value) (xs : List Value) : Prop :=
  ∃ o cap, v = .slice o xs.length cap ∧ xs.length ≤ maxLen ∧ ∀ j u, xs[j]? = some u → ∃ g off, o = some ⟨g, off, none⟩ ∧ g < B ∧ w.cell? ⟨g, off + j, none⟩ = some u
theorem Reads.below {B : Nat} {w w' : World} {v : Value} {xs : List Value} (h : Reads B w v xs) (k : Below B w w') : Reads B w' v xs := by
  obtain ⟨o, cap, hv, hm, hc⟩ := h
  refine ⟨o, cap, hv, hm, fun j u hj => ?_⟩
  obtain ⟨g, off, e, hg, hx⟩ := hc j u hj
  exact ⟨g, off, e, hg, (k.cell (p := ⟨g, off + j, none⟩) hg).trans hx⟩
theorem Reads.mono {B B' : Nat} {w : World} {v : Value} {xs : List Value} (h : Reads B w v xs) (k : B ≤ B') : Reads B' w v xs := by
  obtain ⟨o, cap, hv, hm, hc⟩ := h
  refine ⟨o, cap, hv, hm, fun j u hj => ?_⟩
  obtain ⟨g, off, e, hg, hx⟩ := hc j u hj
  exact ⟨g, off, e, Nat.lt_of_lt_of_le hg k, hx⟩
theorem Reads.of_own {w : World} {base n : Nat} {e : TypeId} {v : Value} {xs : List Value} (h : w.ownsRow base e 1 v n xs) : Reads w.heap.size w v xs := by
  have hn : xs.length = n := by simpa using h.1
  subst hn
  rcases h.2 with ⟨rfl, hn⟩ | ⟨g, cap, cur, rfl, hg, hh, hnc, hcm, hcs, htk⟩
  · have : xs = [] := List.length_eq_zero_iff.1 hn
    subst this
    exact ⟨none, 0, rfl, Nat.zero_le _, fun j u hj => absurd hj (by simp)⟩
  · refine ⟨some ⟨g, 0, none⟩, cap, rfl, Nat.le_trans hnc hcm, fun j u hj => ⟨g, 0, rfl, ?_, ?_⟩⟩
    · rcases Nat.lt_or_ge g w.heap.size with q | q
      · exact q
      · simp [Array.getElem?_eq_none q] at hh
    · have hj' := (List.getElem?_eq_some_iff.1 hj).1
      rw [Nat.zero_add, h.cellAt j (by omega), hj]

end Go.Proofs.Ytnfnhegmfchchaa
