/-
  Chapter 14's draws: a view (l14Draw).
-/
import Derived.Test.YtijmmenkcemggaaVwLaw
import Derived.Test.YtijmmenkcemggaaDraw
import Derived.Test.YtijmmenkcemggaaDrawText
import Derived.Deep.DeepCutAuto
namespace Go.Proofs.Ytijmmenkcemggaa
open Go.RowKit Nums
set_option linter.unusedVariables false
set_option maxRecDepth 100000

/-- How memory lies while a view is drawn: its box at nP, the answer's at the end of what was there, its row behind both. -/
structure VwSt (c nP : Nat) (x : Option Addr) (len cap : Nat) (w W : World) (n : Int) (v : Value) (ms : List Int) : Prop where
  own : W.ownsRow (nP + 1) 2 1 v ms.length (ms.map (Value.int .i64))
  kP : W.heap[nP]? = some (.cells #[.int .i64 n, v] 26 (0, 0))
  kR : W.heap[w.heap.size]? = some (.cells #[.int .i64 0, .slice none 0 0] 26 (0, 0))
  kc : Cur W c x len cap
  u : Upto c w W
  lt : c < w.heap.size ∧ w.heap.size < nP
  bn : 0 ≤ n ∧ n ≤ 1001
  bm : ∀ m ∈ ms, -1 ≤ m ∧ m ≤ 4
theorem VwSt.step {c nP : Nat} {x : Option Addr} {len cap : Nat} {w W W' : World} {n : Int} {v : Value} {ms : List Int} (h : VwSt c nP x len cap w W n v ms) (u : Upto c W W') (kc : Cur W' c x len cap) : VwSt c nP x len cap w W' n v ms := by
  have := h.lt
  exact ⟨ownsRow_upto h.own u (by omega), (u.block _ (heap_lt h.kP) (by omega)).trans h.kP, (u.block _ (heap_lt h.kR) (by omega)).trans h.kR, kc, h.u.trans u, h.lt, h.bn, h.bm⟩
theorem VwSt.alloc {c nP : Nat} {x : Option Addr} {len cap : Nat} {w W : World} {n : Int} {v : Value} {ms : List Int} (h : VwSt c nP x len cap w W n v ms) (o : Obj) : VwSt c nP x len cap w (W.alloc o) n v ms := h.step ((Upto.refl c W).alloc o) (h.kc.alloc o)
theorem VwSt.drew {c nP : Nat} {x : Option Addr} {len cap : Nat} {w W : World} {n : Int} {v : Value} {ms : List Int} (h : VwSt c nP x len cap w W n v ms) : VwSt c nP x len cap w W.drew n v ms := h.step ((Upto.refl c W).drew) h.kc.drew
theorem VwSt.below {c nP : Nat} {x : Option Addr} {len cap : Nat} {w W W' : World} {n : Int} {v : Value} {ms : List Int} (h : VwSt c nP x len cap w W n v ms) (b : Below W.heap.size W W') : VwSt c nP x len cap w W' n v ms := h.step (Upto.ofBelow b) (h.kc.same (b.mono h.kc.lt))
theorem VwSt.setN {c nP : Nat} {x : Option Addr} {len cap : Nat} {w W : World} {n : Int} {v : Value} {ms : List Int} (h : VwSt c nP x len cap w W n v ms) (z : Int) (hz : 0 ≤ z ∧ z ≤ 1001) : VwSt c nP x len cap w (W.setCell ⟨nP, 0, none⟩ (.int .i64 z)) z v ms := by
  have := h.lt
  have u : Upto nP W (W.setCell ⟨nP, 0, none⟩ (.int .i64 z)) := (Upto.refl _ _).setCell ⟨nP, 0, none⟩ (.inl rfl) _
  exact ⟨ownsRow_upto h.own u (by omega), set_0 h.kP _, (u.block _ (heap_lt h.kR) (by omega)).trans h.kR, h.kc.same (u.toBelow h.kc.lt (by omega)), h.u.setCell _ (.inr (by show w.heap.size ≤ nP; omega)) _, h.lt, hz, h.bm⟩
theorem VwSt.setV {c nP : Nat} {x : Option Addr} {len cap : Nat} {w W : World} {n : Int} {v : Value} {ms : List Int} (h : VwSt c nP x len cap w W n v ms) (v' : Value) (ms' : List Int) (own : W.ownsRow (nP + 1) 2 1 v' ms'.length (ms'.map (Value.int .i64))) (hm : ∀ m ∈ ms', -1 ≤ m ∧ m ≤ 4) : VwSt c nP x len cap w (W.setCell ⟨nP, 1, none⟩ v') n v' ms' := by
  have := h.lt
  have u : Upto nP W (W.setCell ⟨nP, 1, none⟩ v') := (Upto.refl _ _).setCell ⟨nP, 1, none⟩ (.inl rfl) _
  exact ⟨ownsRow_upto own u (by omega), set_1 h.kP _, (u.block _ (heap_lt h.kR) (by omega)).trans h.kR, h.kc.same (u.toBelow h.kc.lt (by omega)), h.u.setCell _ (.inr (by show w.heap.size ≤ nP; omega)) _, h.lt, h.bn, hm⟩
/-- A member is put behind the others; its row may move. -/
theorem VwSt.grow {c nP : Nat} {x : Option Addr} {len cap : Nat} {w W W' : World} {n : Int} {v : Value} {ms : List Int} (h : VwSt c nP x len cap w W n v ms) (g : W.grownBy W' v.ownBlock) (own : W'.ownsRow (nP + 1) 2 1 v ms.length (ms.map (Value.int .i64)) ∨ True) : W'.heap[nP]? = some (.cells #[.int .i64 n, v] 26 (0, 0)) ∧ W'.heap[w.heap.size]? = some (.cells #[.int .i64 0, .slice none 0 0] 26 (0, 0)) ∧ Cur W' c x len cap ∧ Upto c w W' := by
  have := h.lt
  have hl : ∀ q, v.ownBlock = some q → nP + 1 ≤ q := fun q hq => (h.own.lt q hq).1
  refine ⟨(g.block nP (heap_lt h.kP) (fun e => by have := hl _ e.symm; omega)).trans h.kP, (g.block _ (heap_lt h.kR) (fun e => by have := hl _ e.symm; omega)).trans h.kR, h.kc.same ((Below.refl _ _).grown g h.kc.lt (fun z hz => by have := hl z hz; omega)), h.u.grown g (fun z hz => .inl (by have := hl z hz; omega))⟩
theorem VwSt.more {c nP : Nat} {x : Option Addr} {len cap : Nat} {w W W' : World} {n : Int} {v v' : Value} {ms : List Int} (h : VwSt c nP x len cap w W n v ms) (g : W.grownBy W' v.ownBlock) (a : Int) (ha : -1 ≤ a ∧ a ≤ 4) (own : W'.ownsRow (nP + 1) 2 1 v' (ms.length + 1) (ms.map (Value.int .i64) ++ [.int .i64 a])) :
    VwSt c nP x len cap w (W'.setCell ⟨nP, 1, none⟩ v') n v' (ms ++ [a]) := by
  obtain ⟨k1, k2, k3, k4⟩ := h.grow g (.inr trivial)
  have := h.lt
  have e : ms.map (Value.int .i64) ++ [.int .i64 a] = (ms ++ [a]).map (Value.int .i64) := by simp
  have e2 : ms.length + 1 = (ms ++ [a]).length := by simp
  rw [e, e2] at own
  have u : Upto nP W' (W'.setCell ⟨nP, 1, none⟩ v') := (Upto.refl _ _).setCell ⟨nP, 1, none⟩ (.inl rfl) _
  refine ⟨ownsRow_upto own u (by omega), set_1 k1 _, (u.block _ (heap_lt k2) (by omega)).trans k2, k3.same (u.toBelow k3.lt (by omega)), k4.setCell _ (.inr (by show w.heap.size ≤ nP; omega)) _, h.lt, h.bn, fun m hm => ?_⟩
  rcases List.mem_append.1 hm with hm | hm
  · exact h.bm m hm
  · simp only [List.mem_singleton] at hm; rw [hm]; exact ha
/-- The answer's box is written. -/
theorem VwSt.drawn {c nP : Nat} {x : Option Addr} {len cap : Nat} {w W : World} {n : Int} {v : Value} {ms : List Int} (h : VwSt c nP x len cap w W n v ms) :
    ((W.setCell ⟨w.heap.size, 0, none⟩ (.int .i64 n)).setCell ⟨w.heap.size, 1, none⟩ v).heap[w.heap.size]? = some (.cells #[.int .i64 n, v] 26 (0, 0)) ∧ OwnVw w.heap.size ((W.setCell ⟨w.heap.size, 0, none⟩ (.int .i64 n)).setCell ⟨w.heap.size, 1, none⟩ v) v ms ∧
    Upto c w ((W.setCell ⟨w.heap.size, 0, none⟩ (.int .i64 n)).setCell ⟨w.heap.size, 1, none⟩ v) ∧ Cur ((W.setCell ⟨w.heap.size, 0, none⟩ (.int .i64 n)).setCell ⟨w.heap.size, 1, none⟩ v) c x len cap := by
  have := h.lt
  obtain ⟨s1, u1⟩ := set_two h.kR (.int .i64 n) v
  exact ⟨s1, ⟨owns_mono (ownsRow_upto h.own u1 (by omega)) (by omega)⟩, (h.u.setCell _ (.inr (Nat.le_refl _)) _).setCell _ (.inr (Nat.le_refl _)) _, h.kc.same (u1.toBelow h.kc.lt (by omega))⟩

end Go.Proofs.Ytijmmenkcemggaa
