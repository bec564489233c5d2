/-
  Contracts and plain laws, one chapter behind the other.
-/
import Derived.WalkKit
import Derived.Below
import Derived.Laws.AppendOwn
import Derived.Deep.QuietTactic
import Derived.BigQuiet
import Derived.Test.YtaekdfknkgmfbaaGreatDoorChecked
import Derived.Laws.OwnMore
import Derived.OwnWalk
import Derived.LaidEql
import Derived.Stop.Asserts
import Derived.RowKitTokens
import Derived.RangeFuncBox
import Derived.Deep.WholeRow
namespace Go.Proofs.YtaekdfknkgmfbaaGreatDoor
open Go.RowKit


structure Upto (c : Nat) (w w' : World) : Prop where
  os : w'.os = w.os
  tape : w'.tape = w.tape
  output : w'.output = w.output
  size : w.heap.size ≤ w'.heap.size
  block : ∀ k, k < w.heap.size → k ≠ c → w'.heap[k]? = w.heap[k]?

theorem Upto.refl (c : Nat) (w : World) : Upto c w w := ⟨rfl, rfl, rfl, Nat.le_refl _, fun _ _ _ => rfl⟩

theorem Upto.trans {c : Nat} {a b d : World} (h : Upto c a b) (k : Upto c b d) : Upto c a d :=
  ⟨k.os.trans h.os, k.tape.trans h.tape, k.output.trans h.output, Nat.le_trans h.size k.size, fun i hi hc => (k.block i (Nat.lt_of_lt_of_le hi h.size) hc).trans (h.block i hi hc)⟩

theorem Upto.drew {c : Nat} {a w : World} (h : Upto c a w) : Upto c a w.drew := ⟨h.os, h.tape, h.output, h.size, h.block⟩

theorem Upto.drewN {c : Nat} {a w : World} (h : Upto c a w) (n : Nat) : Upto c a (w.drewN n) := ⟨h.os, h.tape, h.output, h.size, h.block⟩

theorem Upto.below {c : Nat} {a w w' : World} (h : Upto c a w) (k : Below w.heap.size w w') : Upto c a w' :=
  ⟨k.os.trans h.os, k.tape.trans h.tape, k.output.trans h.output, Nat.le_trans h.size k.size, fun i hi hc => (k.block i (Nat.lt_of_lt_of_le hi h.size)).trans (h.block i hi hc)⟩

theorem Upto.ofBelow {c : Nat} {w w' : World} (k : Below w.heap.size w w') : Upto c w w' := (Upto.refl c w).below k

theorem Upto.alloc {c : Nat} {a w : World} (h : Upto c a w) (o : Obj) : Upto c a (w.alloc o) := h.below ((Below.refl _ _).alloc (Nat.le_refl _) o)

theorem Upto.setCell {c : Nat} {a w : World} (h : Upto c a w) (p : Addr) (hp : p.block = c ∨ a.heap.size ≤ p.block) (u : Value) : Upto c a (w.setCell p u) :=
  ⟨h.os, h.tape, h.output, by simpa [World.setCell] using h.size, fun i hi hc => (Below.heap_setCell w p u i (by rcases hp with e | e <;> omega)).trans (h.block i hi hc)⟩

theorem Upto.toBelow {c B : Nat} {w w' : World} (h : Upto c w w') (hB : B ≤ w.heap.size) (hc : B ≤ c) : Below B w w' :=
  ⟨h.os, h.tape, h.output, h.size, fun k hk => h.block k (by omega) (by omega)⟩

theorem Upto.cell {c : Nat} {w w' : World} (h : Upto c w w') {p : Addr} (hp : p.block < w.heap.size) (hc : p.block ≠ c) : w'.cell? p = w.cell? p := World.cell?_of_block (w := w) (h.block p.block hp hc)

theorem Upto.frozen {c : Nat} {w w' : World} (h : Upto c w w') {p : Addr} (hp : p.block < w.heap.size) (hc : p.block ≠ c) : w'.frozen? p = w.frozen? p := World.frozen?_of_block (w := w) (h.block p.block hp hc)

theorem Upto.grown {c : Nat} {a w w' : World} {row : Option Nat} (h : Upto c a w) (hg : w.grownBy w' row) (hr : ∀ k, row = some k → a.heap.size ≤ k ∨ k = c) : Upto c a w' := by
  have hb : Below 0 w w' := (Below.refl 0 w).grown hg (Nat.zero_le _) (fun _ _ => Nat.zero_le _)
  exact ⟨hb.os.trans h.os, hb.tape.trans h.tape, hb.output.trans h.output, Nat.le_trans h.size hb.size, fun i hi hc => by
    refine (hg.block i (Nat.lt_of_lt_of_le hi h.size) ?_).trans (h.block i hi hc)
    intro e
    rcases hr i e.symm with e' | e' <;> omega⟩

theorem ownsRow_upto {w w' : World} {c base : Nat} {e : TypeId} {size : Nat} {v : Value} {n : Nat} {xs : List Value} (h : w.ownsRow base e size v n xs) (u : Upto c w w') (hb : c < base) : w'.ownsRow base e size v n xs := by
  obtain ⟨h1, h2⟩ := h
  refine ⟨h1, ?_⟩
  rcases h2 with h2 | ⟨g, cap, cur, hv, hg, hh, r⟩
  · exact Or.inl h2
  · have hlt : g < w.heap.size := by
      rcases Nat.lt_or_ge g w.heap.size with q | q
      · exact q
      · simp [Array.getElem?_eq_none q] at hh
    exact Or.inr ⟨g, cap, cur, hv, hg, by rw [u.block g hlt (by omega)]; exact hh, r⟩

/-- The worlds in which nothing that was there in w has turned: as a type, so that facts on cells are plain rules. -/
structure BelowOf (w : World) where
  w' : World
  h : Below w.heap.size w w'

theorem BelowOf.any (w : World) : Nonempty (BelowOf w) := ⟨⟨w, Below.refl _ _⟩⟩

theorem BelowOf.cell {w : World} {a : Addr} {v : Value} (h : w.cell? a = some v) (ha : a.block < w.heap.size) : ∀ p : BelowOf w, p.w'.cell? a = some v := fun p => (p.h.cell ha).trans h

theorem wp_region_of {P : Program} {id : Nat} {Q : Exit → Act → World → Prop} {a : Act} {w : World} {l : List Oper} (hm : P.follows .mixedOrders = true) (hB : Region.lexB .any l.toArray = true)
    (h : wpQuiet P l.toArray (fun w' => ∃ p : BelowOf w, w' = p.w') (fun a' => ∀ w', (∃ p : BelowOf w, w' = p.w') → Q .normal a' w') l a) : (Code.region id l.toArray true).wp P Q a w :=
  wp_region_quiet (C := fun w' => ∃ p : BelowOf w, w' = p.w') hm hB ⟨⟨{ w with drawn := w.drawn + 1 }, ⟨rfl, rfl, rfl, Nat.le_refl _, fun _ _ => rfl⟩⟩, rfl⟩ (by simpa using h)

theorem calls_of {P : Program} {f : FuncId} {args : Array Value} {w : World} {v : Value} {p : BelowOf w}
    (h : Calls P f args p.w' fun e w' => e = .returned v ∧ Below p.w'.heap.size p.w' w') : Calls P f args p.w' fun e w'' => e = .returned v ∧ ∃ q : BelowOf w, w'' = q.w' :=
  h.mono fun _ w'' ⟨he, hk⟩ => ⟨he, ⟨w'', p.h.trans (hk.mono p.h.size)⟩, rfl⟩

structure Cur (w : World) (c : Nat) (x : Option Addr) (len cap : Nat) : Prop where
  lt : c < w.heap.size
  hm : len ≤ maxLen
  b : w.cell? ⟨c, 0, none⟩ = some (.slice x len cap)
  ih : ∃ (i : Nat) (h : Int), i ≤ len ∧ w.cell? ⟨c, 1, none⟩ = some (.int .i64 i) ∧ w.cell? ⟨c, 2, none⟩ = some (.int .i64 h)
  f1 : w.frozen? ⟨c, 1, none⟩ = false
  f2 : w.frozen? ⟨c, 2, none⟩ = false
  src : ∀ j, j < len → ∃ b off z, x = some ⟨b, off, none⟩ ∧ b < c ∧ w.cell? ⟨b, off + j, none⟩ = some (.int .u8 z) ∧ 0 ≤ z ∧ z ≤ 255

/-- A cursor stays one where neither its block nor those below it turn. -/
theorem Cur.same {w w' : World} {c : Nat} {x : Option Addr} {len cap : Nat} (h : Cur w c x len cap) (k : Below (c + 1) w w') : Cur w' c x len cap := by
  obtain ⟨i, q, hi, h1, h2⟩ := h.ih
  have hc : ∀ o, w'.cell? ⟨c, o, none⟩ = w.cell? ⟨c, o, none⟩ := fun o => k.cell (p := ⟨c, o, none⟩) (Nat.lt_succ_self c)
  have hf : ∀ o, w'.frozen? ⟨c, o, none⟩ = w.frozen? ⟨c, o, none⟩ := fun o => k.frozen (p := ⟨c, o, none⟩) (Nat.lt_succ_self c)
  refine ⟨Nat.lt_of_lt_of_le h.lt k.size, h.hm, (hc 0).trans h.b, ⟨i, q, hi, (hc 1).trans h1, (hc 2).trans h2⟩, (hf 1).trans h.f1, (hf 2).trans h.f2, fun j hj => ?_⟩
  obtain ⟨b, off, z, e, hb, hz, h3, h4⟩ := h.src j hj
  exact ⟨b, off, z, e, hb, (k.cell (p := ⟨b, off + j, none⟩) (Nat.lt_succ_of_lt hb)).trans hz, h3, h4⟩

theorem Cur.alloc {w : World} {c : Nat} {x : Option Addr} {len cap : Nat} (h : Cur w c x len cap) (o : Obj) : Cur (w.alloc o) c x len cap :=
  h.same ((Below.refl _ _).alloc h.lt o)

theorem Cur.drew {w : World} {c : Nat} {x : Option Addr} {len cap : Nat} (h : Cur w c x len cap) : Cur w.drew c x len cap :=
  h.same ((Below.refl _ _).drew)

theorem Cur.below {w w' : World} {c : Nat} {x : Option Addr} {len cap : Nat} (h : Cur w c x len cap) (k : Below w.heap.size w w') : Cur w' c x len cap :=
  h.same (k.mono h.lt)

/-- What a step of the cursor leaves: two of its cells at most. -/
theorem Cur.step {w w' : World} {c : Nat} {x : Option Addr} {len cap : Nat} (h : Cur w c x len cap) (k : Upto c w w') (i : Nat) (q : Int) (hi : i ≤ len) (h0 : w'.cell? ⟨c, 0, none⟩ = w.cell? ⟨c, 0, none⟩)
    (h1 : w'.cell? ⟨c, 1, none⟩ = some (.int .i64 i)) (h2 : w'.cell? ⟨c, 2, none⟩ = some (.int .i64 q)) (g1 : w'.frozen? ⟨c, 1, none⟩ = false) (g2 : w'.frozen? ⟨c, 2, none⟩ = false) : Cur w' c x len cap := by
  refine ⟨Nat.lt_of_lt_of_le h.lt k.size, h.hm, h0.trans h.b, ⟨i, q, hi, h1, h2⟩, g1, g2, fun j hj => ?_⟩
  obtain ⟨b, off, z, e, hb, hz, h3, h4⟩ := h.src j hj
  exact ⟨b, off, z, e, hb, (k.cell (p := ⟨b, off + j, none⟩) (Nat.lt_trans hb h.lt) (Nat.ne_of_lt hb)).trans hz, h3, h4⟩
end Go.Proofs.YtaekdfknkgmfbaaGreatDoor

namespace Go.Proofs.YtaekdfknkgmfbaaGreatDoor
open Go.RowKit

set_option linter.unusedVariables false

set_option maxRecDepth 100000

theorem Tryz.infoI64 : (Tryz.prog.info? 2).map (fun i => (i.zero, i.size, i.bytes)) = some (some (.int .i64 0), 1, 8) := by kernel_rfl

theorem owns_below {w w' : World} {base : Nat} {e : TypeId} {size : Nat} {v : Value} {n : Nat} {xs : List Value} (h : w.ownsRow base e size v n xs) (k : Below w.heap.size w w') : w'.ownsRow base e size v n xs := by
  obtain ⟨h1, h2⟩ := h
  refine ⟨h1, ?_⟩
  rcases h2 with h2 | ⟨g, cap, cur, hv, hg, hh, r⟩
  · exact Or.inl h2
  · have hlt : g < w.heap.size := by
      rcases Nat.lt_or_ge g w.heap.size with q | q
      · exact q
      · simp [Array.getElem?_eq_none q] at hh
    exact Or.inr ⟨g, cap, cur, hv, hg, by rw [k.block g hlt]; exact hh, r⟩

theorem owns_form {w : World} {base : Nat} {e : TypeId} {size : Nat} {v : Value} {n : Nat} {xs : List Value} (h : w.ownsRow base e size v (n + 1) xs) : ∃ g cap, v = .slice (some ⟨g, 0, none⟩) (n + 1) cap := by
  rcases h.2 with ⟨_, hn⟩ | ⟨g, cap, cur, hv, _⟩
  · omega
  · exact ⟨g, cap, hv⟩

theorem new_one (w : World) (v : Value) (t : TypeId) : ∀ (j : Nat) (u : Value), [v][j]? = some u → (w.alloc (.cells #[v] t)).cell? ((⟨w.heap.size, 0, none⟩ : Addr).add j) = some u := by
  intro j u hj
  match j, hj with
  | 0, hj => simp at hj; subst hj; simp [Addr.add, go_sem]

/-- A slice that is read: its length, and each of its cells, which lie below block B. -/
def Reads (B : Nat) (w : World) (v : Value) (xs : List Value) : Prop :=
  ∃ o cap, v = .slice o xs.length cap ∧ xs.length ≤ maxLen ∧ (∀ j u, xs[j]? = some u → ∃ g off, o = some ⟨g, off, none⟩ ∧ g < B ∧ w.cell? ⟨g, off + j, none⟩ = some u) ∧ xs.length ≤ cap

theorem Reads.below {B : Nat} {w w' : World} {v : Value} {xs : List Value} (h : Reads B w v xs) (k : Below B w w') : Reads B w' v xs := by
  obtain ⟨o, cap, hv, hm, hc, hr⟩ := h
  refine ⟨o, cap, hv, hm, fun j u hj => ?_, hr⟩
  obtain ⟨g, off, e, hg, hx⟩ := hc j u hj
  exact ⟨g, off, e, hg, (k.cell (p := ⟨g, off + j, none⟩) hg).trans hx⟩

theorem Reads.mono {B B' : Nat} {w : World} {v : Value} {xs : List Value} (h : Reads B w v xs) (k : B ≤ B') : Reads B' w v xs := by
  obtain ⟨o, cap, hv, hm, hc, hr⟩ := h
  refine ⟨o, cap, hv, hm, fun j u hj => ?_, hr⟩
  obtain ⟨g, off, e, hg, hx⟩ := hc j u hj
  exact ⟨g, off, e, Nat.lt_of_lt_of_le hg k, hx⟩

theorem Reads.of_own {w : World} {base n : Nat} {e : TypeId} {v : Value} {xs : List Value} (h : w.ownsRow base e 1 v n xs) : Reads w.heap.size w v xs := by
  have hn : xs.length = n := by simpa using h.1
  subst hn
  rcases h.2 with ⟨rfl, hn⟩ | ⟨g, cap, cur, rfl, hg, hh, hnc, hcm, hcs, htk⟩
  · have : xs = [] := List.length_eq_zero_iff.1 hn
    subst this
    exact ⟨none, 0, rfl, Nat.zero_le _, fun j u hj => absurd hj (by simp), Nat.le_refl _⟩
  · refine ⟨some ⟨g, 0, none⟩, cap, rfl, Nat.le_trans hnc hcm, fun j u hj => ⟨g, 0, rfl, ?_, ?_⟩, hnc⟩
    · rcases Nat.lt_or_ge g w.heap.size with q | q
      · exact q
      · simp [Array.getElem?_eq_none q] at hh
    · have hj' := (List.getElem?_eq_some_iff.1 hj).1
      rw [Nat.zero_add, h.cellAt j (by omega), hj]

/-- A block of cells that lies open. -/
theorem at_cell {W : World} {b : Nat} {cs : Array Value} {t : TypeId} (h : W.heap[b]? = some (.cells cs t (0, 0))) (i : Nat) : W.cell? ⟨b, i, none⟩ = cs[i]? := by simp [World.cell?, h]

theorem at_open {W : World} {b : Nat} {cs : Array Value} {t : TypeId} (h : W.heap[b]? = some (.cells cs t (0, 0))) (i : Nat) : W.frozen? ⟨b, i, none⟩ = false := by simp [World.frozen?, h]

theorem owns_mono {w : World} {base base' : Nat} {e : TypeId} {size : Nat} {v : Value} {n : Nat} {xs : List Value} (h : w.ownsRow base e size v n xs) (k : base' ≤ base) : w.ownsRow base' e size v n xs := by
  obtain ⟨h1, h2⟩ := h
  refine ⟨h1, ?_⟩
  rcases h2 with h2 | ⟨g, cap, cur, hv, hg, r⟩
  · exact Or.inl h2
  · exact Or.inr ⟨g, cap, cur, hv, by omega, r⟩

/-- Both cells of a block of two are written. -/
theorem set_0 {W : World} {b : Nat} {x0 y0 : Value} {t : TypeId} (h : W.heap[b]? = some (.cells #[x0, y0] t (0, 0))) (x : Value) : (W.setCell ⟨b, 0, none⟩ x).heap[b]? = some (.cells #[x, y0] t (0, 0)) := by
  obtain ⟨hlt, hk⟩ := Array.getElem?_eq_some_iff.1 h
  show (W.heap.modify b _)[b]? = _
  rw [Array.getElem?_eq_getElem (by rw [Array.size_modify]; exact hlt), Array.getElem_modify_self, hk]
  rfl

theorem set_1 {W : World} {b : Nat} {x0 y0 : Value} {t : TypeId} (h : W.heap[b]? = some (.cells #[x0, y0] t (0, 0))) (y : Value) : (W.setCell ⟨b, 1, none⟩ y).heap[b]? = some (.cells #[x0, y] t (0, 0)) := by
  obtain ⟨hlt, hk⟩ := Array.getElem?_eq_some_iff.1 h
  show (W.heap.modify b _)[b]? = _
  rw [Array.getElem?_eq_getElem (by rw [Array.size_modify]; exact hlt), Array.getElem_modify_self, hk]
  rfl

theorem set_two {W : World} {b : Nat} {x0 y0 : Value} {t : TypeId} (h : W.heap[b]? = some (.cells #[x0, y0] t (0, 0))) (x y : Value) :
    ((W.setCell ⟨b, 0, none⟩ x).setCell ⟨b, 1, none⟩ y).heap[b]? = some (.cells #[x, y] t (0, 0)) ∧ Upto b W ((W.setCell ⟨b, 0, none⟩ x).setCell ⟨b, 1, none⟩ y) :=
  ⟨set_1 (set_0 h x) y, ((Upto.refl b W).setCell _ (.inl rfl) _).setCell _ (.inl rfl) _⟩

/-- What lies below stays so behind a block that is laid, a cell of a new block that is written, a callee that writes nothing old. -/
theorem bw_alloc {w W : World} {o : Obj} (h : Below w.heap.size w W) : Below w.heap.size w (W.alloc o) := h.alloc h.size o

theorem bw_drew {w W : World} (h : Below w.heap.size w W) : Below w.heap.size w W.drew := ⟨h.os, h.tape, h.output, h.size, h.block⟩

theorem bw_set {w W : World} (h : Below w.heap.size w W) {p : Addr} (hp : w.heap.size ≤ p.block) (v : Value) : Below w.heap.size w (W.setCell p v) := h.setCell hp v

theorem bw_call {w W W' : World} (h : Below w.heap.size w W) (b : Below W.heap.size W W') : Below w.heap.size w W' := h.trans (b.mono h.size)

theorem addr_add (b j : Nat) : (⟨b, 0, none⟩ : Addr).add j = ⟨b, j, none⟩ := by unfold Addr.add; split <;> simp_all
end Go.Proofs.YtaekdfknkgmfbaaGreatDoor

namespace Go.Proofs.YtaekdfknkgmfbaaGreatDoor
open Go.RowKit

set_option linter.unusedVariables false

set_option maxRecDepth 100000


theorem calls_of_same {P : Program} {f : FuncId} {args : Array Value} {w : World} {v : Value} {p : BelowOf w}
    (h : Calls P f args p.w' fun e w' => e = .returned v ∧ w' = p.w') : Calls P f args p.w' fun e w'' => e = .returned v ∧ ∃ q : BelowOf w, w'' = q.w' :=
  h.mono fun _ w'' ⟨he, hk⟩ => ⟨he, p, hk⟩

theorem cells_add {w : World} {g off : Nat} {xs : List Value} (h : ∀ j u, xs[j]? = some u → w.cell? ⟨g, off + j, none⟩ = some u) : ∀ j u, xs[j]? = some u → w.cell? ((⟨g, off, none⟩ : Addr).add j) = some u := fun j u hj => by
  have e : (⟨g, off, none⟩ : Addr).add j = ⟨g, off + j, none⟩ := by unfold Addr.add; split <;> simp_all
  rw [e]; exact h j u hj

/-- Appending what is read, of whatever address, to a row of one's own. -/
theorem run_append_reads {P : Program} (w : World) (base : Nat) (t ty e : TypeId) (i : TypeInfo) (z : Value) (size bytes : Nat) (ht : P.underlying t = some (.slice e)) (hi : P.info? e = some i) (hz : i.zero = some z)
    (hsize : i.size = size) (hby : i.bytes = bytes) (hzs : z.cells.size = size) (hsz : 0 < size)
    (v : Value) (n : Nat) (xs : List Value) (hown : w.ownsRow base e size v n xs)
    (o : Option Addr) (m c : Nat) (news : List Value) (hl : news.length = m * size) (hnews : ∀ j u, news[j]? = some u → ∃ g off, o = some ⟨g, off, none⟩ ∧ w.cell? ⟨g, off + j, none⟩ = some u) (h1 : ∀ u ∈ news, u.oneCell' = true)
    (h63 : n + m ≤ maxLen) (hbytes : (n + m) * bytes ≤ 140737488355328) (hbase : base ≤ w.heap.size) :
    ∃ v' w', (Builtin.append_ #[t, t] ty #[v, .slice o m c]).run P w = .ok v' w' ∧ w'.ownsRow base e size v' (n + m) (xs ++ news) ∧ w.grownBy w' v.ownBlock ∧
      (v' = .slice none 0 0 ↔ v = .slice none 0 0 ∧ m = 0) := by
  cases o with
  | none =>
    have hn : news = [] := by
      cases news with
      | nil => rfl
      | cons a l => obtain ⟨_, _, h, _⟩ := hnews 0 a rfl; cases h
    subst hn
    have hm : m = 0 := by
      rcases Nat.eq_zero_or_pos m with h | h
      · exact h
      · have := Nat.mul_pos h hsz; simp at hl; omega
    subst hm
    refine ⟨v, w, ?_, by simpa using hown, ⟨rfl, rfl, rfl, Nat.le_refl _, fun _ _ _ => rfl⟩, by simp⟩
    rcases hown.2 with ⟨rfl, rfl⟩ | ⟨g, cap, cur, rfl, _, _, hnc, _⟩
    · simp [Builtin.append_, run_underlying ht, sizeOf, typeInfo, hi, Builtin.lenOf, Builtin.firstCells]
    · simp [Builtin.append_, run_underlying ht, sizeOf, typeInfo, hi, Builtin.lenOf, Builtin.firstCells, hnc, storeCells]
  | some ad =>
    refine run_append_own (P := P) w base t ty e i z size bytes ht hi hz hsize hby hzs hsz v n xs hown ad m c news hl (fun j u hj => ?_) h1 h63 hbytes hbase
    obtain ⟨g, off, hg, hc⟩ := hnews j u hj
    cases hg
    have ea : (⟨g, off, none⟩ : Addr).add j = ⟨g, off + j, none⟩ := by unfold Addr.add; split <;> simp_all
    rw [ea]; exact hc

theorem wp_append_reads {P : Program} {w : World} {o : Oper} {a : Act} {K : Act → World → Prop} {Q : Exit → Act → World → Prop} (s x : Operand) (t : TypeId)
    (ho : o.op = .call { callee := .builtin .append, args := #[s, x], argTypes := #[t, t] })
    (base : Nat) (e : TypeId) (i : TypeInfo) (z : Value) (size bytes : Nat) (ht : P.underlying t = some (.slice e)) (hi : P.info? e = some i) (hz : i.zero = some z)
    (hsize : i.size = size) (hby : i.bytes = bytes) (hzs : z.cells.size = size) (hsz : 0 < size)
    (v : Value) (n : Nat) (xs : List Value) (hs : a.eval s = v) (hown : w.ownsRow base e size v n xs)
    (ad : Option Addr) (m c : Nat) (news : List Value) (hx : a.eval x = .slice ad m c) (hl : news.length = m * size) (hnews : ∀ j u, news[j]? = some u → ∃ g off, ad = some ⟨g, off, none⟩ ∧ w.cell? ⟨g, off + j, none⟩ = some u) (h1 : ∀ u ∈ news, u.oneCell' = true)
    (h63 : n + m ≤ maxLen) (hbytes : (n + m) * bytes ≤ 140737488355328) (hbase : base ≤ w.heap.size)
    (h : ∀ v' w', w'.ownsRow base e size v' (n + m) (xs ++ news) → w.grownBy w' v.ownBlock → (v' = .slice none 0 0 ↔ v = .slice none 0 0 ∧ m = 0) → K (a.put o.dst v') w') : o.wp P a w K Q := by
  obtain ⟨v', w', hr, h2, h3, h4⟩ := run_append_reads (P := P) w base t o.type e i z size bytes ht hi hz hsize hby hzs hsz v n xs hown ad m c news hl hnews h1 h63 hbytes hbase
  unfold Oper.wp execOp
  simp only [ho, resolve, invoke, builtin, Sem.run_bind, Sem.run_pure, Result.andThen_ok, List.map_toArray, List.map_cons, List.map_nil, hs, hx, hr]
  exact h v' w' h2 h3 h4

theorem wpList_append_reads {P : Program} {w : World} {ops : Array Oper} {rest : List Oper} {o : Oper} {a : Act} {Q : Exit → Act → World → Prop} (hgd : o.guard = none) (s x : Operand) (t : TypeId)
    (ho : o.op = .call { callee := .builtin .append, args := #[s, x], argTypes := #[t, t] })
    (base : Nat) (e : TypeId) (i : TypeInfo) (z : Value) (size bytes : Nat) (ht : P.underlying t = some (.slice e)) (hi : P.info? e = some i) (hz : i.zero = some z)
    (hsize : i.size = size) (hby : i.bytes = bytes) (hzs : z.cells.size = size) (hsz : 0 < size)
    (v : Value) (n : Nat) (xs : List Value) (hs : a.eval s = v) (hown : w.ownsRow base e size v n xs)
    (ad : Option Addr) (m c : Nat) (news : List Value) (hx : a.eval x = .slice ad m c) (hl : news.length = m * size) (hnews : ∀ j u, news[j]? = some u → ∃ g off, ad = some ⟨g, off, none⟩ ∧ w.cell? ⟨g, off + j, none⟩ = some u) (h1 : ∀ u ∈ news, u.oneCell' = true)
    (h63 : n + m ≤ maxLen) (hbytes : (n + m) * bytes ≤ 140737488355328) (hbase : base ≤ w.heap.size)
    (h : ∀ v' w', w'.ownsRow base e size v' (n + m) (xs ++ news) → w.grownBy w' v.ownBlock → (v' = .slice none 0 0 ↔ v = .slice none 0 0 ∧ m = 0) → wpList P ops Q rest (a.put o.dst v') w') : wpList P ops Q (o :: rest) a w :=
  wpList_plain hgd fun _ hK => wp_append_reads s x t ho base e i z size bytes ht hi hz hsize hby hzs hsz v n xs hs hown ad m c news hx hl hnews h1 h63 hbytes hbase fun v' w' h2 h3 h4 => hK _ _ (h v' w' h2 h3 h4)

/-- Appending to what is read, where there is no room behind it: a new row. -/
theorem run_append_full {P : Program} (w : World) (base : Nat) (t ty e : TypeId) (i : TypeInfo) (z : Value) (size bytes : Nat) (ht : P.underlying t = some (.slice e)) (hi : P.info? e = some i) (hz : i.zero = some z)
    (hsize : i.size = size) (hby : i.bytes = bytes) (hzs : z.cells.size = size)
    (b : Addr) (n cap : Nat) (xs : List Value) (hlo : xs.length = n * size) (holds : ∀ j u, xs[j]? = some u → w.cell? (b.add j) = some u)
    (a : Addr) (m c : Nat) (news : List Value) (hl : news.length = m * size) (hnews : ∀ j u, news[j]? = some u → w.cell? (a.add j) = some u)
    (hg : cap < n + m) (h63 : n + m ≤ maxLen) (hbytes : (n + m) * bytes ≤ 140737488355328) (hbase : base ≤ w.heap.size) :
    ∃ v' w', (Builtin.append_ #[t, t] ty #[.slice (some b) n cap, .slice (some a) m c]).run P w = .ok v' w' ∧ w'.ownsRow base e size v' (n + m) (xs ++ news) ∧ w.grownBy w' none ∧ v' ≠ .slice none 0 0 := by
  subst hsize
  subst hby
  have hsmall : n + m ≤ 9223372036854775807 := by simp only [maxLen] at h63; omega
  have hlen : (xs ++ news).length = (n + m) * i.size := by rw [List.length_append, hlo, hl, Nat.add_mul]
  have hr := run_append_grow (P := P) w t ty e i z ht hi hz b n cap xs hlo holds a m c news hl hnews hg (by omega) (growslice_fits hg hbytes)
  have hge := grownCap_ge w (n + m) cap e
  have hcm : grownCap w (n + m) cap e ≤ maxLen := grownCap_le_maxLen w (n + m) cap e h63
  refine ⟨_, _, hr, ⟨hlen, .inr ⟨w.heap.size, _, _, rfl, hbase, heap_alloc_new w.drew _, hge, hcm, ?_, ?_⟩⟩, ⟨rfl, rfl, rfl, by simp, fun k hk _ => Below.heap_alloc w.drew _ k hk⟩, by simp⟩
  · simp only [Array.size_append, List.size_toArray, size_zeroCells, hzs, hlo, hl, ← Nat.add_mul]
    congr 1
    omega
  · simp only [Array.toList_append, List.append_assoc]
    rw [← List.append_assoc, ← hlen]
    exact List.take_left

theorem wpList_append_full {P : Program} {w : World} {ops : Array Oper} {rest : List Oper} {o : Oper} {a : Act} {Q : Exit → Act → World → Prop} (hgd : o.guard = none) (s x : Operand) (t : TypeId)
    (ho : o.op = .call { callee := .builtin .append, args := #[s, x], argTypes := #[t, t] })
    (base : Nat) (e : TypeId) (i : TypeInfo) (z : Value) (size bytes : Nat) (ht : P.underlying t = some (.slice e)) (hi : P.info? e = some i) (hz : i.zero = some z)
    (hsize : i.size = size) (hby : i.bytes = bytes) (hzs : z.cells.size = size)
    (b : Addr) (n cap : Nat) (xs : List Value) (hs : a.eval s = .slice (some b) n cap) (hlo : xs.length = n * size) (holds : ∀ j u, xs[j]? = some u → w.cell? (b.add j) = some u)
    (ad : Addr) (m c : Nat) (news : List Value) (hx : a.eval x = .slice (some ad) m c) (hl : news.length = m * size) (hnews : ∀ j u, news[j]? = some u → w.cell? (ad.add j) = some u)
    (hg : cap < n + m) (h63 : n + m ≤ maxLen) (hbytes : (n + m) * bytes ≤ 140737488355328) (hbase : base ≤ w.heap.size)
    (h : ∀ v' w', w'.ownsRow base e size v' (n + m) (xs ++ news) → w.grownBy w' none → v' ≠ .slice none 0 0 → wpList P ops Q rest (a.put o.dst v') w') : wpList P ops Q (o :: rest) a w :=
  wpList_plain hgd fun K hK => by
    obtain ⟨v', w', hr, h2, h3, h4⟩ := run_append_full (P := P) w base t o.type e i z size bytes ht hi hz hsize hby hzs b n cap xs hlo holds ad m c news hl hnews hg h63 hbytes hbase
    have hKK := hK _ _ (h v' w' h2 h3 h4)
    unfold Oper.wp execOp
    simp only [ho, resolve, invoke, builtin, Sem.run_bind, Sem.run_pure, Result.andThen_ok, List.map_toArray, List.map_cons, List.map_nil, hs, hx, hr]
    exact hKK

theorem Reads.grown {B : Nat} {w w' : World} {row : Option Nat} {v : Value} {xs : List Value} (h : Reads B w v xs) (hg : w.grownBy w' row) (hB : B ≤ w.heap.size) (hr : ∀ k, row = some k → B ≤ k) : Reads B w' v xs :=
  h.below ((Below.refl B w).grown hg hB hr)

theorem Reads.len {B : Nat} {w : World} {v : Value} {xs : List Value} (h : Reads B w v xs) : xs.length ≤ maxLen := by
  obtain ⟨_, _, _, h, _⟩ := h; exact h

theorem Reads.none (B : Nat) (w : World) : Reads B w (.slice none 0 0) [] := ⟨Option.none, 0, rfl, Nat.zero_le _, fun j u hj => by simp at hj, Nat.le_refl _⟩

theorem owns_nil (w : World) (base : Nat) (e : TypeId) (size : Nat) : w.ownsRow base e size (.slice none 0 0) 0 [] := World.ownsRow_nil w base e size

/-- All blocks that were there are as they were, but for those of S. -/
structure Only (S : Nat → Prop) (w w' : World) : Prop where
  os : w'.os = w.os
  tape : w'.tape = w.tape
  output : w'.output = w.output
  size : w.heap.size ≤ w'.heap.size
  block : ∀ k, k < w.heap.size → ¬ S k → w'.heap[k]? = w.heap[k]?

theorem Only.refl (S : Nat → Prop) (w : World) : Only S w w := ⟨rfl, rfl, rfl, Nat.le_refl _, fun _ _ _ => rfl⟩

theorem Only.trans {S : Nat → Prop} {a b d : World} (h : Only S a b) (k : Only S b d) : Only S a d :=
  ⟨k.os.trans h.os, k.tape.trans h.tape, k.output.trans h.output, Nat.le_trans h.size k.size, fun i hi hc => (k.block i (Nat.lt_of_lt_of_le hi h.size) hc).trans (h.block i hi hc)⟩

theorem Only.below {S : Nat → Prop} {a w w' : World} (h : Only S a w) (k : Below w.heap.size w w') : Only S a w' :=
  ⟨k.os.trans h.os, k.tape.trans h.tape, k.output.trans h.output, Nat.le_trans h.size k.size, fun i hi hc => (k.block i (Nat.lt_of_lt_of_le hi h.size)).trans (h.block i hi hc)⟩

theorem Only.setCell {S : Nat → Prop} {a w : World} (h : Only S a w) (p : Addr) (hp : S p.block) (u : Value) : Only S a (w.setCell p u) :=
  ⟨h.os, h.tape, h.output, by simpa [World.setCell] using h.size, fun i hi hc => (Below.heap_setCell w p u i (fun e => hc (by rw [e]; exact hp))).trans (h.block i hi hc)⟩

theorem Only.toBelow {S : Nat → Prop} {B : Nat} {w w' : World} (h : Only S w w') (hB : B ≤ w.heap.size) (hS : ∀ k, S k → B ≤ k) : Below B w w' :=
  ⟨h.os, h.tape, h.output, h.size, fun k hk => h.block k (by omega) (fun hs => by have := hS k hs; omega)⟩

theorem Only.mono {S S' : Nat → Prop} {w w' : World} (h : Only S w w') (hS : ∀ k, S k → S' k) : Only S' w w' := ⟨h.os, h.tape, h.output, h.size, fun k hk hn => h.block k hk (fun hs => hn (hS k hs))⟩

theorem own_slice {w : World} {base : Nat} {e : TypeId} {size : Nat} {v : Value} {n : Nat} {xs : List Value} (h : w.ownsRow base e size v n xs) : ∃ o cap, v = .slice o n cap := by
  rcases h.2 with ⟨rfl, rfl⟩ | ⟨g, cap, cur, rfl, _⟩
  · exact ⟨_, _, rfl⟩
  · exact ⟨_, _, rfl⟩

theorem heap_lt {w : World} {b : Nat} {o : Obj} (h : w.heap[b]? = some o) : b < w.heap.size := (Array.getElem?_eq_some_iff.1 h).1

/-- A row of one's own stays where another block is written. -/
theorem own_only {S : Nat → Prop} {w w' : World} {base : Nat} {e : TypeId} {size : Nat} {v : Value} {n : Nat} {xs : List Value} (h : w.ownsRow base e size v n xs) (k : Only S w w') (hv : ∀ g, v.ownBlock = some g → ¬ S g) : w'.ownsRow base e size v n xs := by
  obtain ⟨h1, h2⟩ := h
  refine ⟨h1, ?_⟩
  rcases h2 with h2 | ⟨g, cap, cur, rfl, hg, hh, r⟩
  · exact Or.inl h2
  · exact Or.inr ⟨g, cap, cur, rfl, hg, by rw [k.block g (heap_lt hh) (hv g rfl)]; exact hh, r⟩

/-- A row's block and a box of another type are two. -/
theorem own_not_box {w : World} {base : Nat} {e : TypeId} {size : Nat} {v : Value} {n : Nat} {xs : List Value} {b : Nat} {cs : Array Value} {t : TypeId} (h : w.ownsRow base e size v n xs) (k : w.heap[b]? = some (.cells cs t (0, 0))) (ht : t ≠ e) : v.ownBlock ≠ some b := by
  intro hv
  rcases h.2 with ⟨rfl, _⟩ | ⟨g, cap, cur, rfl, hg, hh, r⟩
  · cases hv
  · simp [Value.ownBlock] at hv
    subst hv
    rw [k] at hh
    simp at hh
    exact ht hh.2

/-- All blocks that were there are as they were, but for those from lo up to hi. -/
structure Rng (lo hi : Nat) (w w' : World) : Prop where
  os : w'.os = w.os
  tape : w'.tape = w.tape
  output : w'.output = w.output
  size : w.heap.size ≤ w'.heap.size
  block : ∀ k, k < w.heap.size → (k < lo ∨ hi ≤ k) → w'.heap[k]? = w.heap[k]?

theorem Rng.refl (lo hi : Nat) (w : World) : Rng lo hi w w := ⟨rfl, rfl, rfl, Nat.le_refl _, fun _ _ _ => rfl⟩

theorem Rng.trans {lo hi : Nat} {a b d : World} (h : Rng lo hi a b) (k : Rng lo hi b d) : Rng lo hi a d :=
  ⟨k.os.trans h.os, k.tape.trans h.tape, k.output.trans h.output, Nat.le_trans h.size k.size, fun i hi hc => (k.block i (Nat.lt_of_lt_of_le hi h.size) hc).trans (h.block i hi hc)⟩

theorem Rng.ofBelow {lo hi : Nat} {w w' : World} (k : Below w.heap.size w w') : Rng lo hi w w' := ⟨k.os, k.tape, k.output, k.size, fun i hi _ => k.block i hi⟩

theorem Rng.toBelow {lo hi B : Nat} {w w' : World} (h : Rng lo hi w w') (hB : B ≤ w.heap.size) (hl : B ≤ lo) : Below B w w' :=
  ⟨h.os, h.tape, h.output, h.size, fun k hk => h.block k (by omega) (.inl (by omega))⟩

/-- A row of one's own stays where a range is written of which its block is none. -/
theorem own_rng_not {w w' : World} {base : Nat} {e : TypeId} {size : Nat} {v : Value} {n : Nat} {xs : List Value} (h : w.ownsRow base e size v n xs) (k : ∀ g, g < w.heap.size → v.ownBlock = some g → w'.heap[g]? = w.heap[g]?) : w'.ownsRow base e size v n xs := by
  obtain ⟨h1, h2⟩ := h
  refine ⟨h1, ?_⟩
  rcases h2 with h2 | ⟨g, cap, cur, rfl, hg, hh, r⟩
  · exact Or.inl h2
  · exact Or.inr ⟨g, cap, cur, rfl, hg, by rw [k g (heap_lt hh) rfl]; exact hh, r⟩

/-- Boxes laid one behind the other. -/
theorem box1 (w : World) (a : Array Value) (T : TypeId) : ∃ W0, W0 = w.alloc (.cells a T) ∧ W0.heap[w.heap.size]? = some (.cells a T (0, 0)) ∧ Below w.heap.size w W0 ∧ W0.heap.size = w.heap.size + 1 :=
  ⟨_, rfl, heap_alloc_new w _, bw_alloc (Below.refl _ _), by simp⟩

theorem box2 (w : World) (a b : Array Value) (T U : TypeId) : ∃ W0, W0 = (w.alloc (.cells a T)).alloc (.cells b U) ∧ W0.heap[w.heap.size]? = some (.cells a T (0, 0)) ∧ W0.heap[w.heap.size + 1]? = some (.cells b U (0, 0)) ∧ Below w.heap.size w W0 ∧ W0.heap.size = w.heap.size + 1 + 1 := by
  obtain ⟨W1, h1, k1, d1, s1⟩ := box1 w a T
  have k2 := heap_alloc_new W1 (.cells b U)
  rw [s1] at k2
  rw [← h1]
  exact ⟨_, rfl, (Below.heap_alloc _ _ _ (by omega)).trans k1, k2, bw_alloc d1, by simp [s1]⟩

theorem box3 (w : World) (a b c : Array Value) (T U V : TypeId) : ∃ W0, W0 = ((w.alloc (.cells a T)).alloc (.cells b U)).alloc (.cells c V) ∧ W0.heap[w.heap.size]? = some (.cells a T (0, 0)) ∧ W0.heap[w.heap.size + 1]? = some (.cells b U (0, 0)) ∧ W0.heap[w.heap.size + 1 + 1]? = some (.cells c V (0, 0)) ∧ Below w.heap.size w W0 ∧ W0.heap.size = w.heap.size + 1 + 1 + 1 := by
  obtain ⟨W1, h1, k1, k1', d1, s1⟩ := box2 w a b T U
  have k2 := heap_alloc_new W1 (.cells c V)
  rw [s1] at k2
  rw [← h1]
  exact ⟨_, rfl, (Below.heap_alloc _ _ _ (by omega)).trans k1, (Below.heap_alloc _ _ _ (by omega)).trans k1', k2, bw_alloc d1, by simp [s1]⟩
end Go.Proofs.YtaekdfknkgmfbaaGreatDoor

namespace Go.Proofs.YtaekdfknkgmfbaaGreatDoor
open Go.RowKit Go.Extern.Stop Go.Stop Go.Extern

set_option linter.unusedVariables false

set_option maxRecDepth 100000


/-! ### Closed facts: what errors.Is asks of the types -/
theorem Tryz.isTypeOf (v : Value) (w : World) : (Extern.ReflectliteType.typeOf #[.iface 312 v]).run Tryz.prog w = .ok (.iface 207 (.agg #[.pointer (some ⟨12, 312, none⟩)])) w := by kernel_rfl

theorem Tryz.callComparable (w : World) : (callFunc 304 #[.agg #[.pointer (some ⟨12, 312, none⟩)]]).run Tryz.prog w = .ok (.value (.bool true)) w := by
  rw [@run_callFunc_extern Tryz.prog 304 _ (Extern.ReflectliteType.method fun t => do Extern.Rtype.noPackHeld "Comparable" t; pure (.bool (← typeInfo t).comparable)) Tryz.func304 (by kernel_rfl) (by kernel_rfl) (by kernel_rfl) (by kernel_rfl)]
  kernel_rfl

theorem Tryz.isMethodComparable (v : Value) (w : World) : (Go.method 444 207 v "Comparable").run Tryz.prog w = .ok (304, v) w := by kernel_rfl

theorem Tryz.isComp : (Tryz.prog.info? 312).map (·.comparable) = some true := by kernel_rfl

theorem Tryz.isSize : (Tryz.prog.info? 332).map (·.size) = some 1 := by kernel_rfl

theorem Tryz.noIsE (v : Value) (xT : TypeId) (w : World) : (Instr.typeAssert (.iface 312 v) xT 209 true).run Tryz.prog w = .ok (.tuple #[.nilIface, .bool false]) w := run_typeAssert_lacksB Tryz.underlying209 (by kernel_rfl) (by kernel_rfl) v xT w

theorem Tryz.noUnwrapE (v : Value) (xT : TypeId) (w : World) : (Instr.typeAssert (.iface 312 v) xT 212 true).run Tryz.prog w = .ok (.tuple #[.nilIface, .bool false]) w := run_typeAssert_lacksB Tryz.underlying212 (by kernel_rfl) (by kernel_rfl) v xT w

theorem Tryz.noUnwrapsE (v : Value) (xT : TypeId) (w : World) : (Instr.typeAssert (.iface 312 v) xT 214 true).run Tryz.prog w = .ok (.tuple #[.nilIface, .bool false]) w := run_typeAssert_lacksB Tryz.underlying214 (by kernel_rfl) (by kernel_rfl) v xT w

theorem Tryz.noIsW (v : Value) (xT : TypeId) (w : World) : (Instr.typeAssert (.iface 147 v) xT 209 true).run Tryz.prog w = .ok (.tuple #[.nilIface, .bool false]) w := run_typeAssert_lacksB Tryz.underlying209 (by kernel_rfl) (by kernel_rfl) v xT w

theorem Tryz.hasUnwrapW (v : Value) (xT : TypeId) (w : World) : (Instr.typeAssert (.iface 147 v) xT 212 true).run Tryz.prog w = .ok (.tuple #[.iface 147 v, .bool true]) w := run_typeAssert_hasB Tryz.underlying212 (by kernel_rfl) v xT w

theorem Tryz.methodUnwrap (v : Value) (w : World) : (Go.method 444 147 v "Unwrap").run Tryz.prog w = .ok (301, v) w := by kernel_rfl

/-- A refusal's reason. -/
theorem unwrap_any (c : Int) (t : TypeId) (v : Value) (w : World) :
    Calls Tryz.prog 301 #[.agg #[.int .i64 c, .iface t v]] w fun e w' => e = .returned (.iface t v) ∧ w' = w.alloc (.cells #[.int .i64 c, .iface t v] 147) := by
  go_enter Tryz.func301, Tryz.ntmps301
  go_wp2
  go_ret
  exact ⟨rfl, rfl⟩

set_option maxHeartbeats 1600000 in
/-- errors.Is(a refusal that wraps x, x). -/
theorem is_ref_same (c : Int) (b : Addr) (w : World) :
    Calls Tryz.prog 62 #[.iface 147 (.agg #[.int .i64 c, .iface 312 (.pointer (some b))]), .iface 312 (.pointer (some b))] w fun e w' => e = .returned (.bool true) ∧ Below w.heap.size w w' := by
  obtain ⟨i, hi, hcmp⟩ := Option.map_eq_some_iff.1 Tryz.isComp
  obtain ⟨j, hj, hjs⟩ := Option.map_eq_some_iff.1 Tryz.isSize
  have h8 := @run_callFunc_extern Tryz.prog 127 _ Extern.ReflectliteType.typeOf Tryz.func127 (by kernel_rfl) (by kernel_rfl) (by kernel_rfl) (by kernel_rfl)
  have tT := Tryz.isTypeOf
  have cT := Tryz.callComparable
  have mR := Tryz.isMethodComparable
  have nE := Tryz.noIsE
  have uE := Tryz.noUnwrapE
  have vE := Tryz.noUnwrapsE
  have nW := Tryz.noIsW
  have uW := Tryz.hasUnwrapW
  have mU := Tryz.methodUnwrap
  have heq : ∀ w : World, _ := fun w => run_eql_iface_ptr_same (P := Tryz.prog) w b Tryz.underlying92 Tryz.underlying312 hi hcmp hj
  have hty := run_eql_iface_types (P := Tryz.prog) 147 312 (.agg #[.int .i64 c, .iface 312 (.pointer (some b))]) (.pointer (some b)) Tryz.underlying92 (by decide)
  go_enter Tryz.func62, Tryz.ntmps62
  go_wp2
  refine wp_loop_rounds 2 ?_
  rw [rounds_succ]
  go_wp2_with (go_at_call 301; refine (unwrap_any c _ _ _).mono ?_; rintro e w' ⟨rfl, rfl⟩)
  rw [rounds_succ]
  go_wp2
  go_ret
  exact ⟨rfl, bw_alloc (Below.refl _ _)⟩

set_option maxHeartbeats 1600000 in
/-- errors.Is(a refusal that wraps another sentinel, x). -/
theorem is_ref_other (c : Int) (a b : Addr) (ca cb : Array Value) (ta tb : TypeId) (w : World) (hne : a ≠ b) (ha : w.heap[a.block]? = some (.cells ca ta (0, 0))) (hb : w.heap[b.block]? = some (.cells cb tb (0, 0))) :
    Calls Tryz.prog 62 #[.iface 147 (.agg #[.int .i64 c, .iface 312 (.pointer (some a))]), .iface 312 (.pointer (some b))] w fun e w' => e = .returned (.bool false) ∧ Below w.heap.size w w' := by
  obtain ⟨i, hi, hcmp⟩ := Option.map_eq_some_iff.1 Tryz.isComp
  obtain ⟨j, hj, hjs⟩ := Option.map_eq_some_iff.1 Tryz.isSize
  have h8 := @run_callFunc_extern Tryz.prog 127 _ Extern.ReflectliteType.typeOf Tryz.func127 (by kernel_rfl) (by kernel_rfl) (by kernel_rfl) (by kernel_rfl)
  have tT := Tryz.isTypeOf
  have cT := Tryz.callComparable
  have mR := Tryz.isMethodComparable
  have nE := Tryz.noIsE
  have uE := Tryz.noUnwrapE
  have vE := Tryz.noUnwrapsE
  have nW := Tryz.noIsW
  have uW := Tryz.hasUnwrapW
  have mU := Tryz.methodUnwrap
  have bw : Below w.heap.size w (w.alloc (.cells #[.int .i64 c, .iface 312 (.pointer (some a))] 147)) := bw_alloc (Below.refl _ _)
  have heq := run_eql_iface_ptr_other (P := Tryz.prog) (w.alloc (.cells #[.int .i64 c, .iface 312 (.pointer (some a))] 147)) Tryz.underlying92 Tryz.underlying312 hi hcmp hj (by rw [hjs]; decide) hne ((bw.block _ (heap_lt ha)).trans ha) ((bw.block _ (heap_lt hb)).trans hb)
  have hty := run_eql_iface_types (P := Tryz.prog) 147 312 (.agg #[.int .i64 c, .iface 312 (.pointer (some a))]) (.pointer (some b)) Tryz.underlying92 (by decide)
  go_enter Tryz.func62, Tryz.ntmps62
  go_wp2
  refine wp_loop_rounds 2 ?_
  rw [rounds_succ]
  go_wp2_with (go_at_call 301; refine (unwrap_any c _ _ _).mono ?_; rintro e w' ⟨rfl, rfl⟩)
  rw [rounds_succ]
  go_wp2
  go_ret
  exact ⟨rfl, bw_alloc (Below.refl _ _)⟩
end Go.Proofs.YtaekdfknkgmfbaaGreatDoor

namespace Go.Proofs.YtaekdfknkgmfbaaGreatDoor
open Go.RowKit Go.Extern.Stop Go.Stop Go.Extern

set_option linter.unusedVariables false

set_option maxRecDepth 100000


/-! ### Closed facts on the model's entries for internal/reflectlite -/
theorem Tryz.asValueP (t : Addr) (w : World) : (callFunc 190 #[.iface 155 (.pointer (some t))]).run Tryz.prog w = .ok (.value (.agg #[.pointer (some ⟨12, 155, none⟩), .pointer (some ⟨w.heap.size, 0, none⟩), .int .u64 150])) (w.alloc (.cells #[.pointer (some t)] 155)) := by kernel_rfl

theorem Tryz.asValueS (c y : Value) (hc : c.oneCell' = true) (hy : y.oneCell' = true) (w : World) : (callFunc 190 #[.iface 147 (.agg #[c, y])]).run Tryz.prog w = .ok (.value (.agg #[.pointer (some ⟨12, 147, none⟩), .pointer (some ⟨w.heap.size, 0, none⟩), .int .u64 153])) (w.alloc (.cells #[c, y] 147)) := by kernel_rfl

theorem Tryz.asTypeP (a : Addr) (w : World) : (callFunc 191 #[.agg #[.pointer (some ⟨12, 155, none⟩), .pointer (some a), .int .u64 150]]).run Tryz.prog w = .ok (.value (.iface 207 (.agg #[.pointer (some ⟨12, 155, none⟩)]))) w := by kernel_rfl

theorem Tryz.methodKind (h : Value) (w : World) : (Go.method 444 207 (.agg #[h]) "Kind").run Tryz.prog w = .ok (293, h) w := by kernel_rfl

theorem Tryz.methodElem (h : Value) (w : World) : (Go.method 444 207 (.agg #[h]) "Elem").run Tryz.prog w = .ok (305, .agg #[h]) w := by kernel_rfl

theorem Tryz.methodImplements (h : Value) (w : World) : (Go.method 444 207 (.agg #[h]) "Implements").run Tryz.prog w = .ok (306, .agg #[h]) w := by kernel_rfl

theorem Tryz.methodAssignableTo (h : Value) (w : World) : (Go.method 444 207 (.agg #[h]) "AssignableTo").run Tryz.prog w = .ok (303, .agg #[h]) w := by kernel_rfl

theorem Tryz.kindP (w : World) : (callFunc 293 #[.pointer (some ⟨12, 155, none⟩)]).run Tryz.prog w = .ok (.value (.int .u8 22)) w := by kernel_rfl

theorem Tryz.kindS (w : World) : (callFunc 293 #[.pointer (some ⟨12, 147, none⟩)]).run Tryz.prog w = .ok (.value (.int .u8 25)) w := by kernel_rfl

theorem Tryz.elemP (w : World) : (callFunc 305 #[.agg #[.pointer (some ⟨12, 155, none⟩)]]).run Tryz.prog w = .ok (.value (.iface 207 (.agg #[.pointer (some ⟨12, 147, none⟩)]))) w := by kernel_rfl

theorem Tryz.implementsS (w : World) : (callFunc 306 #[.agg #[.pointer (some ⟨12, 147, none⟩)], .iface 207 (.agg #[.pointer (some ⟨12, 92, none⟩)])]).run Tryz.prog w = .ok (.value (.bool true)) w := by kernel_rfl

theorem Tryz.typeOfS (v : Value) (w : World) : (callFunc 127 #[.iface 147 v]).run Tryz.prog w = .ok (.value (.iface 207 (.agg #[.pointer (some ⟨12, 147, none⟩)]))) w := by kernel_rfl

theorem Tryz.assignableS (w : World) : (callFunc 303 #[.agg #[.pointer (some ⟨12, 147, none⟩)], .iface 207 (.agg #[.pointer (some ⟨12, 147, none⟩)])]).run Tryz.prog w = .ok (.value (.bool true)) w := by kernel_rfl

/-! ### The entries that read or write memory -/
theorem rlm (z : Sem Value) (f : TypeId → Addr → Nat → Nat → Sem Value) (v : Value) :
    ReflectliteValue.method z f #[v] = (do match ← ReflectliteValue.parts v with | none => z | some (t, a, fl) => f t a fl (fl % 32)) := rfl

theorem Tryz.partsP (a : Addr) (w : World) : (ReflectliteValue.parts (.agg #[.pointer (some ⟨12, 155, none⟩), .pointer (some a), .int .u64 150])).run Tryz.prog w = .ok (some (155, a, 150)) w := by kernel_rfl

theorem Tryz.isNilP (a p : Addr) (W : World) (ha : W.cell? a = some (.pointer (some p))) :
    (callFunc 192 #[.agg #[.pointer (some ⟨12, 155, none⟩), .pointer (some a), .int .u64 150]]).run Tryz.prog W = .ok (.value (.bool false)) W := by
  rw [@run_callFunc_extern Tryz.prog 192 _ (ReflectliteValue.method (ReflectliteValue.valueError "reflectlite.Value.IsNil" 0) ReflectliteValue.isNil) Tryz.func192 (by kernel_rfl) (by kernel_rfl) (by kernel_rfl) (by kernel_rfl), rlm]
  simp only [Sem.run_bind, Tryz.partsP, Result.andThen]
  simp [ReflectliteValue.isNil, loadVar, isAgg, underlying, Tryz.underlying155, ha, Result.andThen]

theorem Tryz.elemOfP (w : World) : (Rtype.elem? 155).run Tryz.prog w = .ok (some 147) w := by kernel_rfl

theorem Tryz.mkS (p : Addr) (w : World) : (ReflectliteValue.mk 147 p ReflectliteValue.flagAddr).run Tryz.prog w = .ok (.agg #[.pointer (some ⟨12, 147, none⟩), .pointer (some p), .int .u64 409]) w := by kernel_rfl

theorem Tryz.elemVP (a p : Addr) (W : World) (ha : W.cell? a = some (.pointer (some p))) :
    (callFunc 227 #[.agg #[.pointer (some ⟨12, 155, none⟩), .pointer (some a), .int .u64 150]]).run Tryz.prog W = .ok (.value (.agg #[.pointer (some ⟨12, 147, none⟩), .pointer (some p), .int .u64 409])) W := by
  rw [@run_callFunc_extern Tryz.prog 227 _ (ReflectliteValue.method (ReflectliteValue.valueError "reflectlite.Value.Elem" 0) ReflectliteValue.elem) Tryz.func227 (by kernel_rfl) (by kernel_rfl) (by kernel_rfl) (by kernel_rfl), rlm]
  simp only [Sem.run_bind, Tryz.partsP, Result.andThen]
  simp [ReflectliteValue.elem, loadVar, isAgg, underlying, Tryz.underlying155, ha, Result.andThen, Tryz.elemOfP, Tryz.mkS]
end Go.Proofs.YtaekdfknkgmfbaaGreatDoor

namespace Go.Proofs.YtaekdfknkgmfbaaGreatDoor
open Go.RowKit

set_option linter.unusedVariables false

set_option maxRecDepth 100000


theorem wpList_load_arr {P : Program} {w : World} {ops : Array Oper} {rest : List Oper} {o : Oper} {a : Act} {Q : Exit → Act → World → Prop} (hgd : o.guard = none) (p : Operand) (t : TypeId) (ho : o.op = .load t p)
    (g : Nat) (hp : a.eval p = .pointer (some ⟨g, 0, none⟩)) (cs : Array Value) (ty : TypeId) (fr : Nat × Nat) (hg : w.heap[g]? = some (.cells cs ty fr)) (d : TypeDesc) (hu : P.underlying t = some d)
    (hd : (match d with | .struct _ | .array _ _ => true | _ => false) = true) (hi : (P.info? t).map (·.size) = some cs.size)
    (h : wpList P ops Q rest (a.put o.dst (.agg cs)) w) : wpList P ops Q (o :: rest) a w :=
  wpList_plain hgd fun K hK => by
    have hKK := hK _ _ h
    have hr := run_loadVar_row (P := P) w g ty t cs fr d hg hu hd hi
    unfold Oper.wp execOp
    simp only [ho, hp, Instr.loadAt, Instr.sureAddr, Sem.run_bind, Sem.run_pure, Result.andThen_ok, hr]
    exact hKK

theorem wpList_store_arr {P : Program} {w : World} {ops : Array Oper} {rest : List Oper} {o : Oper} {a : Act} {Q : Exit → Act → World → Prop} (hgd : o.guard = none) (p x : Operand) (t : TypeId) (ho : o.op = .store t p x)
    (g : Nat) (hp : a.eval p = .pointer (some ⟨g, 0, none⟩)) (cs : Array Value) (hx : a.eval x = .agg cs) (old : Array Value) (ty : TypeId) (hg : w.heap[g]? = some (.cells old ty (0, 0)))
    (hi : (P.info? t).map (·.size) = some cs.size) (hs : old.size = cs.size) (h1 : cs.all (·.oneCell') = true)
    (h : wpList P ops Q rest (a.put o.dst undef) (w.setRow g cs)) : wpList P ops Q (o :: rest) a w :=
  wpList_plain hgd fun K hK => by
    have hKK := hK _ _ h
    have hr := run_storeVar_row (P := P) w g ty t old cs hg hi hs h1
    unfold Oper.wp execOp
    simp only [ho, hp, hx, Instr.storeAt, Instr.sureAddr, Sem.run_bind, Sem.run_pure, Result.andThen_ok, hr]
    exact hKK

theorem setRow_row {w : World} {g : Nat} {old cs : Array Value} {ty : TypeId} {fr : Nat × Nat} (hg : w.heap[g]? = some (.cells old ty fr)) : (w.setRow g cs).heap[g]? = some (.cells cs ty fr) := by
  simp only [World.setRow, Array.getElem?_modify, hg, if_true]
  rfl

theorem setRow_below {w : World} {g B : Nat} {cs : Array Value} (h : B ≤ g) : Below B w (w.setRow g cs) := by
  refine ⟨rfl, rfl, rfl, by simp [World.setRow], fun k hk => ?_⟩
  simp only [World.setRow, Array.getElem?_modify]
  rw [if_neg (by omega)]

/-- The cells of a row that fills its block. -/
theorem own_cells {w : World} {base g n : Nat} {e : TypeId} {xs : List Value} (h : w.ownsRow base e 1 (.slice (some ⟨g, 0, none⟩) n n) n xs) : ∃ cur : Array Value, w.heap[g]? = some (.cells cur e (0, 0)) ∧ cur.toList = xs := by
  rcases h.2 with ⟨h', _⟩ | ⟨g', cap', cur, h', _, hg, _, _, hs, ht⟩
  · simp at h'
  · simp only [Value.slice.injEq, Option.some.injEq, Addr.mk.injEq, and_true, true_and] at h'
    obtain ⟨rfl, rfl⟩ := h'
    refine ⟨cur, hg, ?_⟩
    rw [← ht, List.take_of_length_le]
    rw [Array.length_toList, hs]
    exact Nat.le_refl _

theorem one_cells (xs : List Int) (c : Array Value) (h : c.toList = xs.map (Value.int .i64)) : c.all (·.oneCell') = true := by
  rw [Array.all_eq_true_iff_forall_mem]
  intro u hu
  have : u ∈ c.toList := by simpa using hu
  rw [h] at this
  obtain ⟨x, _, rfl⟩ := List.mem_map.1 this
  rfl
end Go.Proofs.YtaekdfknkgmfbaaGreatDoor

namespace Go.Proofs.YtaekdfknkgmfbaaGreatDoor
open Go.RowKit Go.Extern.Stop Go.Stop Go.Extern

set_option linter.unusedVariables false

set_option maxRecDepth 100000


theorem rls (v x : Value) : ReflectliteValue.set #[v, x] = (do
    let (some (dst, a, fl), some (src, b, _)) := (← ReflectliteValue.parts v, ← ReflectliteValue.parts x)
      | unsupported (.noEntry "extern/(internal/reflectlite.Value).Set.zeroValue")
    if fl / ReflectliteValue.flagAddr % 2 == 0 then unsupported (.noEntry "extern/(internal/reflectlite.Value).Set.unaddressable")
    let val ← loadVar src b
    if ← Rtype.directlyAssignable dst src then storeVar dst a val
    else if ← Rtype.implements dst src then
      if (← Rtype.kind src) == 20 then
        match val with
        | .nilIface => unsupported (.noEntry "extern/reflectlite: a nil value of one interface type handed on as a value of another")
        | _ => storeVar dst a val
      else storeVar dst a (.iface src val)
    else panicString ("reflectlite.Set: value of type " ++ (← Rtype.spelt src) ++ " is not assignable to type " ++ (← Rtype.spelt dst))
    pure (.tuple #[])) := rfl

theorem Tryz.partsSa (a : Addr) (w : World) : (ReflectliteValue.parts (.agg #[.pointer (some ⟨12, 147, none⟩), .pointer (some a), .int .u64 409])).run Tryz.prog w = .ok (some (147, a, 409)) w := by kernel_rfl

theorem Tryz.partsS (a : Addr) (w : World) : (ReflectliteValue.parts (.agg #[.pointer (some ⟨12, 147, none⟩), .pointer (some a), .int .u64 153])).run Tryz.prog w = .ok (some (147, a, 153)) w := by kernel_rfl

theorem Tryz.directS (w : World) : (Rtype.directlyAssignable 147 147).run Tryz.prog w = .ok true w := by kernel_rfl

theorem Tryz.infoRef : (Tryz.prog.info? 147).map (·.size) = some 2 := by kernel_rfl

theorem Tryz.setS (t b : Nat) (x0 x1 o0 o1 : Value) (W : World) (hb : W.heap[b]? = some (.cells #[x0, x1] 147 (0, 0))) (ht : W.heap[t]? = some (.cells #[o0, o1] 147 (0, 0))) (h1 : x0.oneCell' = true) (h2 : x1.oneCell' = true) :
    (callFunc 228 #[.agg #[.pointer (some ⟨12, 147, none⟩), .pointer (some ⟨t, 0, none⟩), .int .u64 409], .agg #[.pointer (some ⟨12, 147, none⟩), .pointer (some ⟨b, 0, none⟩), .int .u64 153]]).run Tryz.prog W
      = .ok (.value (.tuple #[])) (W.setRow t #[x0, x1]) := by
  have hl := run_loadVar_row (P := Tryz.prog) W b 147 147 #[x0, x1] (0, 0) _ hb Tryz.underlying147 rfl Tryz.infoRef
  have hs := run_storeVar_row (P := Tryz.prog) W t 147 147 #[o0, o1] #[x0, x1] ht Tryz.infoRef rfl (by simp [h1, h2])
  rw [@run_callFunc_extern Tryz.prog 228 _ ReflectliteValue.set Tryz.func228 (by kernel_rfl) (by kernel_rfl) (by kernel_rfl) (by kernel_rfl), rls]
  simp only [Sem.run_bind, Tryz.partsSa, Tryz.partsS, Result.andThen]
  simp [ReflectliteValue.flagAddr, hl, Result.andThen, Tryz.directS, hs]

set_option maxHeartbeats 4000000 in
theorem as_ref (c : Int) (ty : TypeId) (a : Addr) (t : Nat) (o0 o1 : Value) (w : World) (hg : w.cell? ⟨10, 0, none⟩ = some (.iface 207 (.agg #[.pointer (some ⟨12, 92, none⟩)]))) (ht : w.heap[t]? = some (.cells #[o0, o1] 147 (0, 0))) :
    Calls Tryz.prog 129 #[.iface 147 (.agg #[.int .i64 c, .iface ty (.pointer (some a))]), .iface 155 (.pointer (some ⟨t, 0, none⟩))] w fun e w' => e = .returned (.bool true) ∧ w'.heap[t]? = some (.cells #[.int .i64 c, .iface ty (.pointer (some a))] 147 (0, 0)) ∧ Upto t w w' := by
  obtain ⟨W2, hW2, k0, k1, d2, z2⟩ := box2 w #[.pointer (some ⟨t, 0, none⟩)] #[.pointer (some ⟨12, 155, none⟩), .pointer (some ⟨w.heap.size, 0, none⟩), .int .u64 150] 155 220
  obtain ⟨W3, hW3, k3, d3, z3⟩ := box1 W2 #[.pointer (some ⟨12, 155, none⟩), .pointer (some ⟨w.heap.size, 0, none⟩), .int .u64 150] 220
  obtain ⟨W4, hW4, k4, d4, z4⟩ := box1 W3 #[.int .i64 c, .iface ty (.pointer (some a))] 147
  have lt := heap_lt ht
  have lg : 10 < w.heap.size := by
    rcases Nat.lt_or_ge 10 w.heap.size with h | h
    · exact h
    · simp [World.cell?, Array.getElem?_eq_none h] at hg
  have hg2 := (d2.cell (p := ⟨10, 0, none⟩) lg).trans hg
  have n8 := Tryz.isNilP ⟨w.heap.size, 0, none⟩ ⟨t, 0, none⟩ W2 (at_cell k0 0)
  have k03 := (d3.block _ (heap_lt k0)).trans k0
  have el := Tryz.elemVP ⟨w.heap.size, 0, none⟩ ⟨t, 0, none⟩ W3 (at_cell k03 0)
  have b4 : Below w.heap.size w W4 := bw_call (bw_call d2 d3) d4
  have ht4 := (b4.block _ lt).trans ht
  have st := Tryz.setS t (w.heap.size + 1 + 1 + 1) (.int .i64 c) (.iface ty (.pointer (some a))) o0 o1 W4 (by rw [← z2, ← z3]; exact k4) ht4 rfl rfl
  have HE : Hid ((W4.setRow t #[.int .i64 c, .iface ty (.pointer (some a))]).heap[t]? = some (.cells #[.int .i64 c, .iface ty (.pointer (some a))] 147 (0, 0)) ∧ Upto t w (W4.setRow t #[.int .i64 c, .iface ty (.pointer (some a))])) := by
    refine ⟨setRow_row ht4, b4.os, b4.tape, b4.output, ?_, fun k hk hne => ?_⟩
    · have : (W4.setRow t #[.int .i64 c, .iface ty (.pointer (some a))]).heap.size = W4.heap.size := by simp [World.setRow]
      rw [this]; exact b4.size
    · have : (W4.setRow t #[.int .i64 c, .iface ty (.pointer (some a))]).heap[k]? = W4.heap[k]? := by
        simp only [World.setRow, Array.getElem?_modify]
        rw [if_neg (fun h => hne h.symm)]
      exact this.trans (b4.block k hk)
  rw [hW4, hW3, hW2] at st HE
  rw [hW3, hW2] at el
  rw [hW2] at n8 hg2
  have f1 := Tryz.asValueP
  have f2 := Tryz.asValueS (.int .i64 c) (.iface ty (.pointer (some a))) rfl rfl
  have f3 := Tryz.asTypeP
  have mK := Tryz.methodKind
  have mE := Tryz.methodElem
  have mI := Tryz.methodImplements
  have mA := Tryz.methodAssignableTo
  have kP := Tryz.kindP
  have kS := Tryz.kindS
  have eP := Tryz.elemP
  have iS := Tryz.implementsS
  have tS := Tryz.typeOfS
  have aS := Tryz.assignableS
  clear hW2 hW3 hW4 k0 k1 k3 k4 d2 d3 d4 z2 z3 z4 k03 b4 ht4 ht hg
  go_enter Tryz.func129, Tryz.ntmps129
  go_wp2
  refine wp_loop_rounds 1 ?_
  rw [rounds_succ]
  go_wp2
  go_ret
  exact ⟨rfl, HE.out⟩
end Go.Proofs.YtaekdfknkgmfbaaGreatDoor

