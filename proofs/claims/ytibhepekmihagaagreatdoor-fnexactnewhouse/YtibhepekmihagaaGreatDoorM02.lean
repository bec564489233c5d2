/-
  Contracts and plain laws, one chapter behind the other.
-/
import Derived.Deep.WholeRow
import Derived.Laws.MakeOwn
import Derived.Test.YtibhepekmihagaaGreatDoorM01
namespace Go.Proofs.YtibhepekmihagaaGreatDoor
open Go.RowKit

set_option linter.unusedVariables false

set_option maxRecDepth 100000

/-- Appending what is read, of whatever address, to a row of one's own. -/
theorem run_append_reads {P : Program} (w : World) (base : Nat) (t ty e : TypeId) (i : TypeInfo) (z : Value) (size bytes : Nat) (ht : P.underlying t = some (.slice e)) (hi : P.info? e = some i) (hz : i.zero = some z)
    (hsize : i.size = size) (hby : i.bytes = bytes) (hzs : z.cells.size = size) (hsz : 0 < size)
    (v : Value) (n : Nat) (xs : List Value) (hown : w.ownsRow base e size v n xs)
    (o : Option Addr) (m c : Nat) (news : List Value) (hl : news.length = m * size) (hnews : ∀ j u, news[j]? = some u → ∃ g off, o = some ⟨g, off, none⟩ ∧ w.cell? ⟨g, off + j, none⟩ = some u) (h1 : ∀ u ∈ news, u.oneCell' = true)
    (h63 : n + m ≤ maxLen) (hbytes : (n + m) * bytes ≤ 140737488355328) (hbase : base ≤ w.heap.size) :
    ∃ v' w', (Builtin.append_ #[t, t] ty #[v, .slice o m c]).run P w = .ok v' w' ∧ w'.ownsRow base e size v' (n + m) (xs ++ news) ∧ w.grownBy w' v.ownBlock ∧
      (v' = .slice none 0 0 ↔ v = .slice none 0 0 ∧ m = 0) := by
  cases o with
  | none =>
    have hn : news = [] := by
      cases news with
      | nil => rfl
      | cons a l => obtain ⟨_, _, h, _⟩ := hnews 0 a rfl; cases h
    subst hn
    have hm : m = 0 := by
      rcases Nat.eq_zero_or_pos m with h | h
      · exact h
      · have := Nat.mul_pos h hsz; simp at hl; omega
    subst hm
    refine ⟨v, w, ?_, by simpa using hown, ⟨rfl, rfl, rfl, Nat.le_refl _, fun _ _ _ => rfl⟩, by simp⟩
    rcases hown.2 with ⟨rfl, rfl⟩ | ⟨g, cap, cur, rfl, _, _, hnc, _⟩
    · simp [Builtin.append_, run_underlying ht, sizeOf, typeInfo, hi, Builtin.lenOf, Builtin.firstCells]
    · simp [Builtin.append_, run_underlying ht, sizeOf, typeInfo, hi, Builtin.lenOf, Builtin.firstCells, hnc, storeCells]
  | some ad =>
    refine run_append_own (P := P) w base t ty e i z size bytes ht hi hz hsize hby hzs hsz v n xs hown ad m c news hl (fun j u hj => ?_) h1 h63 hbytes hbase
    obtain ⟨g, off, hg, hc⟩ := hnews j u hj
    cases hg
    have ea : (⟨g, off, none⟩ : Addr).add j = ⟨g, off + j, none⟩ := by unfold Addr.add; split <;> simp_all
    rw [ea]; exact hc

theorem wp_append_reads {P : Program} {w : World} {o : Oper} {a : Act} {K : Act → World → Prop} {Q : Exit → Act → World → Prop} (s x : Operand) (t : TypeId)
    (ho : o.op = .call { callee := .builtin .append, args := #[s, x], argTypes := #[t, t] })
    (base : Nat) (e : TypeId) (i : TypeInfo) (z : Value) (size bytes : Nat) (ht : P.underlying t = some (.slice e)) (hi : P.info? e = some i) (hz : i.zero = some z)
    (hsize : i.size = size) (hby : i.bytes = bytes) (hzs : z.cells.size = size) (hsz : 0 < size)
    (v : Value) (n : Nat) (xs : List Value) (hs : a.eval s = v) (hown : w.ownsRow base e size v n xs)
    (ad : Option Addr) (m c : Nat) (news : List Value) (hx : a.eval x = .slice ad m c) (hl : news.length = m * size) (hnews : ∀ j u, news[j]? = some u → ∃ g off, ad = some ⟨g, off, none⟩ ∧ w.cell? ⟨g, off + j, none⟩ = some u) (h1 : ∀ u ∈ news, u.oneCell' = true)
    (h63 : n + m ≤ maxLen) (hbytes : (n + m) * bytes ≤ 140737488355328) (hbase : base ≤ w.heap.size)
    (h : ∀ v' w', w'.ownsRow base e size v' (n + m) (xs ++ news) → w.grownBy w' v.ownBlock → (v' = .slice none 0 0 ↔ v = .slice none 0 0 ∧ m = 0) → K (a.put o.dst v') w') : o.wp P a w K Q := by
  obtain ⟨v', w', hr, h2, h3, h4⟩ := run_append_reads (P := P) w base t o.type e i z size bytes ht hi hz hsize hby hzs hsz v n xs hown ad m c news hl hnews h1 h63 hbytes hbase
  unfold Oper.wp execOp
  simp only [ho, resolve, invoke, builtin, Sem.run_bind, Sem.run_pure, Result.andThen_ok, List.map_toArray, List.map_cons, List.map_nil, hs, hx, hr]
  exact h v' w' h2 h3 h4

theorem wpList_append_reads {P : Program} {w : World} {ops : Array Oper} {rest : List Oper} {o : Oper} {a : Act} {Q : Exit → Act → World → Prop} (hgd : o.guard = none) (s x : Operand) (t : TypeId)
    (ho : o.op = .call { callee := .builtin .append, args := #[s, x], argTypes := #[t, t] })
    (base : Nat) (e : TypeId) (i : TypeInfo) (z : Value) (size bytes : Nat) (ht : P.underlying t = some (.slice e)) (hi : P.info? e = some i) (hz : i.zero = some z)
    (hsize : i.size = size) (hby : i.bytes = bytes) (hzs : z.cells.size = size) (hsz : 0 < size)
    (v : Value) (n : Nat) (xs : List Value) (hs : a.eval s = v) (hown : w.ownsRow base e size v n xs)
    (ad : Option Addr) (m c : Nat) (news : List Value) (hx : a.eval x = .slice ad m c) (hl : news.length = m * size) (hnews : ∀ j u, news[j]? = some u → ∃ g off, ad = some ⟨g, off, none⟩ ∧ w.cell? ⟨g, off + j, none⟩ = some u) (h1 : ∀ u ∈ news, u.oneCell' = true)
    (h63 : n + m ≤ maxLen) (hbytes : (n + m) * bytes ≤ 140737488355328) (hbase : base ≤ w.heap.size)
    (h : ∀ v' w', w'.ownsRow base e size v' (n + m) (xs ++ news) → w.grownBy w' v.ownBlock → (v' = .slice none 0 0 ↔ v = .slice none 0 0 ∧ m = 0) → wpList P ops Q rest (a.put o.dst v') w') : wpList P ops Q (o :: rest) a w :=
  wpList_plain hgd fun _ hK => wp_append_reads s x t ho base e i z size bytes ht hi hz hsize hby hzs hsz v n xs hs hown ad m c news hx hl hnews h1 h63 hbytes hbase fun v' w' h2 h3 h4 => hK _ _ (h v' w' h2 h3 h4)

theorem Reads.grown {B : Nat} {w w' : World} {row : Option Nat} {v : Value} {xs : List Value} (h : Reads B w v xs) (hg : w.grownBy w' row) (hB : B ≤ w.heap.size) (hr : ∀ k, row = some k → B ≤ k) : Reads B w' v xs :=
  h.below ((Below.refl B w).grown hg hB hr)

theorem Reads.len {B : Nat} {w : World} {v : Value} {xs : List Value} (h : Reads B w v xs) : xs.length ≤ maxLen := by
  obtain ⟨_, _, _, h, _⟩ := h; exact h

theorem Reads.none (B : Nat) (w : World) : Reads B w (.slice none 0 0) [] := ⟨Option.none, 0, rfl, Nat.zero_le _, fun j u hj => by simp at hj, Nat.le_refl _⟩

theorem owns_nil (w : World) (base : Nat) (e : TypeId) (size : Nat) : w.ownsRow base e size (.slice none 0 0) 0 [] := World.ownsRow_nil w base e size

/-- All blocks that were there are as they were, but for those of S. -/
structure Only (S : Nat → Prop) (w w' : World) : Prop where
  os : w'.os = w.os
  tape : w'.tape = w.tape
  output : w'.output = w.output
  size : w.heap.size ≤ w'.heap.size
  block : ∀ k, k < w.heap.size → ¬ S k → w'.heap[k]? = w.heap[k]?

theorem Only.refl (S : Nat → Prop) (w : World) : Only S w w := ⟨rfl, rfl, rfl, Nat.le_refl _, fun _ _ _ => rfl⟩

theorem Only.trans {S : Nat → Prop} {a b d : World} (h : Only S a b) (k : Only S b d) : Only S a d :=
  ⟨k.os.trans h.os, k.tape.trans h.tape, k.output.trans h.output, Nat.le_trans h.size k.size, fun i hi hc => (k.block i (Nat.lt_of_lt_of_le hi h.size) hc).trans (h.block i hi hc)⟩

theorem Only.below {S : Nat → Prop} {a w w' : World} (h : Only S a w) (k : Below w.heap.size w w') : Only S a w' :=
  ⟨k.os.trans h.os, k.tape.trans h.tape, k.output.trans h.output, Nat.le_trans h.size k.size, fun i hi hc => (k.block i (Nat.lt_of_lt_of_le hi h.size)).trans (h.block i hi hc)⟩

theorem Only.setCell {S : Nat → Prop} {a w : World} (h : Only S a w) (p : Addr) (hp : S p.block) (u : Value) : Only S a (w.setCell p u) :=
  ⟨h.os, h.tape, h.output, by simpa [World.setCell] using h.size, fun i hi hc => (Below.heap_setCell w p u i (fun e => hc (by rw [e]; exact hp))).trans (h.block i hi hc)⟩

theorem Only.toBelow {S : Nat → Prop} {B : Nat} {w w' : World} (h : Only S w w') (hB : B ≤ w.heap.size) (hS : ∀ k, S k → B ≤ k) : Below B w w' :=
  ⟨h.os, h.tape, h.output, h.size, fun k hk => h.block k (by omega) (fun hs => by have := hS k hs; omega)⟩

theorem Only.mono {S S' : Nat → Prop} {w w' : World} (h : Only S w w') (hS : ∀ k, S k → S' k) : Only S' w w' := ⟨h.os, h.tape, h.output, h.size, fun k hk hn => h.block k hk (fun hs => hn (hS k hs))⟩

theorem own_slice {w : World} {base : Nat} {e : TypeId} {size : Nat} {v : Value} {n : Nat} {xs : List Value} (h : w.ownsRow base e size v n xs) : ∃ o cap, v = .slice o n cap := by
  rcases h.2 with ⟨rfl, rfl⟩ | ⟨g, cap, cur, rfl, _⟩
  · exact ⟨_, _, rfl⟩
  · exact ⟨_, _, rfl⟩

theorem heap_lt {w : World} {b : Nat} {o : Obj} (h : w.heap[b]? = some o) : b < w.heap.size := (Array.getElem?_eq_some_iff.1 h).1

/-- A row of one's own stays where another block is written. -/
theorem own_only {S : Nat → Prop} {w w' : World} {base : Nat} {e : TypeId} {size : Nat} {v : Value} {n : Nat} {xs : List Value} (h : w.ownsRow base e size v n xs) (k : Only S w w') (hv : ∀ g, v.ownBlock = some g → ¬ S g) : w'.ownsRow base e size v n xs := by
  obtain ⟨h1, h2⟩ := h
  refine ⟨h1, ?_⟩
  rcases h2 with h2 | ⟨g, cap, cur, rfl, hg, hh, r⟩
  · exact Or.inl h2
  · exact Or.inr ⟨g, cap, cur, rfl, hg, by rw [k.block g (heap_lt hh) (hv g rfl)]; exact hh, r⟩

/-- A row's block and a box of another type are two. -/
theorem own_not_box {w : World} {base : Nat} {e : TypeId} {size : Nat} {v : Value} {n : Nat} {xs : List Value} {b : Nat} {cs : Array Value} {t : TypeId} (h : w.ownsRow base e size v n xs) (k : w.heap[b]? = some (.cells cs t (0, 0))) (ht : t ≠ e) : v.ownBlock ≠ some b := by
  intro hv
  rcases h.2 with ⟨rfl, _⟩ | ⟨g, cap, cur, rfl, hg, hh, r⟩
  · cases hv
  · simp [Value.ownBlock] at hv
    subst hv
    rw [k] at hh
    simp at hh
    exact ht hh.2

/-- All blocks that were there are as they were, but for those from lo up to hi. -/
structure Rng (lo hi : Nat) (w w' : World) : Prop where
  os : w'.os = w.os
  tape : w'.tape = w.tape
  output : w'.output = w.output
  size : w.heap.size ≤ w'.heap.size
  block : ∀ k, k < w.heap.size → (k < lo ∨ hi ≤ k) → w'.heap[k]? = w.heap[k]?

theorem Rng.refl (lo hi : Nat) (w : World) : Rng lo hi w w := ⟨rfl, rfl, rfl, Nat.le_refl _, fun _ _ _ => rfl⟩

theorem Rng.trans {lo hi : Nat} {a b d : World} (h : Rng lo hi a b) (k : Rng lo hi b d) : Rng lo hi a d :=
  ⟨k.os.trans h.os, k.tape.trans h.tape, k.output.trans h.output, Nat.le_trans h.size k.size, fun i hi hc => (k.block i (Nat.lt_of_lt_of_le hi h.size) hc).trans (h.block i hi hc)⟩

theorem Rng.ofBelow {lo hi : Nat} {w w' : World} (k : Below w.heap.size w w') : Rng lo hi w w' := ⟨k.os, k.tape, k.output, k.size, fun i hi _ => k.block i hi⟩

theorem Rng.toBelow {lo hi B : Nat} {w w' : World} (h : Rng lo hi w w') (hB : B ≤ w.heap.size) (hl : B ≤ lo) : Below B w w' :=
  ⟨h.os, h.tape, h.output, h.size, fun k hk => h.block k (by omega) (.inl (by omega))⟩

theorem own_rng {lo hi : Nat} {w w' : World} {base : Nat} {e : TypeId} {size : Nat} {v : Value} {n : Nat} {xs : List Value} (h : w.ownsRow base e size v n xs) (k : Rng lo hi w w') (hb : hi ≤ base) : w'.ownsRow base e size v n xs := by
  obtain ⟨h1, h2⟩ := h
  refine ⟨h1, ?_⟩
  rcases h2 with h2 | ⟨g, cap, cur, rfl, hg, hh, r⟩
  · exact Or.inl h2
  · exact Or.inr ⟨g, cap, cur, rfl, hg, by rw [k.block g (heap_lt hh) (.inr (by omega))]; exact hh, r⟩

/-- A row of one's own stays where a range is written of which its block is none. -/
theorem own_rng_not {w w' : World} {base : Nat} {e : TypeId} {size : Nat} {v : Value} {n : Nat} {xs : List Value} (h : w.ownsRow base e size v n xs) (k : ∀ g, g < w.heap.size → v.ownBlock = some g → w'.heap[g]? = w.heap[g]?) : w'.ownsRow base e size v n xs := by
  obtain ⟨h1, h2⟩ := h
  refine ⟨h1, ?_⟩
  rcases h2 with h2 | ⟨g, cap, cur, rfl, hg, hh, r⟩
  · exact Or.inl h2
  · exact Or.inr ⟨g, cap, cur, rfl, hg, by rw [k g (heap_lt hh) rfl]; exact hh, r⟩

/-- Boxes laid one behind the other. -/
theorem box1 (w : World) (a : Array Value) (T : TypeId) : ∃ W0, W0 = w.alloc (.cells a T) ∧ W0.heap[w.heap.size]? = some (.cells a T (0, 0)) ∧ Below w.heap.size w W0 ∧ W0.heap.size = w.heap.size + 1 :=
  ⟨_, rfl, heap_alloc_new w _, bw_alloc (Below.refl _ _), by simp⟩

theorem box2 (w : World) (a b : Array Value) (T U : TypeId) : ∃ W0, W0 = (w.alloc (.cells a T)).alloc (.cells b U) ∧ W0.heap[w.heap.size]? = some (.cells a T (0, 0)) ∧ W0.heap[w.heap.size + 1]? = some (.cells b U (0, 0)) ∧ Below w.heap.size w W0 ∧ W0.heap.size = w.heap.size + 1 + 1 := by
  obtain ⟨W1, h1, k1, d1, s1⟩ := box1 w a T
  have k2 := heap_alloc_new W1 (.cells b U)
  rw [s1] at k2
  rw [← h1]
  exact ⟨_, rfl, (Below.heap_alloc _ _ _ (by omega)).trans k1, k2, bw_alloc d1, by simp [s1]⟩
end Go.Proofs.YtibhepekmihagaaGreatDoor

namespace Go.Proofs.YtibhepekmihagaaGreatDoor
open Go.RowKit

set_option linter.unusedVariables false

set_option maxRecDepth 100000

theorem setRow_row {w : World} {g : Nat} {old cs : Array Value} {ty : TypeId} {fr : Nat × Nat} (hg : w.heap[g]? = some (.cells old ty fr)) : (w.setRow g cs).heap[g]? = some (.cells cs ty fr) := by
  simp only [World.setRow, Array.getElem?_modify, hg, if_true]
  rfl
end Go.Proofs.YtibhepekmihagaaGreatDoor

namespace Go.Proofs.YtibhepekmihagaaGreatDoor
open Go.RowKit

set_option linter.unusedVariables false

set_option maxRecDepth 100000


/-- A slice that is read, each element by its k cells. -/
def ReadsR {α : Type} (k : Nat) (cs : α → List Value) (B : Nat) (w : World) (v : Value) (xs : List α) : Prop :=
  ∃ o cap, v = .slice o xs.length cap ∧ xs.length ≤ maxLen ∧ (∀ i x, xs[i]? = some x → ∃ g off, o = some ⟨g, off, none⟩ ∧ g < B ∧ ∀ j u, (cs x)[j]? = some u → w.cell? ⟨g, off + i * k + j, none⟩ = some u) ∧ xs.length ≤ cap

theorem ReadsR.below {α : Type} {k : Nat} {cs : α → List Value} {B : Nat} {w w' : World} {v : Value} {xs : List α} (h : ReadsR k cs B w v xs) (b : Below B w w') : ReadsR k cs B w' v xs := by
  obtain ⟨o, cap, hv, hm, hc, hr⟩ := h
  refine ⟨o, cap, hv, hm, fun i x hi => ?_, hr⟩
  obtain ⟨g, off, e, hg, hx⟩ := hc i x hi
  exact ⟨g, off, e, hg, fun j u hj => (b.cell (p := ⟨g, off + i * k + j, none⟩) hg).trans (hx j u hj)⟩

theorem ReadsR.mono {α : Type} {k : Nat} {cs : α → List Value} {B B' : Nat} {w : World} {v : Value} {xs : List α} (h : ReadsR k cs B w v xs) (b : B ≤ B') : ReadsR k cs B' w v xs := by
  obtain ⟨o, cap, hv, hm, hc, hr⟩ := h
  refine ⟨o, cap, hv, hm, fun i x hi => ?_, hr⟩
  obtain ⟨g, off, e, hg, hx⟩ := hc i x hi
  exact ⟨g, off, e, Nat.lt_of_lt_of_le hg b, hx⟩

theorem ReadsR.upto {α : Type} {k : Nat} {cs : α → List Value} {B c : Nat} {w w' : World} {v : Value} {xs : List α} (h : ReadsR k cs B w v xs) (u : Upto c w w') (hB : B ≤ w.heap.size) (hc : v.ownBlock ≠ some c) : ReadsR k cs B w' v xs := by
  obtain ⟨o, cap, rfl, hm, hc', hr⟩ := h
  refine ⟨o, cap, rfl, hm, fun i x hi => ?_, hr⟩
  obtain ⟨g, off, rfl, hg, hx⟩ := hc' i x hi
  exact ⟨g, off, rfl, hg, fun j u' hj => (u.cell (p := ⟨g, off + i * k + j, Option.none⟩) (Nat.lt_of_lt_of_le hg hB) (fun e => hc (by simp only at e; rw [e]; rfl))).trans (hx j u' hj)⟩

theorem ReadsR.nil {α : Type} (k : Nat) (cs : α → List Value) (B : Nat) (w : World) : ReadsR k cs B w (.slice none 0 0) [] := ⟨Option.none, 0, rfl, Nat.zero_le _, fun j u hj => by simp at hj, Nat.le_refl _⟩

theorem ReadsR.form {α : Type} {k : Nat} {cs : α → List Value} {B : Nat} {w : World} {v : Value} {xs : List α} (h : ReadsR k cs B w v xs) : ∃ o cap, v = .slice o xs.length cap := by
  obtain ⟨o, cap, hv, _⟩ := h
  exact ⟨o, cap, hv⟩

theorem ReadsR.of {α : Type} {k : Nat} {cs : α → List Value} {B : Nat} {W : World} {v : Value} {xs : List α} (h : ReadsR k cs B W v xs) (y : B ≤ W.heap.size) (p : BelowOf W) : ReadsR k cs p.w'.heap.size p.w' v xs := ((h.mono y).below p.h).mono p.h.size

theorem flat_length {α : Type} {k : Nat} {cs : α → List Value} (hk : ∀ x, (cs x).length = k) (xs : List α) : (xs.flatMap cs).length = xs.length * k := by
  induction xs with
  | nil => simp
  | cons x xs ih => rw [List.flatMap_cons, List.length_append, hk, ih, List.length_cons, Nat.add_mul, Nat.one_mul, Nat.add_comm]

theorem flat_get {α : Type} {k : Nat} {cs : α → List Value} (hk : ∀ x, (cs x).length = k) (xs : List α) (i j : Nat) (x : α) (hi : xs[i]? = some x) (hj : j < k) : (xs.flatMap cs)[i * k + j]? = (cs x)[j]? := by
  induction xs generalizing i with
  | nil => simp at hi
  | cons y ys ih =>
    rw [List.flatMap_cons]
    match i, hi with
    | 0, hi =>
      simp at hi
      subst hi
      rw [Nat.zero_mul, Nat.zero_add, List.getElem?_append_left (by rw [hk]; exact hj)]
    | i + 1, hi =>
      rw [List.getElem?_append_right (by rw [hk, Nat.add_mul]; omega), hk, Nat.add_mul, Nat.one_mul, show i * k + k + j - k = i * k + j by omega]
      exact ih i (by simpa using hi)

theorem flat_set {α : Type} {k : Nat} {cs : α → List Value} (hk : ∀ x, (cs x).length = k) (xs : List α) (i j : Nat) (x y : α) (u : Value) (hi : xs[i]? = some x) (hj : j < k) (hy : (cs x).set j u = cs y) : (xs.flatMap cs).set (i * k + j) u = (xs.set i y).flatMap cs := by
  induction xs generalizing i with
  | nil => simp at hi
  | cons z zs ih =>
    rw [List.flatMap_cons]
    match i, hi with
    | 0, hi =>
      simp at hi
      subst hi
      rw [Nat.zero_mul, Nat.zero_add, List.set_append_left _ _ (by rw [hk]; exact hj), hy, List.set_cons_zero, List.flatMap_cons]
    | i + 1, hi =>
      rw [List.set_append_right _ _ (by rw [hk, Nat.add_mul]; omega), hk, Nat.add_mul, Nat.one_mul, show i * k + k + j - k = i * k + j by omega, ih i (by simpa using hi), List.set_cons_succ, List.flatMap_cons]

theorem ReadsR.of_own {α : Type} {k : Nat} {cs : α → List Value} (hk : ∀ x, (cs x).length = k) {w : World} {base : Nat} {e : TypeId} {v : Value} {xs : List α} (h : w.ownsRow base e k v xs.length (xs.flatMap cs)) : ReadsR k cs w.heap.size w v xs := by
  rcases h.2 with ⟨rfl, hn⟩ | ⟨g, cap, cur, rfl, hg, hh, hnc, hcm, hcs, htk⟩
  · have : xs = [] := List.length_eq_zero_iff.1 hn
    subst this
    exact ReadsR.nil _ _ _ _
  · refine ⟨some ⟨g, 0, none⟩, cap, rfl, Nat.le_trans hnc hcm, fun i x hi => ⟨g, 0, rfl, heap_lt hh, fun j u hj => ?_⟩, hnc⟩
    have hi' := (List.getElem?_eq_some_iff.1 hi).1
    have hj' : j < k := by have := (List.getElem?_eq_some_iff.1 hj).1; rw [hk] at this; exact this
    have hlt : i * k + j < xs.length * k := by
      have h1 : (i + 1) * k ≤ xs.length * k := Nat.mul_le_mul_right _ hi'
      rw [Nat.add_mul, Nat.one_mul] at h1
      omega
    rw [Nat.zero_add, h.cellAt (i * k + j) hlt, flat_get hk xs i j x hi hj', hj]

/-- One element's cell is written. -/
theorem own_put {α : Type} {k : Nat} {cs : α → List Value} (hk : ∀ x, (cs x).length = k) {w : World} {base g n cap : Nat} {e : TypeId} {xs : List α} (h : w.ownsRow base e k (.slice (some ⟨g, 0, none⟩) n cap) xs.length (xs.flatMap cs)) (i j : Nat) (x y : α) (u : Value) (hi : xs[i]? = some x) (hj : j < k) (hy : (cs x).set j u = cs y) :
    (w.setCell ⟨g, i * k + j, none⟩ u).ownsRow base e k (.slice (some ⟨g, 0, none⟩) n cap) (xs.set i y).length ((xs.set i y).flatMap cs) := by
  have hn : n = xs.length := by
    rcases h.2 with ⟨h', _⟩ | ⟨g', cap', cur, h', _⟩
    · cases h'
    · simp only [Value.slice.injEq] at h'
      exact h'.2.1
  subst hn
  have := (h.stored (i * k + j) u).1
  rw [flat_set hk xs i j x y u hi hj hy] at this
  rwa [List.length_set]

theorem own_cell {α : Type} {k : Nat} {cs : α → List Value} (hk : ∀ x, (cs x).length = k) {w : World} {base g n cap : Nat} {e : TypeId} {xs : List α} (h : w.ownsRow base e k (.slice (some ⟨g, 0, none⟩) n cap) xs.length (xs.flatMap cs)) (i j : Nat) (x : α) (hi : xs[i]? = some x) (hj : j < k) :
    w.cell? ⟨g, i * k + j, none⟩ = (cs x)[j]? ∧ w.frozen? ⟨g, i * k + j, none⟩ = false := by
  have hn : n = xs.length := by
    rcases h.2 with ⟨h', _⟩ | ⟨g', cap', cur, h', _⟩
    · cases h'
    · simp only [Value.slice.injEq] at h'
      exact h'.2.1
  subst hn
  have hi' := (List.getElem?_eq_some_iff.1 hi).1
  have h1 : (i + 1) * k ≤ xs.length * k := Nat.mul_le_mul_right _ hi'
  rw [Nat.add_mul, Nat.one_mul] at h1
  exact ⟨(h.cellAt (i * k + j) (by omega)).trans (flat_get hk xs i j x hi hj), h.frozenAt _⟩

/-- make([]T, n): n times the same cells. -/
theorem toList_made {α : Type} {k : Nat} {cs : α → List Value} (hk : ∀ x, (cs x).length = k) (hpos : 0 < k) (x : α) (z : Array Value) (hz : z.toList = cs x) (n : Nat) : (madeCells z (n * k)).toList = (List.replicate n x).flatMap cs := by
  have hs : z.size = k := by rw [← Array.length_toList, hz, hk]
  apply List.ext_getElem?
  intro j
  by_cases hj : j < n * k
  · have hd : j / k < n := Nat.div_lt_of_lt_mul (by rw [Nat.mul_comm]; exact hj)
    have hr : j % k < k := Nat.mod_lt _ hpos
    have he : j / k * k + j % k = j := by rw [Nat.mul_comm]; exact Nat.div_add_mod j k
    have h1 := flat_get hk (List.replicate n x) (j / k) (j % k) x (by simp [hd]) hr
    rw [he] at h1
    rw [h1, ← hz]
    have hr2 : j % k < z.size := by omega
    rw [Array.getElem?_toList, Array.getElem?_toList, Array.getElem?_eq_getElem hr2, madeCells, Array.getElem?_map, Array.getElem?_range, if_pos hj]
    simp [hs, getElem!_pos z (j % k) hr2]
  · have h2 := flat_length hk (List.replicate n x)
    rw [List.length_replicate] at h2
    rw [List.getElem?_eq_none (by rw [Array.length_toList, size_madeCells]; omega), List.getElem?_eq_none (by omega)]
end Go.Proofs.YtibhepekmihagaaGreatDoor

namespace Go.Proofs.YtibhepekmihagaaGreatDoor.Nums

def lowB (l : List UInt8) : Bool := l.all fun c => decide (97 ≤ (c.toNat : Int)) && decide ((c.toNat : Int) ≤ 122)

def nameB (l : List UInt8) : Bool := lowB l && (decide (1 ≤ (l.length : Int)) && decide ((l.length : Int) ≤ 4))

theorem take_snoc (s : ByteArray) (k : Nat) (h : k < s.size) : s.data.toList.take (k + 1) = s.data.toList.take k ++ [s[k]] := by
  rw [List.take_succ_eq_append_getElem (by simpa using h)]; rfl

theorem take_all (s : ByteArray) (k : Nat) (h : ¬ k < s.size) : s.data.toList.take k = s.data.toList := by
  rw [List.take_of_length_le]; simp; omega

theorem byte_lt (c : UInt8) : 0 ≤ (c.toNat : Int) ∧ (c.toNat : Int) ≤ 255 := by have := c.toNat_lt; omega

theorem lowB_snoc (l : List UInt8) (c : UInt8) : lowB (l ++ [c]) = (lowB l && (decide (97 ≤ (c.toNat : Int)) && decide ((c.toNat : Int) ≤ 122))) := by
  simp [lowB]

theorem lowB_take (l : List UInt8) (k : Nat) (h : lowB (l.take k) = false) : lowB l = false := by
  rw [← List.take_append_drop k l]
  simp only [lowB] at h
  simp only [lowB, List.all_append, h, Bool.false_and]

theorem lowB_bad (s : ByteArray) (k : Nat) (h : k < s.size) (hb : ¬ (97 ≤ (s[k].toNat : Int) ∧ (s[k].toNat : Int) ≤ 122)) : lowB s.data.toList = false := by
  apply lowB_take _ (k + 1)
  rw [take_snoc s k h, lowB_snoc]
  by_cases h1 : 97 ≤ (s[k].toNat : Int)
  · have h2 : ¬ (s[k].toNat : Int) ≤ 122 := fun h2 => hb ⟨h1, h2⟩
    simp [h2]
  · simp [h1]

theorem lowB_good (s : ByteArray) (k : Nat) (h : k < s.size) (hl : lowB (s.data.toList.take k) = true) (h1 : 97 ≤ (s[k].toNat : Int)) (h2 : (s[k].toNat : Int) ≤ 122) : lowB (s.data.toList.take (k + 1)) = true := by
  rw [take_snoc s k h, lowB_snoc, hl]; simp [h1, h2]
end Go.Proofs.YtibhepekmihagaaGreatDoor.Nums

