/-
  Contracts and plain laws, one chapter behind the other.
-/
import Derived.Laws.CopyOwn
import Derived.Test.YtjhfeegilhmgkaaGreatDoorM01
import Derived.Test.YtjhfeegilhmgkaaGreatDoorM02
import Derived.Test.YtjhfeegilhmgkaaGreatDoorM03
import Derived.Test.YtjhfeegilhmgkaaGreatDoorM05
import Derived.Test.YtjhfeegilhmgkaaGreatDoorM06
import Derived.Test.YtjhfeegilhmgkaaGreatDoorM08
namespace Go.Proofs.YtjhfeegilhmgkaaGreatDoor
open Go.RowKit

set_option linter.unusedVariables false

set_option maxRecDepth 100000


/-- A book that was drawn: its map is a row of its own, its numbers are small. -/
structure BookSt (c : Nat) (x : Option Addr) (len cap : Nat) (w W : World) (b : Bk) : Prop where
  own : W.ownsRow w.heap.size 173 3 b.m b.rs.length (b.rs.flatMap runC)
  kc : Cur W c x len cap
  u : Upto c w W
  lt : c < w.heap.size
  few : b.rs.length ≤ 17
  fit : FitRuns b.rs
  nm : b.nm.size ≤ 5
  sz : -1 ≤ b.sz ∧ b.sz ≤ 17
  ep : -1 ≤ b.ep ∧ b.ep ≤ 1001

theorem BookSt.step {c : Nat} {x : Option Addr} {len cap : Nat} {w W W' : World} {b : Bk} (h : BookSt c x len cap w W b) (u : Upto c W W') (kc : Cur W' c x len cap) : BookSt c x len cap w W' b :=
  ⟨ownsRow_upto h.own u h.lt, kc, h.u.trans u, h.lt, h.few, h.fit, h.nm, h.sz, h.ep⟩

theorem BookSt.below {c : Nat} {x : Option Addr} {len cap : Nat} {w W W' : World} {b : Bk} (h : BookSt c x len cap w W b) (k : Below W.heap.size W W') : BookSt c x len cap w W' b :=
  h.step (Upto.ofBelow k) (h.kc.below k)

theorem BookSt.form {c : Nat} {x : Option Addr} {len cap : Nat} {w W : World} {b : Bk} (h : BookSt c x len cap w W b) : ∃ o cp, b.m = .slice o b.rs.length cp := own_slice h.own

theorem BookSt.reads {c : Nat} {x : Option Addr} {len cap : Nat} {w W : World} {b : Bk} (h : BookSt c x len cap w W b) : ReadsR 3 runC W.heap.size W b.m b.rs := ReadsR.of_own runC_len h.own

/-- A block of another type that lies behind the start is written. -/
theorem BookSt.put {c : Nat} {x : Option Addr} {len cap : Nat} {w W : World} {b : Bk} {g i : Nat} {cs : Array Value} (h : BookSt c x len cap w W b) (k : W.heap[g]? = some (.cells cs 118 (0, 0))) (hg : w.heap.size ≤ g) (v : Value) : BookSt c x len cap w (W.setCell ⟨g, i, none⟩ v) b := by
  have hne := own_not_box h.own k (by decide)
  have hlt := h.lt
  have hb : ∀ q, q < W.heap.size → q ≠ g → (W.setCell ⟨g, i, none⟩ v).heap[q]? = W.heap[q]? := fun q hq hqg => ((Upto.refl g W).setCell ⟨g, i, none⟩ (.inl rfl) v).block q hq hqg
  refine ⟨own_rng_not h.own (fun q hq hv => hb q hq (fun e => hne (by rw [← e]; exact hv))), h.kc.same (((Upto.refl g W).setCell ⟨g, i, none⟩ (.inl rfl) _).toBelow h.kc.lt (by omega)), h.u.setCell ⟨g, i, none⟩ (.inr hg) _, h.lt, h.few, h.fit, h.nm, h.sz, h.ep⟩

/-- While it is drawn: the book's box at nB, the answer's at the start's end. -/
structure BkSt (c : Nat) (x : Option Addr) (len cap nB : Nat) (w W : World) (b : Bk) : Prop where
  st : BookSt c x len cap w W b
  kB : W.heap[nB]? = some (.cells #[.string b.nm, .int .i64 b.sz, b.m, .bool b.fx, .int .i64 b.ep] 118 (0, 0))
  kR : W.heap[w.heap.size]? = some (.cells #[.string ⟨#[]⟩, .int .i64 0, .slice none 0 0, .bool false, .int .i64 0] 118 (0, 0))
  nb : w.heap.size < nB

theorem BkSt.step {c nB : Nat} {x : Option Addr} {len cap : Nat} {w W W' : World} {b : Bk} (h : BkSt c x len cap nB w W b) (u : Upto c W W') (kc : Cur W' c x len cap) : BkSt c x len cap nB w W' b := by
  have hlt := h.st.lt
  have hnb := h.nb
  exact ⟨h.st.step u kc, (u.block _ (heap_lt h.kB) (by omega)).trans h.kB, (u.block _ (heap_lt h.kR) (by omega)).trans h.kR, h.nb⟩

theorem BkSt.below {c nB : Nat} {x : Option Addr} {len cap : Nat} {w W W' : World} {b : Bk} (h : BkSt c x len cap nB w W b) (k : Below W.heap.size W W') : BkSt c x len cap nB w W' b :=
  h.step (Upto.ofBelow k) (h.st.kc.below k)

theorem BkSt.alloc {c nB : Nat} {x : Option Addr} {len cap : Nat} {w W : World} {b : Bk} (h : BkSt c x len cap nB w W b) (o : Obj) : BkSt c x len cap nB w (W.alloc o) b :=
  h.below (bw_alloc (Below.refl _ _))

theorem BkSt.other {c nB : Nat} {x : Option Addr} {len cap : Nat} {w W : World} {b : Bk} (h : BkSt c x len cap nB w W b) (i : Nat) (v : Value) : (W.setCell ⟨nB, i, none⟩ v).heap[w.heap.size]? = some (.cells #[.string ⟨#[]⟩, .int .i64 0, .slice none 0 0, .bool false, .int .i64 0] 118 (0, 0)) :=
  (((Upto.refl nB W).setCell ⟨nB, i, none⟩ (.inl rfl) v).block _ (heap_lt h.kR) (Nat.ne_of_lt h.nb)).trans h.kR

theorem BkSt.size {c nB : Nat} {x : Option Addr} {len cap : Nat} {w W : World} {b : Bk} (h : BkSt c x len cap nB w W b) (z : Int) (hz : -1 ≤ z ∧ z ≤ 17) : BkSt c x len cap nB w (W.setCell ⟨nB, 1, none⟩ (.int .i64 z)) ⟨b.nm, z, b.m, b.rs, b.fx, b.ep⟩ := by
  have p := h.st.put (i := 1) h.kB (Nat.le_of_lt h.nb) (.int .i64 z)
  exact ⟨⟨p.own, p.kc, p.u, p.lt, p.few, p.fit, p.nm, hz, p.ep⟩, set_at h.kB 1 _, h.other 1 _, h.nb⟩

theorem BkSt.map {c nB base : Nat} {x : Option Addr} {len cap : Nat} {w W : World} {b : Bk} (h : BkSt c x len cap nB w W b) (m : Value) (rs : List (Int × Int × Int)) (hl : rs.length ≤ 17) (hf : FitRuns rs) (hb : w.heap.size ≤ base) (own : W.ownsRow base 173 3 m rs.length (rs.flatMap runC)) : BkSt c x len cap nB w (W.setCell ⟨nB, 2, none⟩ m) ⟨b.nm, b.sz, m, rs, b.fx, b.ep⟩ := by
  have p : BookSt c x len cap w (W.setCell ⟨nB, 2, none⟩ m) ⟨b.nm, b.sz, m, rs, b.fx, b.ep⟩ := BookSt.put (b := ⟨b.nm, b.sz, m, rs, b.fx, b.ep⟩) (i := 2) ⟨owns_mono own hb, h.st.kc, h.st.u, h.st.lt, hl, hf, h.st.nm, h.st.sz, h.st.ep⟩ h.kB (Nat.le_of_lt h.nb) m
  exact ⟨p, set_at h.kB 2 _, h.other 2 _, h.nb⟩
end Go.Proofs.YtjhfeegilhmgkaaGreatDoor

namespace Go.Proofs.YtjhfeegilhmgkaaGreatDoor
open Go.RowKit

set_option linter.unusedVariables false

set_option maxRecDepth 100000

/-- What the laws know of a book that was drawn. -/
structure Drawn (w : World) (b : Bk) : Prop where
  reads : ReadsR 3 runC w.heap.size w b.m b.rs
  fit : FitRuns b.rs
  nm : b.nm.size ≤ maxLen

theorem Drawn.below {w w' : World} {b : Bk} (h : Drawn w b) (k : Below w.heap.size w w') : Drawn w' b := ⟨(h.reads.below k).mono k.size, h.fit, h.nm⟩
end Go.Proofs.YtjhfeegilhmgkaaGreatDoor

namespace Go.Proofs.YtjhfeegilhmgkaaGreatDoor
open Go.RowKit

set_option linter.unusedVariables false

set_option maxRecDepth 100000

theorem ReadsR.drop {α : Type} {k : Nat} {cs : α → List Value} {B : Nat} {w : World} {g off n cap : Nat} {xs : List α} (h : ReadsR k cs B w (.slice (some ⟨g, off, none⟩) n cap) xs) (i : Nat) (hi : i ≤ n) : ReadsR k cs B w (.slice (some ⟨g, off + i * k, none⟩) (n - i) (cap - i)) (xs.drop i) := by
  obtain ⟨o', cap', e, hm, hc, hr⟩ := h
  simp only [Value.slice.injEq] at e
  obtain ⟨rfl, rfl, rfl⟩ := e
  refine ⟨_, _, by rw [List.length_drop], by rw [List.length_drop]; omega, fun j x hj => ?_, by rw [List.length_drop]; omega⟩
  rw [List.getElem?_drop] at hj
  obtain ⟨g', off', e, hg, hx⟩ := hc (i + j) x hj
  simp only [Option.some.injEq, Addr.mk.injEq, and_true] at e
  obtain ⟨rfl, rfl⟩ := e
  refine ⟨g, off + i * k, rfl, hg, fun q u hq => ?_⟩
  have := hx q u hq
  rwa [show off + (i + j) * k + q = off + i * k + j * k + q by rw [Nat.add_mul]; omega] at this

theorem ReadsR.take {α : Type} {k : Nat} {cs : α → List Value} {B : Nat} {w : World} {o : Option Addr} {n cap : Nat} {xs : List α} (h : ReadsR k cs B w (.slice o n cap) xs) (i : Nat) (hi : i ≤ n) : ReadsR k cs B w (.slice o i cap) (xs.take i) := by
  obtain ⟨o', cap', e, hm, hc, hr⟩ := h
  simp only [Value.slice.injEq] at e
  obtain ⟨rfl, rfl, rfl⟩ := e
  have hl : (xs.take i).length = i := by rw [List.length_take]; omega
  refine ⟨_, _, by rw [hl], by rw [hl]; omega, fun j x hj => ?_, by rw [hl]; omega⟩
  rw [List.getElem?_take] at hj
  split at hj
  · exact hc j x hj
  · cases hj

/-! ### The shelf's state -/
/-- A shelf of one's own: its box, the pool's rows, the row of books and each map. -/
structure ShSt (base b : Nat) (w : World) (v1 v2 vb : Value) (bks : List Bk) (s : Sf) : Prop where
  box : w.heap[b]? = some (.cells #[v1, v2, vb] 30 (0, 0))
  lo : base ≤ b
  pool : OwnP base w v1 v2 s.cs s.ps
  books : OwnB base w vb bks
  eq : bks.map Bk.pb = s.bs

theorem ShSt.below {base b : Nat} {w w' : World} {v1 v2 vb : Value} {bks : List Bk} {s : Sf} (h : ShSt base b w v1 v2 vb bks s) (k : Below w.heap.size w w') : ShSt base b w' v1 v2 vb bks s :=
  ⟨(k.block _ (heap_lt h.box)).trans h.box, h.lo, h.pool.below k, h.books.below k, h.eq⟩

theorem ShSt.forms {base b : Nat} {w : World} {v1 v2 vb : Value} {bks : List Bk} {s : Sf} (h : ShSt base b w v1 v2 vb bks s) : ∀ x ∈ bks, ∃ o k cp, x.m = .slice o k cp := fun x hx => by
  obtain ⟨o, cp, e⟩ := own_slice (h.books.maps x hx)
  exact ⟨o, _, cp, e⟩

/-- Two rows whose items differ in type never are one block. -/
theorem rows_apart {w : World} {base base' : Nat} {e e' : TypeId} {k k' : Nat} {v v' : Value} {n n' : Nat} {xs ys : List Value} (h : w.ownsRow base e k v n xs) (h' : w.ownsRow base' e' k' v' n' ys) (hne : e' ≠ e) (g : Nat) (hg : v'.ownBlock = some g) : v.ownBlock ≠ some g := by
  rcases h'.2 with ⟨rfl, _⟩ | ⟨g', cap', cur, rfl, _, hh, _⟩
  · simp [Value.ownBlock] at hg
  · simp [Value.ownBlock] at hg
    subst hg
    exact own_not_box h hh hne

/-- The row of books is written, one book's cells: a map of one's own may be the new one. -/
theorem ShSt.put {base b g n cap : Nat} {w : World} {v1 v2 : Value} {bks : List Bk} {s : Sf} (h : ShSt base b w v1 v2 (.slice (some ⟨g, 0, none⟩) n cap) bks s) (i j : Nat) (hi : i < bks.length) (hj : j < 5) (y : Bk) (u : Value) (hy : (bookC bks[i]).set j u = bookC y) (hm : w.ownsRow base 173 3 y.m y.rs.length (y.rs.flatMap runC)) :
    ShSt base b (w.setCell ⟨g, i * 5 + j, none⟩ u) v1 v2 (.slice (some ⟨g, 0, none⟩) n cap) (bks.set i y) ⟨s.cs, s.ps, s.bs.set i y.pb⟩ ∧ Below base w (w.setCell ⟨g, i * 5 + j, none⟩ u) := by
  have hg := h.books.row.lt g rfl
  have ub : Upto g w (w.setCell ⟨g, i * 5 + j, none⟩ u) := (Upto.refl _ _).setCell ⟨g, i * 5 + j, none⟩ (.inl rfl) _
  obtain ⟨cur, hcur⟩ : ∃ cur, w.heap[g]? = some (.cells cur 118 (0, 0)) := by
    rcases h.books.row.2 with ⟨e, _⟩ | ⟨g', cap', cur, e, _, hh, _⟩
    · simp at e
    · simp only [Value.slice.injEq, Option.some.injEq, Addr.mk.injEq, and_true] at e
      obtain ⟨rfl, _⟩ := e
      exact ⟨cur, hh⟩
  have st : ∀ (e : TypeId) (kk n : Nat) (v : Value) (xs : List Value), 118 ≠ e → w.ownsRow base e kk v n xs → (w.setCell ⟨g, i * 5 + j, none⟩ u).ownsRow base e kk v n xs := fun e kk n v xs he hr =>
    own_rng_not hr (fun q hq hqv => ub.block q hq (fun hx => own_not_box hr hcur he (by rw [← hx]; exact hqv)))
  refine ⟨⟨?_, h.lo, ⟨st _ _ _ _ _ (by decide) h.pool.c, st _ _ _ _ _ (by decide) h.pool.p, h.pool.apart⟩, ⟨own_put bookC_len h.books.row i j _ y u (List.getElem?_eq_getElem hi) hj hy, fun x hx => ?_⟩, ?_⟩, ub.toBelow (Nat.le_trans h.lo (Nat.le_of_lt (heap_lt h.box))) hg.1⟩
  · refine (ub.block b (heap_lt h.box) (fun e => ?_)).trans h.box
    rw [← e, h.box] at hcur
    simp at hcur
  · rcases List.mem_or_eq_of_mem_set hx with q | rfl
    · exact st _ _ _ _ _ (by decide) (h.books.maps x q)
    · exact st _ _ _ _ _ (by decide) hm
  · rw [← h.eq, List.map_set]

/-- The blocks of a shelf that may be written. -/
def ShW (b : Nat) (v1 v2 vb : Value) (i : Nat) : Prop := i = b ∨ v1.ownBlock = some i ∨ v2.ownBlock = some i ∨ vb.ownBlock = some i

theorem ShSt.only_below {base b : Nat} {w w' : World} {v1 v2 vb : Value} {bks : List Bk} {s : Sf} (h : ShSt base b w v1 v2 vb bks s) (k : Only (ShW b v1 v2 vb) w w') : Below base w w' :=
  k.toBelow (Nat.le_trans h.lo (Nat.le_of_lt (heap_lt h.box))) (fun i hi => by
    rcases hi with q | q | q | q
    · rw [q]; exact h.lo
    · exact (h.pool.c.lt i q).1
    · exact (h.pool.p.lt i q).1
    · exact (h.books.row.lt i q).1)
end Go.Proofs.YtjhfeegilhmgkaaGreatDoor

namespace Go.Proofs.YtjhfeegilhmgkaaGreatDoor
open Go.RowKit

set_option linter.unusedVariables false

set_option maxRecDepth 100000


/-- What l8Do leaves behind. -/
def DoPost (base b : Nat) (v1 v2 : Value) (s : Sf) (o : Oq) (w : World) (e : Ending) (w' : World) : Prop :=
  ∃ (vb' : Value) (bks' : List Bk), e = .returned (.agg #[.int .i64 (doOp s o).2.1, .int .i64 (doOp s o).2.2]) ∧ ShSt base b w' v1 v2 vb' bks' (doOp s o).1 ∧ Below base w w'

theorem DoPost.drew {base b : Nat} {v1 v2 : Value} {s : Sf} {o : Oq} {w w' : World} {e : Ending} (h : DoPost base b v1 v2 s o w e w') : DoPost base b v1 v2 s o w e w'.drew := by
  obtain ⟨vb, bks, h1, h2, h3⟩ := h
  exact ⟨vb, bks, h1, h2.below ((Below.refl _ _).drew), h3.drew⟩
end Go.Proofs.YtjhfeegilhmgkaaGreatDoor

namespace Go.Proofs.YtjhfeegilhmgkaaGreatDoor
open Go.RowKit

set_option linter.unusedVariables false

set_option maxRecDepth 100000


/-- What lies below a number stays so, and what G names. -/
structure Fr (G : Nat → Prop) (base : Nat) (w w' : World) : Prop where
  b : Below base w w'
  g : ∀ k, G k → k < w.heap.size → w'.heap[k]? = w.heap[k]?

theorem Fr.trans {G : Nat → Prop} {base : Nat} {x y z : World} (h : Fr G base x y) (k : Fr G base y z) : Fr G base x z :=
  ⟨h.b.trans k.b, fun i hi hl => (k.g i hi (Nat.lt_of_lt_of_le hl h.b.size)).trans (h.g i hi hl)⟩

theorem Fr.drew {G : Nat → Prop} {base : Nat} {x y : World} (h : Fr G base x y) : Fr G base x y.drew := ⟨h.b.drew, h.g⟩

theorem Fr.set {G : Nat → Prop} {base : Nat} {x y : World} (h : Fr G base x y) (p : Addr) (hb : base ≤ p.block) (hg : ¬ G p.block) (u : Value) : Fr G base x (y.setCell p u) :=
  ⟨h.b.setCell hb u, fun k hk hl => (Below.heap_setCell y p u k (fun e => hg (by rw [← e]; exact hk))).trans (h.g k hk hl)⟩

theorem fr_only {G S : Nat → Prop} {base : Nat} {w w' : World} (k : Only S w w') (hb : base ≤ w.heap.size) (h1 : ∀ i, S i → base ≤ i) (h2 : ∀ i, S i → ¬ G i) : Fr G base w w' :=
  ⟨k.toBelow hb h1, fun i hi hl => k.block i hl (fun hs => h2 i hs hi)⟩

/-- What type a block has in which a shelf may lie. -/
structure HoldsSh (T : TypeId) : Prop where
  i : T ≠ 2
  b : T ≠ 118
  r : T ≠ 173
  rp : T ≠ 43
  o : T ≠ 37

theorem holds_shelf : HoldsSh 30 := ⟨by decide, by decide, by decide, by decide, by decide⟩

structure ShSg (G : Nat → Prop) (C : Array Value) (T : TypeId) (off base b : Nat) (w : World) (v1 v2 vb : Value) (bks : List Bk) (s : Sf) : Prop where
  box : w.heap[b]? = some (.cells (C.setIfInBounds (off + 2) vb) T (0, 0))
  hT : HoldsSh T
  e0 : C[off]? = some v1
  e1 : C[off + 1]? = some v2
  e2 : off + 2 < C.size
  lo : base ≤ b
  pool : OwnP base w v1 v2 s.cs s.ps
  books : OwnB base w vb bks
  eq : bks.map Bk.pb = s.bs
  ng : ∀ i, ShW b v1 v2 vb i → ¬ G i
  gl : ∀ k, G k → k < w.heap.size

variable {G : Nat → Prop} {C : Array Value} {T : TypeId} {off base b : Nat} {w w' : World} {v1 v2 vb : Value} {bks : List Bk} {s : Sf}
theorem ShSg.lt (h : ShSg G C T off base b w v1 v2 vb bks s) : b < w.heap.size := heap_lt h.box

theorem ShSg.hbase (h : ShSg G C T off base b w v1 v2 vb bks s) : base ≤ w.heap.size := Nat.le_trans h.lo (Nat.le_of_lt h.lt)

theorem ShSg.c0 (h : ShSg G C T off base b w v1 v2 vb bks s) : w.cell? ⟨b, off, none⟩ = some v1 :=
  (at_cell h.box off).trans ((Array.getElem?_setIfInBounds_ne (by omega)).trans h.e0)

theorem ShSg.c1 (h : ShSg G C T off base b w v1 v2 vb bks s) : w.cell? ⟨b, off + 1, none⟩ = some v2 :=
  (at_cell h.box (off + 1)).trans ((Array.getElem?_setIfInBounds_ne (by omega)).trans h.e1)

theorem ShSg.c2 (h : ShSg G C T off base b w v1 v2 vb bks s) : w.cell? ⟨b, off + 2, none⟩ = some vb :=
  (at_cell h.box (off + 2)).trans (by simp [h.e2])

theorem ShSg.f2 (h : ShSg G C T off base b w v1 v2 vb bks s) : w.frozen? ⟨b, off + 2, none⟩ = false := at_open h.box (off + 2)

theorem ShSg.n1 (h : ShSg G C T off base b w v1 v2 vb bks s) : v1.ownBlock ≠ some b := own_not_box h.pool.c h.box h.hT.i

theorem ShSg.n2 (h : ShSg G C T off base b w v1 v2 vb bks s) : v2.ownBlock ≠ some b := own_not_box h.pool.p h.box h.hT.i

theorem ShSg.not_box (h : ShSg G C T off base b w v1 v2 vb bks s) {n : Nat} {cs : Array Value} {U : TypeId} (k : w.heap[n]? = some (.cells cs U (0, 0))) (hU : T ≠ U) : ¬ n = b := fun e => by
  have hb := h.box
  rw [← e, k] at hb
  simp at hb
  exact hU hb.2.symm

theorem ShSg.below (h : ShSg G C T off base b w v1 v2 vb bks s) (k : Below w.heap.size w w') : ShSg G C T off base b w' v1 v2 vb bks s :=
  ⟨(k.block _ h.lt).trans h.box, h.hT, h.e0, h.e1, h.e2, h.lo, h.pool.below k, h.books.below k, h.eq, h.ng, fun i hi => Nat.lt_of_lt_of_le (h.gl i hi) k.size⟩

theorem ShSg.forms (h : ShSg G C T off base b w v1 v2 vb bks s) : ∀ x ∈ bks, ∃ o k cp, x.m = .slice o k cp := fun x hx => by
  obtain ⟨o, cp, e⟩ := own_slice (h.books.maps x hx)
  exact ⟨o, _, cp, e⟩

theorem ShSg.only_below (h : ShSg G C T off base b w v1 v2 vb bks s) (k : Only (ShW b v1 v2 vb) w w') : Fr G base w w' :=
  fr_only k h.hbase (fun i hi => by
    rcases hi with q | q | q | q
    · rw [q]; exact h.lo
    · exact (h.pool.c.lt i q).1
    · exact (h.pool.p.lt i q).1
    · exact (h.books.row.lt i q).1) h.ng

/-- The row of books is written, one book's cells: a map of one's own may be the new one. -/
theorem ShSg.put {g n cap : Nat} (h : ShSg G C T off base b w v1 v2 (.slice (some ⟨g, 0, none⟩) n cap) bks s) (i j : Nat) (hi : i < bks.length) (hj : j < 5) (y : Bk) (u : Value) (hy : (bookC bks[i]).set j u = bookC y) (hm : w.ownsRow base 173 3 y.m y.rs.length (y.rs.flatMap runC)) :
    ShSg G C T off base b (w.setCell ⟨g, i * 5 + j, none⟩ u) v1 v2 (.slice (some ⟨g, 0, none⟩) n cap) (bks.set i y) ⟨s.cs, s.ps, s.bs.set i y.pb⟩ ∧ Fr G base w (w.setCell ⟨g, i * 5 + j, none⟩ u) := by
  have hg := h.books.row.lt g rfl
  have ub : Upto g w (w.setCell ⟨g, i * 5 + j, none⟩ u) := (Upto.refl _ _).setCell ⟨g, i * 5 + j, none⟩ (.inl rfl) _
  obtain ⟨cur, hcur⟩ : ∃ cur, w.heap[g]? = some (.cells cur 118 (0, 0)) := by
    rcases h.books.row.2 with ⟨e, _⟩ | ⟨g', cap', cur, e, _, hh, _⟩
    · simp at e
    · simp only [Value.slice.injEq, Option.some.injEq, Addr.mk.injEq, and_true] at e
      obtain ⟨rfl, _⟩ := e
      exact ⟨cur, hh⟩
  have st : ∀ (e : TypeId) (kk n : Nat) (v : Value) (xs : List Value), 118 ≠ e → w.ownsRow base e kk v n xs → (w.setCell ⟨g, i * 5 + j, none⟩ u).ownsRow base e kk v n xs := fun e kk n v xs he hr =>
    own_rng_not hr (fun q hq hqv => ub.block q hq (fun hx => own_not_box hr hcur he (by rw [← hx]; exact hqv)))
  refine ⟨⟨?_, h.hT, h.e0, h.e1, h.e2, h.lo, ⟨st _ _ _ _ _ (by decide) h.pool.c, st _ _ _ _ _ (by decide) h.pool.p, h.pool.apart⟩, ⟨own_put bookC_len h.books.row i j _ y u (List.getElem?_eq_getElem hi) hj hy, fun x hx => ?_⟩, ?_, h.ng, fun k hk => Nat.lt_of_lt_of_le (h.gl k hk) ub.size⟩, h.only_below ((Only.refl _ w).setCell ⟨g, i * 5 + j, none⟩ (.inr (.inr (.inr rfl))) _)⟩
  · exact (ub.block b h.lt (fun e => h.not_box hcur h.hT.b e.symm)).trans h.box
  · rcases List.mem_or_eq_of_mem_set hx with q | rfl
    · exact st _ _ _ _ _ (by decide) (h.books.maps x q)
    · exact st _ _ _ _ _ (by decide) hm
  · rw [← h.eq, List.map_set]

/-- A shelf in a box of its own. -/
theorem ShSt.g (h : ShSt base b w v1 v2 vb bks s) : ShSg (fun _ => False) #[v1, v2, vb] 30 0 base b w v1 v2 vb bks s :=
  ⟨h.box, holds_shelf, rfl, rfl, by simp, h.lo, h.pool, h.books, h.eq, fun _ _ q => q, fun _ q => q.elim⟩

theorem ShSg.st {x : Value} (h : ShSg G #[v1, v2, x] 30 0 base b w v1 v2 vb bks s) : ShSt base b w v1 v2 vb bks s := ⟨h.box, h.lo, h.pool, h.books, h.eq⟩
end Go.Proofs.YtjhfeegilhmgkaaGreatDoor

namespace Go.Proofs.YtjhfeegilhmgkaaGreatDoor
open Go.RowKit

set_option linter.unusedVariables false

set_option maxRecDepth 100000


/-- What l8Do leaves behind. -/
def DoPostG (G : Nat → Prop) (C : Array Value) (T : TypeId) (off base b : Nat) (v1 v2 : Value) (s : Sf) (o : Oq) (w : World) (e : Ending) (w' : World) : Prop :=
  ∃ (vb' : Value) (bks' : List Bk), e = .returned (.agg #[.int .i64 (doOp s o).2.1, .int .i64 (doOp s o).2.2]) ∧ ShSg G C T off base b w' v1 v2 vb' bks' (doOp s o).1 ∧ Fr G base w w'

theorem DoPostG.drew {G : Nat → Prop} {C : Array Value} {T : TypeId} {off base b : Nat} {v1 v2 : Value} {s : Sf} {o : Oq} {w w' : World} {e : Ending} (h : DoPostG G C T off base b v1 v2 s o w e w') : DoPostG G C T off base b v1 v2 s o w e w'.drew := by
  obtain ⟨vb, bks, h1, h2, h3⟩ := h
  exact ⟨vb, bks, h1, h2.below ((Below.refl _ _).drew), h3.drew⟩
end Go.Proofs.YtjhfeegilhmgkaaGreatDoor

namespace Go.Proofs.YtjhfeegilhmgkaaGreatDoor
open Nums

set_option linter.unusedVariables false

set_option maxRecDepth 100000


/-- What of a kind lies within which limits. -/
def lmAt (k : Int) : Int := if kAt k = true then 255 else 0

def lmLo (k : Int) : Int := if kSize k = true then 1 else 0

def lmHi (k : Int) : Int := if kSize k = true then 16 else if k = 2 then 999 else 0

def lmEp (k : Int) : Int := if kEpoch k = true then 1000 else 0

def otOk (ot : ByteArray) (h : Bool) : Bool := if h = true then nameB ot.data.toList else decide (ot.size = 0)

def opBy (o : Oq) : Bool :=
  inB o.k 1 9 && nameB o.nm.data.toList && otOk o.ot (kOther o.k) && inB o.at_ 0 (lmAt o.k) && inB o.va (lmLo o.k) (lmHi o.k) && inB o.ep 0 (lmEp o.k)

theorem inB_zero (x : Int) : inB x 0 0 = decide (x = 0) := by
  rw [Bool.eq_iff_iff, inB_iff, decide_eq_true_eq]; omega

theorem inB_or (b : Bool) (x hi : Int) (h : 0 ≤ hi) : ((b || decide (x = 0)) && inB x 0 hi) = inB x 0 (if b = true then hi else 0) := by
  cases b
  · rw [Bool.eq_iff_iff]
    simp only [Bool.false_or, Bool.and_eq_true, inB_iff, decide_eq_true_eq, Bool.false_eq_true, if_false]
    omega
  · simp

theorem ot_by (ot : ByteArray) (b : Bool) : ((b == decide (ot.size ≠ 0)) && (!b || nameB ot.data.toList)) = otOk ot b := by
  cases b
  · simp [otOk]
  · unfold otOk
    rw [if_pos rfl]
    cases h : nameB ot.data.toList
    · simp
    · have := nameB_size ot h
      have e : decide (ot.size ≠ 0) = true := by simp only [decide_eq_true_eq]; omega
      rw [e]
      rfl

theorem val_by (k va : Int) : valOk k va = inB va (lmLo k) (lmHi k) := by
  unfold valOk lmLo lmHi
  split
  · rfl
  · split
    · rfl
    · exact (inB_zero va).symm

theorem opOk_by (o : Oq) : opOk o = opBy o := by
  have h1 := ot_by o.ot (kOther o.k)
  have h2 := inB_or (kAt o.k) o.at_ 255 (by omega)
  have h3 := inB_or (kEpoch o.k) o.ep 1000 (by omega)
  have h4 := val_by o.k o.va
  have e : opOk o = (nameB o.nm.data.toList && inB o.k 1 9 && ((kOther o.k == decide (o.ot.size ≠ 0)) && (!kOther o.k || nameB o.ot.data.toList)) && ((kAt o.k || decide (o.at_ = 0)) && inB o.at_ 0 255) && ((kEpoch o.k || decide (o.ep = 0)) && inB o.ep 0 1000) && valOk o.k o.va) := by
    unfold opOk
    simp only [Bool.and_assoc]
  rw [e, h1, h2, h3, h4]
  unfold opBy lmAt lmEp
  generalize nameB o.nm.data.toList = a
  generalize inB o.k 1 9 = b
  generalize otOk o.ot (kOther o.k) = c
  generalize inB o.at_ 0 _ = d
  generalize inB o.ep 0 _ = e
  generalize inB o.va _ _ = f
  cases a <;> cases b <;> cases c <;> cases d <;> cases e <;> cases f <;> rfl
end Go.Proofs.YtjhfeegilhmgkaaGreatDoor

namespace Go.Proofs.YtjhfeegilhmgkaaGreatDoor
open Go.RowKit

set_option linter.unusedVariables false

set_option maxRecDepth 100000


theorem within_any (x lo hi : Int) (w : World) :
    Calls Tryz.prog 122 #[.int .i64 x, .int .i64 lo, .int .i64 hi] w fun e w' => e = .returned (.bool (inB x lo hi)) ∧ w' = w := by
  by_cases h : lo ≤ x
  · go_enter Tryz.func122, Tryz.ntmps122
    go_wp2
    go_ret
    exact ⟨ret_bool (by simp [inB, h]), rfl⟩
  · go_enter Tryz.func122, Tryz.ntmps122
    go_wp2
    go_ret
    exact ⟨ret_bool (by simp [inB]; omega), rfl⟩

theorem otherOk_any (ot : ByteArray) (b : Bool) (w : World) (ho : ot.size ≤ maxLen) :
    Calls Tryz.prog 251 #[.string ot, .bool b] w fun e w' => e = .returned (.bool (otOk ot b)) ∧ w' = w := by
  cases b
  · have HE : Hid (_ = _) := text_nil ot
    have HV : Hid (otOk ot false = decide (ot.size = 0)) := by simp [Hid, otOk]
    go_enter Tryz.func251, Tryz.ntmps251
    go_wp2_with fail
    go_ret
    exact ⟨ret_bool (by rw [HV.out, ← HE.out]; simp), rfl⟩
  · have HV : Hid (otOk ot true = Nums.nameB ot.data.toList) := by simp [Hid, otOk]
    go_enter Tryz.func251, Tryz.ntmps251
    go_wp2_with fail
    refine (implName_any ot _ ho).mono ?_
    rintro e w' ⟨rfl, rfl⟩
    go_wp2_with fail
    go_ret
    exact ⟨ret_bool HV.out.symm, rfl⟩

/-- What limitsOf answers. -/
def limV (k : Int) : Value := .tuple #[.agg #[.bool (kOther k), .int .i64 (lmAt k), .int .i64 (lmLo k), .int .i64 (lmHi k), .int .i64 (lmEp k)], .bool (inB k 1 9)]

theorem limits_in (k : Int) (w : World) (h : k = 1 ∨ k = 2 ∨ k = 3 ∨ k = 4 ∨ k = 5 ∨ k = 6 ∨ k = 7 ∨ k = 8 ∨ k = 9) :
    Calls Tryz.prog 250 #[.int .i64 k] w fun e w' => e = .returned (limV k) ∧ Below w.heap.size w w' := by
  rcases h with rfl | rfl | rfl | rfl | rfl | rfl | rfl | rfl | rfl
  all_goals
    go_enter Tryz.func250, Tryz.ntmps250
    go_wp2_with fail
    exact bodyPost_ret (v := limV _) (by simp [results, Tryz.results250, go_sem]; rfl) rfl ⟨rfl, by go_grown⟩

theorem limits_out (k : Int) (w : World) (h : ¬ (1 ≤ k ∧ k ≤ 9)) :
    Calls Tryz.prog 250 #[.int .i64 k] w fun e w' => e = .returned (limV k) ∧ Below w.heap.size w w' := by
  have n1 : ¬ k = 1 := by omega
  have n2 : ¬ k = 2 := by omega
  have n3 : ¬ k = 3 := by omega
  have n4 : ¬ k = 4 := by omega
  have n5 : ¬ k = 5 := by omega
  have n6 : ¬ k = 6 := by omega
  have n7 : ¬ k = 7 := by omega
  have n8 : ¬ k = 8 := by omega
  have n9 : ¬ k = 9 := by omega
  have HV : Hid (limV k = .tuple #[.agg #[.bool false, .int .i64 0, .int .i64 0, .int .i64 0, .int .i64 0], .bool false]) := by
    have e : inB k 1 9 = false := by rw [Bool.eq_false_iff, ne_eq, inB_iff]; exact h
    unfold limV
    rw [Hid, e]
    simp [lmAt, lmLo, lmHi, lmEp, kAt, kSize, kEpoch, kOther, *]
  go_enter Tryz.func250, Tryz.ntmps250
  go_wp2_with fail
  exact bodyPost_ret (v := .tuple #[.agg #[.bool false, .int .i64 0, .int .i64 0, .int .i64 0, .int .i64 0], .bool false]) (by simp [results, Tryz.results250, go_sem]) rfl ⟨by rw [HV.out], by go_grown⟩

theorem limits_any (k : Int) (w : World) :
    Calls Tryz.prog 250 #[.int .i64 k] w fun e w' => e = .returned (limV k) ∧ Below w.heap.size w w' := by
  by_cases h : 1 ≤ k ∧ k ≤ 9
  · exact limits_in k w (by omega)
  · exact limits_out k w h

set_option maxHeartbeats 1600000 in
theorem implOpOk_any (k : Int) (nm ot : ByteArray) (at_ va ep : Int) (w : World) (hn : nm.size ≤ maxLen) (ho : ot.size ≤ maxLen) (fk : I64 k) (fa : I64 at_) (fv : I64 va) (fe : I64 ep) :
    Calls Tryz.prog 224 #[.agg #[.int .i64 k, .string nm, .string ot, .int .i64 at_, .int .i64 va, .int .i64 ep]] w fun e w' => e = .returned (.bool (opOk ⟨k, nm, ot, at_, va, ep⟩)) ∧ Below w.heap.size w w' := by
  rw [opOk_by]
  obtain ⟨W0, hW0, k0, d0, z0⟩ := box1 w #[.int .i64 k, .string nm, .string ot, .int .i64 at_, .int .i64 va, .int .i64 ep] 37
  have HW0 : Hid (W0 = _) := hW0
  have s0 := heap_lt k0
  have p0 := at_cell k0 0
  clear hW0 z0
  go_enter Tryz.func224, Tryz.ntmps224
  go_wp2_with fail
  rw [← HW0.out]
  clear HW0 p0
  refine (limits_any k _).mono ?_
  unfold limV
  rintro e w1 ⟨rfl, b1⟩
  replace k0 := (b1.block _ s0).trans k0
  replace d0 := bw_call d0 b1
  have t0 := heap_lt k0
  have o1 := at_cell k0 1
  obtain ⟨W1, hW1, k1, d1, z1⟩ := box1 w1 #[.bool (kOther k), .int .i64 (lmAt k), .int .i64 (lmLo k), .int .i64 (lmHi k), .int .i64 (lmEp k)] 271
  have HW1 : Hid (W1 = _) := hW1
  replace k0 := (d1.block _ t0).trans k0
  replace d0 := bw_call d0 d1
  have p1 := at_cell k0 1
  have p2 := at_cell k0 2
  have p3 := at_cell k0 3
  have p4 := at_cell k0 4
  have p5 := at_cell k0 5
  have r0 := at_cell k1 0
  have r1 := at_cell k1 1
  have r2 := at_cell k1 2
  have r3 := at_cell k1 3
  have r4 := at_cell k1 4
  have HB : Hid (opBy ⟨k, nm, ot, at_, va, ep⟩ = (inB k 1 9 && Nums.nameB nm.data.toList && otOk ot (kOther k) && inB at_ 0 (lmAt k) && inB va (lmLo k) (lmHi k) && inB ep 0 (lmEp k))) := rfl
  clear b1 d1 z1 hW1 k0 k1 s0
  generalize kOther k = x0 at *
  generalize lmAt k = x1 at *
  generalize lmLo k = x2 at *
  generalize lmHi k = x3 at *
  generalize lmEp k = x4 at *
  generalize inB k 1 9 = c0 at *
  cases c0
  · go_wp2_with fail
    rw [← HW1.out]
    clear HW1
    go_ret
    exact ⟨ret_bool (by rw [HB.out]; rfl), d0⟩
  go_wp2_with fail
  rw [← HW1.out]
  clear HW1 o1 t0
  refine (implName_any nm _ hn).mono ?_
  rintro e w' ⟨rfl, rfl⟩
  generalize Nums.nameB nm.data.toList = c1 at *
  cases c1
  · go_wp2_with fail
    go_ret
    exact ⟨ret_bool (by rw [HB.out]; rfl), d0⟩
  go_wp2_with fail
  refine (otherOk_any ot x0 _ ho).mono ?_
  rintro e w' ⟨rfl, rfl⟩
  generalize otOk ot x0 = c2 at *
  cases c2
  · go_wp2_with fail
    go_ret
    exact ⟨ret_bool (by rw [HB.out]; rfl), d0⟩
  go_wp2_with fail
  refine (within_any at_ 0 x1 _).mono ?_
  rintro e w' ⟨rfl, rfl⟩
  generalize inB at_ 0 x1 = c3 at *
  cases c3
  · go_wp2_with fail
    go_ret
    exact ⟨ret_bool (by rw [HB.out]; rfl), d0⟩
  go_wp2_with fail
  refine (within_any va x2 x3 _).mono ?_
  rintro e w' ⟨rfl, rfl⟩
  generalize inB va x2 x3 = c4 at *
  cases c4
  · go_wp2_with fail
    go_ret
    exact ⟨ret_bool (by rw [HB.out]; rfl), d0⟩
  go_wp2_with fail
  refine (within_any ep 0 x4 _).mono ?_
  rintro e w' ⟨rfl, rfl⟩
  generalize inB ep 0 x4 = c5 at *
  go_wp2_with fail
  go_ret
  exact ⟨ret_bool (by rw [HB.out]; rfl), d0⟩

theorem implChanges_any (k : Int) (nm ot : ByteArray) (at_ va ep : Int) (w : World) (hn : nm.size ≤ maxLen) (ho : ot.size ≤ maxLen) (fk : I64 k) (fa : I64 at_) (fv : I64 va) (fe : I64 ep) :
    Calls Tryz.prog 206 #[.agg #[.int .i64 k, .string nm, .string ot, .int .i64 at_, .int .i64 va, .int .i64 ep]] w fun e w' => e = .returned (.bool (changes ⟨k, nm, ot, at_, va, ep⟩)) ∧ Below w.heap.size w w' := by
  obtain ⟨W0, hW0, k0, d0, z0⟩ := box1 w #[.int .i64 k, .string nm, .string ot, .int .i64 at_, .int .i64 va, .int .i64 ep] 37
  have HW0 : Hid (W0 = _) := hW0
  have s0 := heap_lt k0
  clear hW0 z0
  go_enter Tryz.func206, Tryz.ntmps206
  go_wp2_with fail
  rw [← HW0.out]
  clear HW0
  refine (implOpOk_any k nm ot at_ va ep _ hn ho fk fa fv fe).mono ?_
  rintro e w1 ⟨rfl, b1⟩
  replace k0 := (b1.block _ s0).trans k0
  replace d0 := bw_call d0 b1
  have p0 := at_cell k0 0
  clear b1 k0
  have HC : Hid (changes ⟨k, nm, ot, at_, va, ep⟩ = (opOk ⟨k, nm, ot, at_, va, ep⟩ && decide (k ≠ 9))) := rfl
  generalize opOk ⟨k, nm, ot, at_, va, ep⟩ = c at *
  cases c
  · go_wp2_with fail
    go_ret
    exact ⟨ret_bool (by rw [HC.out]; rfl), d0⟩
  · go_wp2_with fail
    go_ret
    exact ⟨ret_bool (by rw [HC.out]; simp; rfl), d0⟩
end Go.Proofs.YtjhfeegilhmgkaaGreatDoor

namespace Go.Proofs.YtjhfeegilhmgkaaGreatDoor
open Go.RowKit

set_option linter.unusedVariables false

set_option maxRecDepth 100000


theorem clientOk_any (x : Int) (w : World) : Calls Tryz.prog 204 #[.int .i64 x] w fun e w' => e = .returned (.bool (inB x 0 3)) ∧ w' = w := by
  go_enter Tryz.func204, Tryz.ntmps204
  go_wp2_with fail
  refine (within_any x 0 3 _).mono ?_
  rintro e w' ⟨rfl, rfl⟩
  go_wp2_with fail
  go_ret
  exact ⟨rfl, rfl⟩

theorem tagOk_any (x : Int) (w : World) : Calls Tryz.prog 205 #[.int .i64 x] w fun e w' => e = .returned (.bool (inB x 1 1000)) ∧ w' = w := by
  go_enter Tryz.func205, Tryz.ntmps205
  go_wp2_with fail
  refine (within_any x 1 1000 _).mono ?_
  rintro e w' ⟨rfl, rfl⟩
  go_wp2_with fail
  go_ret
  exact ⟨rfl, rfl⟩
end Go.Proofs.YtjhfeegilhmgkaaGreatDoor

namespace Go.Proofs.YtjhfeegilhmgkaaGreatDoor
open Go.RowKit

set_option linter.unusedVariables false

set_option maxRecDepth 100000


theorem run_copy_all {P : Program} (w : World) (T ty e : TypeId) (hu : P.underlying T = some (.slice e)) (hsz : (P.info? e).map (·.size) = some 1)
    (base g n cap : Nat) (ys news : List Value) (hown : w.ownsRow base e 1 (.slice (some ⟨g, 0, none⟩) n cap) n ys)
    (ad : Option Addr) (c : Nat) (hl : news.length = n) (hnews : ∀ j u, news[j]? = some u → ∃ g off, ad = some ⟨g, off, none⟩ ∧ w.cell? ⟨g, off + j, none⟩ = some u) (h1 : ∀ u ∈ news, u.oneCell' = true) :
    ∃ w', (Builtin.copy_ #[T, T] ty #[.slice (some ⟨g, 0, none⟩) n cap, .slice ad n c]).run P w = .ok (.int .i64 n) w' ∧ w'.ownsRow base e 1 (.slice (some ⟨g, 0, none⟩) n cap) n news ∧ Upto g w w' := by
  rcases Nat.eq_zero_or_pos n with hn | hn
  · subst hn
    have e1 : news = [] := List.length_eq_zero_iff.1 hl
    have e2 : ys = [] := List.length_eq_zero_iff.1 (by simpa using hown.1)
    subst e1
    subst e2
    exact ⟨w, run_copy_none (P := P) w T T ty e _ _ 0 cap 0 c hu hsz rfl, hown, Upto.refl _ _⟩
  · obtain ⟨g', off, rfl, _⟩ := hnews 0 _ (List.getElem?_eq_getElem (show 0 < news.length by omega))
    have hsrc : ∀ j v, news[j]? = some v → w.cell? ((⟨g', off, none⟩ : Addr).add j) = some v := fun j u hj => by
      obtain ⟨g2, off2, e2, hc⟩ := hnews j u hj
      cases e2
      have ea : (⟨g', off, none⟩ : Addr).add j = ⟨g', off + j, none⟩ := by unfold Addr.add; split <;> simp_all
      rw [ea]; exact hc
    rcases hown.2 with ⟨h', _⟩ | ⟨g2, cap2, cur, h', hbg, hg, hnc, hcm, hcs, htake⟩
    · cases h'
    · simp only [Value.slice.injEq, Option.some.injEq, Addr.mk.injEq, and_true, true_and] at h'
      obtain ⟨rfl, rfl⟩ := h'
      have hr := run_copy_row (P := P) w T T ty e g 0 n cap ⟨g', off, none⟩ n c cur e news hu hsz hg (by rw [hl]; exact (Nat.min_self n).symm) hsrc (by omega) h1
      rw [hl] at hr
      refine ⟨_, hr, ⟨by omega, .inr ⟨g, cap, _, rfl, hbg, setRow_heap w g cur _ e _ hg, hnc, hcm, ?_, ?_⟩⟩, ⟨rfl, rfl, rfl, by simp, fun k _ hk => setRow_other w g k _ hk⟩⟩
      · simp; omega
      · rw [Nat.mul_one, List.take_zero, List.nil_append, ← hl]
        exact List.take_left
end Go.Proofs.YtjhfeegilhmgkaaGreatDoor

namespace Go.Proofs.YtjhfeegilhmgkaaGreatDoor
open Go.RowKit

set_option linter.unusedVariables false

set_option maxRecDepth 100000


theorem pageCountOk_any (n : Int) (w : World) :
    Calls Tryz.prog 195 #[.int .i64 n] w fun e w' => e = .returned (.bool (decide (1 ≤ n) && decide (n ≤ 24))) ∧ w' = w := by
  by_cases h : (1 : Int) ≤ n
  · go_enter Tryz.func195, Tryz.ntmps195
    go_wp2
    go_ret
    exact ⟨ret_bool (by simp [h]), rfl⟩
  · go_enter Tryz.func195, Tryz.ntmps195
    go_wp2
    go_ret
    exact ⟨ret_bool (by simp; omega), rfl⟩

set_option maxHeartbeats 800000 in
theorem implNewPool_any (n : Int) (w : World) :
    Calls Tryz.prog 175 #[.int .i64 n] w fun e w' => ∃ u1 u2 : Value, e = .returned (.tuple #[.agg #[u1, u2], .bool (newPool n).2]) ∧ OwnP w.heap.size w' u1 u2 (newPool n).1.1 (newPool n).1.2 ∧ Below w.heap.size w w' := by
  obtain ⟨W0, hW0, k0, d0, z0⟩ := pool_box w (.slice none 0 0) (.slice none 0 0) 27
  have HW0 : Hid (W0 = _) := hW0
  have p0 := at_cell k0 0
  have p1 := at_cell k0 1
  have f0 := at_open k0 0
  have f1 := at_open k0 1
  clear hW0
  cases hn : (decide ((1 : Int) ≤ n) && decide (n ≤ 24))
  · have hv : newPool n = (([], []), false) := by
      unfold newPool
      rw [if_neg]
      rintro ⟨h1, h2⟩
      simp [h1, h2] at hn
    rw [hv]
    have HS : Hid _ := pool_end w W0 (.slice none 0 0) (.slice none 0 0) _ _ w.heap.size [] [] (Nat.le_refl _) k0 (OwnP.nil _ _) d0
    clear hv k0
    go_enter Tryz.func175, Tryz.ntmps175
    go_wp2_with fail
    rw [← HW0.out]
    refine (pageCountOk_any _ _).mono ?_
    rintro e w' ⟨rfl, rfl⟩
    rw [hn]
    go_wp2_with fail
    exact bodyPost_ret (v := .tuple #[.agg #[.slice none 0 0, .slice none 0 0], .bool false]) (by simp [results, Tryz.results175, go_sem, at_cell HS.out.1]) rfl ⟨_, _, rfl, HS.out.2⟩
  · have hb : 1 ≤ n ∧ n ≤ 24 := by simpa using hn
    obtain ⟨m, rfl⟩ := Int.eq_ofNat_of_zero_le (show 0 ≤ n by omega)
    have hv : newPool (m : Int) = ((List.replicate m 0, List.replicate m 0), true) := by
      unfold newPool
      rw [if_pos hb, Int.toNat_natCast]
    rw [hv]
    obtain ⟨M, hM, hmk, hown⟩ := made_ints m (by omega)
    clear hv
    go_enter Tryz.func175, Tryz.ntmps175
    go_wp2_with fail
    rw [← HW0.out]
    refine (pageCountOk_any _ _).mono ?_
    rintro e w' ⟨rfl, rfl⟩
    rw [hn]
    go_wp2_with fail
    go_region
    · have HS : Hid _ := new_end k0 d0 z0 hown (w.heap.size + 1) (w.heap.size + 1 + 1) (.inl ⟨rfl, rfl⟩)
      clear k0 d0 hown hmk HW0
      go_wp2_with fail
      exact bodyPost_ret (v := .tuple #[.agg #[.slice (some ⟨w.heap.size + 1, 0, none⟩) m m, .slice (some ⟨w.heap.size + 1 + 1, 0, none⟩) m m], .bool true]) (by simp [results, Tryz.results175, go_sem, at_cell HS.out.1]) rfl ⟨_, _, rfl, HS.out.2⟩
    · have HS : Hid _ := new_end k0 d0 z0 hown (w.heap.size + 1 + 1) (w.heap.size + 1) (.inr ⟨rfl, rfl⟩)
      clear k0 d0 hown hmk HW0
      go_wp2_with fail
      exact bodyPost_ret (v := .tuple #[.agg #[.slice (some ⟨w.heap.size + 1 + 1, 0, none⟩) m m, .slice (some ⟨w.heap.size + 1, 0, none⟩) m m], .bool true]) (by simp [results, Tryz.results175, go_sem, at_cell HS.out.1]) rfl ⟨_, _, rfl, HS.out.2⟩

set_option maxHeartbeats 800000 in
theorem sameNumbers_any (v : Value) (xs : List Int) (w : World) (hn : xs.length ≤ 1048576) (h : Reads w.heap.size w v (xs.map (Value.int .i64))) :
    Calls Tryz.prog 196 #[v] w fun e w' => ∃ v' : Value, e = .returned v' ∧ w'.ownsRow w.heap.size 2 1 v' xs.length (xs.map (Value.int .i64)) ∧ v' ≠ .slice none 0 0 ∧ Below w.heap.size w w' := by
  obtain ⟨i0, hi, hz0, hz1, hz2⟩ := info_parts Tryz.infoI64
  obtain ⟨o, cap, rfl, hm, hc, hroom⟩ := h
  have hl : (xs.map (Value.int .i64)).length = xs.length := by simp
  rw [hl] at hm ⊢
  obtain ⟨M, hM, hmk, hown⟩ := made_ints xs.length hn
  have own0 := hown w w.heap.size (Nat.le_refl _)
  have d0 : Below w.heap.size w (w.alloc (.cells M 2)) := bw_alloc (Below.refl _ _)
  have HC : Hid (∀ j u, (xs.map (Value.int .i64))[j]? = some u → ∃ g off, o = some ⟨g, off, none⟩ ∧ (w.alloc (.cells M 2)).cell? ⟨g, off + j, none⟩ = some u) := fun j u hj => by
    obtain ⟨g, off, e, hg, hx⟩ := hc j u hj
    exact ⟨g, off, e, (d0.cell (p := ⟨g, off + j, none⟩) hg).trans hx⟩
  obtain ⟨w', hrun, hown2, hu⟩ := run_copy_all (P := Tryz.prog) (w.alloc (.cells M 2)) 25 3 2 Tryz.underlying25 (by rw [hi]; simp [hz1]) w.heap.size w.heap.size xs.length xs.length _ (xs.map (Value.int .i64)) own0 o cap hl HC.out (fun u hu => by simp at hu; obtain ⟨a, _, rfl⟩ := hu; rfl)
  have hb : Below w.heap.size w w' := d0.trans (hu.toBelow (by simp) (Nat.le_refl _))
  have HO : Hid _ := hown2
  clear own0 d0 HC hu hc hl hown hM hown2
  have hm8 : xs.length ≤ 9223372036854775807 := by omega
  go_enter Tryz.func196, Tryz.ntmps196
  go_wp2_with fail
  go_ret
  exact ⟨_, rfl, HO.out, by simp, hb⟩
end Go.Proofs.YtjhfeegilhmgkaaGreatDoor

