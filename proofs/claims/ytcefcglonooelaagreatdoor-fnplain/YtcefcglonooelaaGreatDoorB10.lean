/-
  Contracts and plain laws, one chapter behind the other.
-/
import Derived.Test.YtcefcglonooelaaGreatDoorB06
import Derived.Test.YtcefcglonooelaaGreatDoorB09
namespace Go.Proofs.YtcefcglonooelaaGreatDoor
open Go.RowKit

set_option linter.unusedVariables false

set_option maxRecDepth 100000


theorem new_five (w : World) (b : Bk) (t : TypeId) : ∀ (j : Nat) (u : Value), (bookC b)[j]? = some u → (w.alloc (.cells #[.string b.nm, .int .i64 b.sz, b.m, .bool b.fx, .int .i64 b.ep] t)).cell? ((⟨w.heap.size, 0, none⟩ : Addr).add j) = some u := by
  intro j u hj
  rw [addr_add]
  have e := World.cell?_alloc_mark w #[.string b.nm, .int .i64 b.sz, b.m, .bool b.fx, .int .i64 b.ep] t (0, 0) j
  exact e.trans ((show (#[Value.string b.nm, .int .i64 b.sz, b.m, .bool b.fx, .int .i64 b.ep] : Array Value)[j]? = (bookC b)[j]? by simp [bookC]).trans hj)

theorem one_book (b : Bk) (h : ∃ o k cp, b.m = .slice o k cp) : ∀ u ∈ bookC b, u.oneCell' = true := fun u hu => by
  obtain ⟨o, k, cp, h⟩ := h
  simp [bookC, h] at hu
  rcases hu with rfl | rfl | rfl | rfl | rfl <;> rfl

/-- A row of another type stays where a row grows. -/
theorem own_grown {w w' : World} {base base' : Nat} {e e' : TypeId} {k k' : Nat} {v : Value} {n n' g cp : Nat} {xs ys : List Value} (h : w.ownsRow base e k v n xs) (r : w.ownsRow base' e' k' (.slice (some ⟨g, 0, none⟩) n' cp) n' ys) (hne : e' ≠ e) (hg : w.grownBy w' (some g)) : w'.ownsRow base e k v n xs := by
  have u : Upto g w w' := (Upto.refl g w).grown hg (fun q hq => .inr (by cases hq; rfl))
  rcases r.2 with ⟨h0, _⟩ | ⟨g', cap', cur, h0, _, hh, _⟩
  · simp at h0
  · simp at h0
    obtain ⟨rfl, _⟩ := h0
    have hv := own_not_box h hh hne
    exact own_rng_not h (fun q hq hqv => u.block q hq (fun e => hv (by rw [← e]; exact hqv)))

/-- What the laws know of a book that was drawn. -/
structure Drawn (w : World) (b : Bk) : Prop where
  reads : ReadsR 3 runC w.heap.size w b.m b.rs
  fit : FitRuns b.rs
  nm : b.nm.size ≤ maxLen

theorem Drawn.below {w w' : World} {b : Bk} (h : Drawn w b) (k : Below w.heap.size w w') : Drawn w' b := ⟨(h.reads.below k).mono k.size, h.fit, h.nm⟩
end Go.Proofs.YtcefcglonooelaaGreatDoor

namespace Go.Proofs.YtcefcglonooelaaGreatDoor
open Go.RowKit

set_option linter.unusedVariables false

set_option maxRecDepth 100000


/-- The cells of what is read, one behind the other. -/
theorem flat_src {α : Type} {k : Nat} {cs : α → List Value} (hk : ∀ x, (cs x).length = k) (hk0 : 0 < k) {B : Nat} {w : World} {o : Option Addr} {n cap : Nat} {xs : List α} (h : ReadsR k cs B w (.slice o n cap) xs) : ∀ j u, (xs.flatMap cs)[j]? = some u → ∃ g off, o = some ⟨g, off, none⟩ ∧ w.cell? ⟨g, off + j, none⟩ = some u := fun j u hj => by
  obtain ⟨o', cap', e, -, hc, -⟩ := h
  simp only [Value.slice.injEq] at e
  obtain ⟨rfl, rfl, rfl⟩ := e
  have hjl := (List.getElem?_eq_some_iff.1 hj).1
  rw [flat_length hk] at hjl
  have hi3 : j / k < xs.length := Nat.div_lt_of_lt_mul (by rw [Nat.mul_comm]; exact hjl)
  obtain ⟨g, off, e, hg, hx⟩ := hc (j / k) xs[j / k] (List.getElem?_eq_getElem hi3)
  refine ⟨g, off, e, ?_⟩
  have hm := Nat.mod_lt j hk0
  have hd : j / k * k + j % k = j := by rw [Nat.mul_comm]; exact Nat.div_add_mod j k
  have hf := flat_get hk xs (j / k) (j % k) xs[j / k] (List.getElem?_eq_getElem hi3) hm
  rw [hd] at hf
  have := hx (j % k) u (by rw [← hf]; exact hj)
  rwa [show off + j / k * k + j % k = off + j by omega] at this

theorem runs_one (rs : List (Int × Int × Int)) : ∀ u ∈ rs.flatMap runC, u.oneCell' = true := fun u hu => by
  obtain ⟨x, _, hx⟩ := List.mem_flatMap.1 hu
  simp [runC] at hx
  rcases hx with rfl | rfl | rfl <;> rfl

theorem books_one (bs : List Bk) (h : ∀ b ∈ bs, ∃ o k cp, b.m = .slice o k cp) : ∀ u ∈ bs.flatMap bookC, u.oneCell' = true := fun u hu => by
  obtain ⟨x, hx1, hx⟩ := List.mem_flatMap.1 hu
  exact one_book x (h x hx1) u hx

theorem ReadsR.drop {α : Type} {k : Nat} {cs : α → List Value} {B : Nat} {w : World} {g off n cap : Nat} {xs : List α} (h : ReadsR k cs B w (.slice (some ⟨g, off, none⟩) n cap) xs) (i : Nat) (hi : i ≤ n) : ReadsR k cs B w (.slice (some ⟨g, off + i * k, none⟩) (n - i) (cap - i)) (xs.drop i) := by
  obtain ⟨o', cap', e, hm, hc, hr⟩ := h
  simp only [Value.slice.injEq] at e
  obtain ⟨rfl, rfl, rfl⟩ := e
  refine ⟨_, _, by rw [List.length_drop], by rw [List.length_drop]; omega, fun j x hj => ?_, by rw [List.length_drop]; omega⟩
  rw [List.getElem?_drop] at hj
  obtain ⟨g', off', e, hg, hx⟩ := hc (i + j) x hj
  simp only [Option.some.injEq, Addr.mk.injEq, and_true] at e
  obtain ⟨rfl, rfl⟩ := e
  refine ⟨g, off + i * k, rfl, hg, fun q u hq => ?_⟩
  have := hx q u hq
  rwa [show off + (i + j) * k + q = off + i * k + j * k + q by rw [Nat.add_mul]; omega] at this

theorem ReadsR.take {α : Type} {k : Nat} {cs : α → List Value} {B : Nat} {w : World} {o : Option Addr} {n cap : Nat} {xs : List α} (h : ReadsR k cs B w (.slice o n cap) xs) (i : Nat) (hi : i ≤ n) : ReadsR k cs B w (.slice o i cap) (xs.take i) := by
  obtain ⟨o', cap', e, hm, hc, hr⟩ := h
  simp only [Value.slice.injEq] at e
  obtain ⟨rfl, rfl, rfl⟩ := e
  have hl : (xs.take i).length = i := by rw [List.length_take]; omega
  refine ⟨_, _, by rw [hl], by rw [hl]; omega, fun j x hj => ?_, by rw [hl]; omega⟩
  rw [List.getElem?_take] at hj
  split at hj
  · exact hc j x hj
  · cases hj

/-- A box of another type is written: the row stays. -/
theorem own_box {w : World} {base b : Nat} {e t : TypeId} {k n : Nat} {v : Value} {xs : List Value} {cs : Array Value} (h : w.ownsRow base e k v n xs) (hb : w.heap[b]? = some (.cells cs t (0, 0))) (ht : t ≠ e) (i : Nat) (u : Value) : (w.setCell ⟨b, i, none⟩ u).ownsRow base e k v n xs :=
  own_rng_not h (fun q hq hqv => Below.heap_setCell w ⟨b, i, none⟩ u q (fun hx => own_not_box h hb ht (by rw [hqv]; exact congrArg some hx)))

/-! ### The shelf's state -/
/-- A shelf of one's own: its box, the pool's rows, the row of books and each map. -/
structure ShSt (base b : Nat) (w : World) (v1 v2 vb : Value) (bks : List Bk) (s : Sf) : Prop where
  box : w.heap[b]? = some (.cells #[v1, v2, vb] 42 (0, 0))
  lo : base ≤ b
  pool : OwnP base w v1 v2 s.cs s.ps
  books : OwnB base w vb bks
  eq : bks.map Bk.pb = s.bs

theorem ShSt.below {base b : Nat} {w w' : World} {v1 v2 vb : Value} {bks : List Bk} {s : Sf} (h : ShSt base b w v1 v2 vb bks s) (k : Below w.heap.size w w') : ShSt base b w' v1 v2 vb bks s :=
  ⟨(k.block _ (heap_lt h.box)).trans h.box, h.lo, h.pool.below k, h.books.below k, h.eq⟩

theorem ShSt.forms {base b : Nat} {w : World} {v1 v2 vb : Value} {bks : List Bk} {s : Sf} (h : ShSt base b w v1 v2 vb bks s) : ∀ x ∈ bks, ∃ o k cp, x.m = .slice o k cp := fun x hx => by
  obtain ⟨o, cp, e⟩ := own_slice (h.books.maps x hx)
  exact ⟨o, _, cp, e⟩

theorem ShSt.len {base b : Nat} {w : World} {v1 v2 vb : Value} {bks : List Bk} {s : Sf} (h : ShSt base b w v1 v2 vb bks s) : bks.length = s.bs.length := by rw [← h.eq, List.length_map]

/-- Two rows whose items differ in type never are one block. -/
theorem rows_apart {w : World} {base base' : Nat} {e e' : TypeId} {k k' : Nat} {v v' : Value} {n n' : Nat} {xs ys : List Value} (h : w.ownsRow base e k v n xs) (h' : w.ownsRow base' e' k' v' n' ys) (hne : e' ≠ e) (g : Nat) (hg : v'.ownBlock = some g) : v.ownBlock ≠ some g := by
  rcases h'.2 with ⟨rfl, _⟩ | ⟨g', cap', cur, rfl, _, hh, _⟩
  · simp [Value.ownBlock] at hg
  · simp [Value.ownBlock] at hg
    subst hg
    exact own_not_box h hh hne

/-- Where only the pool's rows are written, the rest of the shelf stays. -/
theorem ShSt.pooled {base b : Nat} {w w' : World} {v1 v2 vb : Value} {bks : List Bk} {s : Sf} (h : ShSt base b w v1 v2 vb bks s) {cs ps : List Int} (own : OwnP base w' v1 v2 cs ps) (k : Only (fun i => v1.ownBlock = some i ∨ v2.ownBlock = some i) w w') : ShSt base b w' v1 v2 vb bks ⟨cs, ps, s.bs⟩ := by
  have nb : ∀ (e : TypeId) (kk n : Nat) (v : Value) (xs : List Value), 2 ≠ e → w.ownsRow base e kk v n xs → w'.ownsRow base e kk v n xs := fun e kk n v xs he hr =>
    own_only hr k (fun g hg hS => by
      rcases hS with q | q
      · exact rows_apart hr h.pool.c he g q hg
      · exact rows_apart hr h.pool.p he g q hg)
  refine ⟨?_, h.lo, own, ⟨nb _ _ _ _ _ (by decide) h.books.row, fun x hx => nb _ _ _ _ _ (by decide) (h.books.maps x hx)⟩, h.eq⟩
  refine (k.block b (heap_lt h.box) (fun hS => ?_)).trans h.box
  rcases hS with q | q
  · exact own_not_box h.pool.c h.box (by decide) q
  · exact own_not_box h.pool.p h.box (by decide) q

theorem ShSt.pool_only {base b : Nat} {w w' : World} {v1 v2 vb : Value} {bks : List Bk} {s : Sf} (h : ShSt base b w v1 v2 vb bks s) (k : Only (fun i => v1.ownBlock = some i ∨ v2.ownBlock = some i) w w') : Below base w w' :=
  k.toBelow (Nat.le_trans h.lo (Nat.le_of_lt (heap_lt h.box))) (fun i hi => by
    rcases hi with q | q
    · exact (h.pool.c.lt i q).1
    · exact (h.pool.p.lt i q).1)

/-- The row of books is written, one book's cells: a map of one's own may be the new one. -/
theorem ShSt.put {base b g n cap : Nat} {w : World} {v1 v2 : Value} {bks : List Bk} {s : Sf} (h : ShSt base b w v1 v2 (.slice (some ⟨g, 0, none⟩) n cap) bks s) (i j : Nat) (hi : i < bks.length) (hj : j < 5) (y : Bk) (u : Value) (hy : (bookC bks[i]).set j u = bookC y) (hm : w.ownsRow base 129 3 y.m y.rs.length (y.rs.flatMap runC)) :
    ShSt base b (w.setCell ⟨g, i * 5 + j, none⟩ u) v1 v2 (.slice (some ⟨g, 0, none⟩) n cap) (bks.set i y) ⟨s.cs, s.ps, s.bs.set i y.pb⟩ ∧ Below base w (w.setCell ⟨g, i * 5 + j, none⟩ u) := by
  have hg := h.books.row.lt g rfl
  have ub : Upto g w (w.setCell ⟨g, i * 5 + j, none⟩ u) := (Upto.refl _ _).setCell ⟨g, i * 5 + j, none⟩ (.inl rfl) _
  obtain ⟨cur, hcur⟩ : ∃ cur, w.heap[g]? = some (.cells cur 87 (0, 0)) := by
    rcases h.books.row.2 with ⟨e, _⟩ | ⟨g', cap', cur, e, _, hh, _⟩
    · simp at e
    · simp only [Value.slice.injEq, Option.some.injEq, Addr.mk.injEq, and_true] at e
      obtain ⟨rfl, _⟩ := e
      exact ⟨cur, hh⟩
  have st : ∀ (e : TypeId) (kk n : Nat) (v : Value) (xs : List Value), 87 ≠ e → w.ownsRow base e kk v n xs → (w.setCell ⟨g, i * 5 + j, none⟩ u).ownsRow base e kk v n xs := fun e kk n v xs he hr =>
    own_rng_not hr (fun q hq hqv => ub.block q hq (fun hx => own_not_box hr hcur he (by rw [← hx]; exact hqv)))
  refine ⟨⟨?_, h.lo, ⟨st _ _ _ _ _ (by decide) h.pool.c, st _ _ _ _ _ (by decide) h.pool.p, h.pool.apart⟩, ⟨own_put bookC_len h.books.row i j _ y u (List.getElem?_eq_getElem hi) hj hy, fun x hx => ?_⟩, ?_⟩, ub.toBelow (Nat.le_trans h.lo (Nat.le_of_lt (heap_lt h.box))) hg.1⟩
  · refine (ub.block b (heap_lt h.box) (fun e => ?_)).trans h.box
    rw [← e, h.box] at hcur
    simp at hcur
  · rcases List.mem_or_eq_of_mem_set hx with q | rfl
    · exact st _ _ _ _ _ (by decide) (h.books.maps x q)
    · exact st _ _ _ _ _ (by decide) hm
  · rw [← h.eq, List.map_set]

/-- The shelf's box takes another row of books. -/
theorem ShSt.rebook {base b : Nat} {w : World} {v1 v2 vb vb' : Value} {bks bks' : List Bk} {s : Sf} (h : ShSt base b w v1 v2 vb bks s) (nb : OwnB base w vb' bks') : ShSt base b (w.setCell ⟨b, 2, none⟩ vb') v1 v2 vb' bks' ⟨s.cs, s.ps, bks'.map Bk.pb⟩ ∧ Below base w (w.setCell ⟨b, 2, none⟩ vb') := by
  have ub : Upto b w (w.setCell ⟨b, 2, none⟩ vb') := (Upto.refl _ _).setCell ⟨b, 2, none⟩ (.inl rfl) _
  have st : ∀ (e : TypeId) (kk n : Nat) (v : Value) (xs : List Value), 42 ≠ e → w.ownsRow base e kk v n xs → (w.setCell ⟨b, 2, none⟩ vb').ownsRow base e kk v n xs := fun e kk n v xs he hr =>
    own_rng_not hr (fun q hq hqv => ub.block q hq (fun hx => own_not_box hr h.box he (by rw [← hx]; exact hqv)))
  exact ⟨⟨set_at h.box 2 vb', h.lo, ⟨st _ _ _ _ _ (by decide) h.pool.c, st _ _ _ _ _ (by decide) h.pool.p, h.pool.apart⟩, ⟨st _ _ _ _ _ (by decide) nb.row, fun x hx => st _ _ _ _ _ (by decide) (nb.maps x hx)⟩, rfl⟩, ub.toBelow (Nat.le_trans h.lo (Nat.le_of_lt (heap_lt h.box))) h.lo⟩

/-- The blocks of a shelf that may be written. -/
def ShW (b : Nat) (v1 v2 vb : Value) (i : Nat) : Prop := i = b ∨ v1.ownBlock = some i ∨ v2.ownBlock = some i ∨ vb.ownBlock = some i

theorem ShSt.only_below {base b : Nat} {w w' : World} {v1 v2 vb : Value} {bks : List Bk} {s : Sf} (h : ShSt base b w v1 v2 vb bks s) (k : Only (ShW b v1 v2 vb) w w') : Below base w w' :=
  k.toBelow (Nat.le_trans h.lo (Nat.le_of_lt (heap_lt h.box))) (fun i hi => by
    rcases hi with q | q | q | q
    · rw [q]; exact h.lo
    · exact (h.pool.c.lt i q).1
    · exact (h.pool.p.lt i q).1
    · exact (h.books.row.lt i q).1)

/-- A box of another type stays. -/
theorem ShSt.keeps {base b n : Nat} {w w' : World} {v1 v2 vb : Value} {bks : List Bk} {s : Sf} {cs : Array Value} {T : TypeId} (h : ShSt base b w v1 v2 vb bks s) (k : Only (ShW b v1 v2 vb) w w') (hb : w.heap[n]? = some (.cells cs T (0, 0))) (t1 : T ≠ 42) (t2 : T ≠ 2) (t3 : T ≠ 87) : w'.heap[n]? = some (.cells cs T (0, 0)) := by
  refine (k.block n (heap_lt hb) (fun hi => ?_)).trans hb
  rcases hi with q | q | q | q
  · rw [q, h.box] at hb
    simp at hb
    exact t1 hb.2.symm
  · exact own_not_box h.pool.c hb t2 q
  · exact own_not_box h.pool.p hb t2 q
  · exact own_not_box h.books.row hb t3 q

theorem ShSt.keeps_b {base b n : Nat} {w w' : World} {v1 v2 vb : Value} {bks : List Bk} {s : Sf} {cs : Array Value} {T : TypeId} (h : ShSt base b w v1 v2 vb bks s) (k : Only (fun i => i = b) w w') (hb : w.heap[n]? = some (.cells cs T (0, 0))) (t1 : T ≠ 42) : w'.heap[n]? = some (.cells cs T (0, 0)) := by
  refine (k.block n (heap_lt hb) (fun hi => ?_)).trans hb
  rw [hi, h.box] at hb
  simp at hb
  exact t1 hb.2.symm
end Go.Proofs.YtcefcglonooelaaGreatDoor

