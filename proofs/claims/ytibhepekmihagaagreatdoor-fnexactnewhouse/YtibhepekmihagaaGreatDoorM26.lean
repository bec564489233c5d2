/-
  Contracts and plain laws, one chapter behind the other.
-/
import Derived.Laws.OwnMore
import Derived.OwnWalk
import Derived.Deep.DeepCutAuto
import Derived.Test.YtibhepekmihagaaGreatDoorM01
import Derived.Test.YtibhepekmihagaaGreatDoorM02
import Derived.Test.YtibhepekmihagaaGreatDoorM03
import Derived.Test.YtibhepekmihagaaGreatDoorM06
import Derived.Test.YtibhepekmihagaaGreatDoorM07
import Derived.Test.YtibhepekmihagaaGreatDoorM09
import Derived.Test.YtibhepekmihagaaGreatDoorM14
import Derived.Test.YtibhepekmihagaaGreatDoorM18
import Derived.Test.YtibhepekmihagaaGreatDoorM25
namespace Go.Proofs.YtibhepekmihagaaGreatDoor
open Go.RowKit

set_option linter.unusedVariables false

set_option maxRecDepth 100000

/-- How memory lies when a map was drawn. -/
structure MapSt (c : Nat) (x : Option Addr) (len cap : Nat) (w W : World) (g cp : Nat) (rs : List (Int × Int × Int)) : Prop where
  own : W.ownsRow w.heap.size 185 3 (.slice (some ⟨g, 0, none⟩) rs.length cp) rs.length (rs.flatMap runC)
  few : rs.length ≤ 17
  fit : FitRuns rs
  kc : Cur W c x len cap
  u : Upto c w W
  lt : c < w.heap.size

theorem MapSt.step {c g cp : Nat} {x : Option Addr} {len cap : Nat} {w W W' : World} {rs : List (Int × Int × Int)} (h : MapSt c x len cap w W g cp rs) (u : Upto c W W') (kc : Cur W' c x len cap) : MapSt c x len cap w W' g cp rs :=
  ⟨ownsRow_upto h.own u h.lt, h.few, h.fit, kc, h.u.trans u, h.lt⟩

theorem MapSt.alloc {c g cp : Nat} {x : Option Addr} {len cap : Nat} {w W : World} {rs : List (Int × Int × Int)} (h : MapSt c x len cap w W g cp rs) (o : Obj) : MapSt c x len cap w (W.alloc o) g cp rs :=
  h.step ((Upto.refl c W).alloc o) (h.kc.alloc o)

theorem MapSt.lo {c g cp : Nat} {x : Option Addr} {len cap : Nat} {w W : World} {rs : List (Int × Int × Int)} (h : MapSt c x len cap w W g cp rs) : w.heap.size ≤ g ∧ g < W.heap.size := h.own.lt g rfl

/-- A run more. -/
theorem MapSt.more {c g cp : Nat} {x : Option Addr} {len cap : Nat} {w W W' : World} {rs : List (Int × Int × Int)} {r : Int × Int × Int} {v : Value} (h : MapSt c x len cap w W g cp rs) (hl : rs.length ≤ 16) (hf : I64 r.1 ∧ I64 r.2.1 ∧ I64 r.2.2) (hown : W'.ownsRow w.heap.size 185 3 v (rs.length + 1) (rs.flatMap runC ++ runC r)) (hg : W.grownBy W' (some g)) (hn : v ≠ .slice none 0 0) :
    ∃ g' cp', v = .slice (some ⟨g', 0, none⟩) (rs ++ [r]).length cp' ∧ MapSt c x len cap w W' g' cp' (rs ++ [r]) := by
  have own3 : W'.ownsRow w.heap.size 185 3 v (rs ++ [r]).length ((rs ++ [r]).flatMap runC) := by simpa using hown
  have hlo := h.lo
  have hlt := h.lt
  have kl := h.kc.lt
  rcases own3.2 with ⟨e, _⟩ | ⟨g', cp', cur, e, h2⟩
  · exact absurd e hn
  · subst e
    refine ⟨g', cp', rfl, own3, by simp; omega, fun q hq => ?_, h.kc.same ((Below.refl _ _).grown hg kl (fun q hq => ?_)), h.u.grown hg (fun q hq => ?_), h.lt⟩
    · rcases List.mem_append.1 hq with hq | hq
      · exact h.fit q hq
      · simp at hq
        subst hq
        exact hf
    · simp at hq; omega
    · simp at hq; left; omega

/-- Pages that may be drawn. -/
def PagesIn (l : List Int) : Prop := l.length = 16 ∧ ∀ j, j < 16 → -1 ≤ l.getD j 0 ∧ l.getD j 0 ≤ 23

theorem PagesIn.set {l : List Int} (h : PagesIn l) (k : Nat) (hk : k < 16) (p : Int) (hp : -1 ≤ p ∧ p ≤ 23) : PagesIn (l.set k p) := by
  refine ⟨by rw [List.length_set]; exact h.1, fun j hj => ?_⟩
  rw [getD_set16 _ _ _ _ (by rw [h.1]; exact hk)]
  by_cases e : k = j
  · rw [if_pos e]; exact hp
  · rw [if_neg e]; exact h.2 j hj

theorem PagesIn.none : PagesIn none16 := ⟨rfl, fun j hj => by rw [none16_at j hj]; omega⟩
end Go.Proofs.YtibhepekmihagaaGreatDoor

namespace Go.Proofs.YtibhepekmihagaaGreatDoor
open Go.RowKit

set_option linter.unusedVariables false

set_option maxRecDepth 100000


/-- A book that was drawn: its map is a row of its own, its numbers are small. -/
structure BookSt (c : Nat) (x : Option Addr) (len cap : Nat) (w W : World) (b : Bk) : Prop where
  own : W.ownsRow w.heap.size 185 3 b.m b.rs.length (b.rs.flatMap runC)
  kc : Cur W c x len cap
  u : Upto c w W
  lt : c < w.heap.size
  few : b.rs.length ≤ 17
  fit : FitRuns b.rs
  nm : b.nm.size ≤ 5
  sz : -1 ≤ b.sz ∧ b.sz ≤ 17
  ep : -1 ≤ b.ep ∧ b.ep ≤ 1001

theorem BookSt.step {c : Nat} {x : Option Addr} {len cap : Nat} {w W W' : World} {b : Bk} (h : BookSt c x len cap w W b) (u : Upto c W W') (kc : Cur W' c x len cap) : BookSt c x len cap w W' b :=
  ⟨ownsRow_upto h.own u h.lt, kc, h.u.trans u, h.lt, h.few, h.fit, h.nm, h.sz, h.ep⟩

theorem BookSt.below {c : Nat} {x : Option Addr} {len cap : Nat} {w W W' : World} {b : Bk} (h : BookSt c x len cap w W b) (k : Below W.heap.size W W') : BookSt c x len cap w W' b :=
  h.step (Upto.ofBelow k) (h.kc.below k)

theorem BookSt.form {c : Nat} {x : Option Addr} {len cap : Nat} {w W : World} {b : Bk} (h : BookSt c x len cap w W b) : ∃ o cp, b.m = .slice o b.rs.length cp := own_slice h.own

theorem BookSt.reads {c : Nat} {x : Option Addr} {len cap : Nat} {w W : World} {b : Bk} (h : BookSt c x len cap w W b) : ReadsR 3 runC W.heap.size W b.m b.rs := ReadsR.of_own runC_len h.own

/-- A block of another type that lies behind the start is written. -/
theorem BookSt.put {c : Nat} {x : Option Addr} {len cap : Nat} {w W : World} {b : Bk} {g i : Nat} {cs : Array Value} (h : BookSt c x len cap w W b) (k : W.heap[g]? = some (.cells cs 133 (0, 0))) (hg : w.heap.size ≤ g) (v : Value) : BookSt c x len cap w (W.setCell ⟨g, i, none⟩ v) b := by
  have hne := own_not_box h.own k (by decide)
  have hlt := h.lt
  have hb : ∀ q, q < W.heap.size → q ≠ g → (W.setCell ⟨g, i, none⟩ v).heap[q]? = W.heap[q]? := fun q hq hqg => ((Upto.refl g W).setCell ⟨g, i, none⟩ (.inl rfl) v).block q hq hqg
  refine ⟨own_rng_not h.own (fun q hq hv => hb q hq (fun e => hne (by rw [← e]; exact hv))), h.kc.same (((Upto.refl g W).setCell ⟨g, i, none⟩ (.inl rfl) _).toBelow h.kc.lt (by omega)), h.u.setCell ⟨g, i, none⟩ (.inr hg) _, h.lt, h.few, h.fit, h.nm, h.sz, h.ep⟩

/-- While it is drawn: the book's box at nB, the answer's at the start's end. -/
structure BkSt (c : Nat) (x : Option Addr) (len cap nB : Nat) (w W : World) (b : Bk) : Prop where
  st : BookSt c x len cap w W b
  kB : W.heap[nB]? = some (.cells #[.string b.nm, .int .i64 b.sz, b.m, .bool b.fx, .int .i64 b.ep] 133 (0, 0))
  kR : W.heap[w.heap.size]? = some (.cells #[.string ⟨#[]⟩, .int .i64 0, .slice none 0 0, .bool false, .int .i64 0] 133 (0, 0))
  nb : w.heap.size < nB

theorem BkSt.step {c nB : Nat} {x : Option Addr} {len cap : Nat} {w W W' : World} {b : Bk} (h : BkSt c x len cap nB w W b) (u : Upto c W W') (kc : Cur W' c x len cap) : BkSt c x len cap nB w W' b := by
  have hlt := h.st.lt
  have hnb := h.nb
  exact ⟨h.st.step u kc, (u.block _ (heap_lt h.kB) (by omega)).trans h.kB, (u.block _ (heap_lt h.kR) (by omega)).trans h.kR, h.nb⟩

theorem BkSt.below {c nB : Nat} {x : Option Addr} {len cap : Nat} {w W W' : World} {b : Bk} (h : BkSt c x len cap nB w W b) (k : Below W.heap.size W W') : BkSt c x len cap nB w W' b :=
  h.step (Upto.ofBelow k) (h.st.kc.below k)

theorem BkSt.alloc {c nB : Nat} {x : Option Addr} {len cap : Nat} {w W : World} {b : Bk} (h : BkSt c x len cap nB w W b) (o : Obj) : BkSt c x len cap nB w (W.alloc o) b :=
  h.below (bw_alloc (Below.refl _ _))

theorem BkSt.other {c nB : Nat} {x : Option Addr} {len cap : Nat} {w W : World} {b : Bk} (h : BkSt c x len cap nB w W b) (i : Nat) (v : Value) : (W.setCell ⟨nB, i, none⟩ v).heap[w.heap.size]? = some (.cells #[.string ⟨#[]⟩, .int .i64 0, .slice none 0 0, .bool false, .int .i64 0] 133 (0, 0)) :=
  (((Upto.refl nB W).setCell ⟨nB, i, none⟩ (.inl rfl) v).block _ (heap_lt h.kR) (Nat.ne_of_lt h.nb)).trans h.kR

theorem BkSt.size {c nB : Nat} {x : Option Addr} {len cap : Nat} {w W : World} {b : Bk} (h : BkSt c x len cap nB w W b) (z : Int) (hz : -1 ≤ z ∧ z ≤ 17) : BkSt c x len cap nB w (W.setCell ⟨nB, 1, none⟩ (.int .i64 z)) ⟨b.nm, z, b.m, b.rs, b.fx, b.ep⟩ := by
  have p := h.st.put (i := 1) h.kB (Nat.le_of_lt h.nb) (.int .i64 z)
  exact ⟨⟨p.own, p.kc, p.u, p.lt, p.few, p.fit, p.nm, hz, p.ep⟩, set_at h.kB 1 _, h.other 1 _, h.nb⟩

theorem BkSt.map {c nB base : Nat} {x : Option Addr} {len cap : Nat} {w W : World} {b : Bk} (h : BkSt c x len cap nB w W b) (m : Value) (rs : List (Int × Int × Int)) (hl : rs.length ≤ 17) (hf : FitRuns rs) (hb : w.heap.size ≤ base) (own : W.ownsRow base 185 3 m rs.length (rs.flatMap runC)) : BkSt c x len cap nB w (W.setCell ⟨nB, 2, none⟩ m) ⟨b.nm, b.sz, m, rs, b.fx, b.ep⟩ := by
  have p : BookSt c x len cap w (W.setCell ⟨nB, 2, none⟩ m) ⟨b.nm, b.sz, m, rs, b.fx, b.ep⟩ := BookSt.put (b := ⟨b.nm, b.sz, m, rs, b.fx, b.ep⟩) (i := 2) ⟨owns_mono own hb, h.st.kc, h.st.u, h.st.lt, hl, hf, h.st.nm, h.st.sz, h.st.ep⟩ h.kB (Nat.le_of_lt h.nb) m
  exact ⟨p, set_at h.kB 2 _, h.other 2 _, h.nb⟩
end Go.Proofs.YtibhepekmihagaaGreatDoor

namespace Go.Proofs.YtibhepekmihagaaGreatDoor
open Go.RowKit

set_option linter.unusedVariables false

set_option maxRecDepth 100000


theorem new_five (w : World) (b : Bk) (t : TypeId) : ∀ (j : Nat) (u : Value), (bookC b)[j]? = some u → (w.alloc (.cells #[.string b.nm, .int .i64 b.sz, b.m, .bool b.fx, .int .i64 b.ep] t)).cell? ((⟨w.heap.size, 0, none⟩ : Addr).add j) = some u := by
  intro j u hj
  rw [addr_add]
  have e := World.cell?_alloc_mark w #[.string b.nm, .int .i64 b.sz, b.m, .bool b.fx, .int .i64 b.ep] t (0, 0) j
  exact e.trans ((show (#[Value.string b.nm, .int .i64 b.sz, b.m, .bool b.fx, .int .i64 b.ep] : Array Value)[j]? = (bookC b)[j]? by simp [bookC]).trans hj)

theorem one_book (b : Bk) (h : ∃ o k cp, b.m = .slice o k cp) : ∀ u ∈ bookC b, u.oneCell' = true := fun u hu => by
  obtain ⟨o, k, cp, h⟩ := h
  simp [bookC, h] at hu
  rcases hu with rfl | rfl | rfl | rfl | rfl <;> rfl

/-- A row of another type stays where a row grows. -/
theorem own_grown {w w' : World} {base base' : Nat} {e e' : TypeId} {k k' : Nat} {v : Value} {n n' g cp : Nat} {xs ys : List Value} (h : w.ownsRow base e k v n xs) (r : w.ownsRow base' e' k' (.slice (some ⟨g, 0, none⟩) n' cp) n' ys) (hne : e' ≠ e) (hg : w.grownBy w' (some g)) : w'.ownsRow base e k v n xs := by
  have u : Upto g w w' := (Upto.refl g w).grown hg (fun q hq => .inr (by cases hq; rfl))
  rcases r.2 with ⟨h0, _⟩ | ⟨g', cap', cur, h0, _, hh, _⟩
  · simp at h0
  · simp at h0
    obtain ⟨rfl, _⟩ := h0
    have hv := own_not_box h hh hne
    exact own_rng_not h (fun q hq hqv => u.block q hq (fun e => hv (by rw [← e]; exact hqv)))

/-- What the laws know of a book that was drawn. -/
structure Drawn (w : World) (b : Bk) : Prop where
  reads : ReadsR 3 runC w.heap.size w b.m b.rs
  fit : FitRuns b.rs
  nm : b.nm.size ≤ maxLen

theorem Drawn.below {w w' : World} {b : Bk} (h : Drawn w b) (k : Below w.heap.size w w') : Drawn w' b := ⟨(h.reads.below k).mono k.size, h.fit, h.nm⟩
end Go.Proofs.YtibhepekmihagaaGreatDoor

namespace Go.Proofs.YtibhepekmihagaaGreatDoor
open Go.RowKit

set_option linter.unusedVariables false

set_option maxRecDepth 100000


/-- The cells of what is read, one behind the other. -/
theorem flat_src {α : Type} {k : Nat} {cs : α → List Value} (hk : ∀ x, (cs x).length = k) (hk0 : 0 < k) {B : Nat} {w : World} {o : Option Addr} {n cap : Nat} {xs : List α} (h : ReadsR k cs B w (.slice o n cap) xs) : ∀ j u, (xs.flatMap cs)[j]? = some u → ∃ g off, o = some ⟨g, off, none⟩ ∧ w.cell? ⟨g, off + j, none⟩ = some u := fun j u hj => by
  obtain ⟨o', cap', e, -, hc, -⟩ := h
  simp only [Value.slice.injEq] at e
  obtain ⟨rfl, rfl, rfl⟩ := e
  have hjl := (List.getElem?_eq_some_iff.1 hj).1
  rw [flat_length hk] at hjl
  have hi3 : j / k < xs.length := Nat.div_lt_of_lt_mul (by rw [Nat.mul_comm]; exact hjl)
  obtain ⟨g, off, e, hg, hx⟩ := hc (j / k) xs[j / k] (List.getElem?_eq_getElem hi3)
  refine ⟨g, off, e, ?_⟩
  have hm := Nat.mod_lt j hk0
  have hd : j / k * k + j % k = j := by rw [Nat.mul_comm]; exact Nat.div_add_mod j k
  have hf := flat_get hk xs (j / k) (j % k) xs[j / k] (List.getElem?_eq_getElem hi3) hm
  rw [hd] at hf
  have := hx (j % k) u (by rw [← hf]; exact hj)
  rwa [show off + j / k * k + j % k = off + j by omega] at this

theorem runs_one (rs : List (Int × Int × Int)) : ∀ u ∈ rs.flatMap runC, u.oneCell' = true := fun u hu => by
  obtain ⟨x, _, hx⟩ := List.mem_flatMap.1 hu
  simp [runC] at hx
  rcases hx with rfl | rfl | rfl <;> rfl

theorem ReadsR.drop {α : Type} {k : Nat} {cs : α → List Value} {B : Nat} {w : World} {g off n cap : Nat} {xs : List α} (h : ReadsR k cs B w (.slice (some ⟨g, off, none⟩) n cap) xs) (i : Nat) (hi : i ≤ n) : ReadsR k cs B w (.slice (some ⟨g, off + i * k, none⟩) (n - i) (cap - i)) (xs.drop i) := by
  obtain ⟨o', cap', e, hm, hc, hr⟩ := h
  simp only [Value.slice.injEq] at e
  obtain ⟨rfl, rfl, rfl⟩ := e
  refine ⟨_, _, by rw [List.length_drop], by rw [List.length_drop]; omega, fun j x hj => ?_, by rw [List.length_drop]; omega⟩
  rw [List.getElem?_drop] at hj
  obtain ⟨g', off', e, hg, hx⟩ := hc (i + j) x hj
  simp only [Option.some.injEq, Addr.mk.injEq, and_true] at e
  obtain ⟨rfl, rfl⟩ := e
  refine ⟨g, off + i * k, rfl, hg, fun q u hq => ?_⟩
  have := hx q u hq
  rwa [show off + (i + j) * k + q = off + i * k + j * k + q by rw [Nat.add_mul]; omega] at this

theorem ReadsR.take {α : Type} {k : Nat} {cs : α → List Value} {B : Nat} {w : World} {o : Option Addr} {n cap : Nat} {xs : List α} (h : ReadsR k cs B w (.slice o n cap) xs) (i : Nat) (hi : i ≤ n) : ReadsR k cs B w (.slice o i cap) (xs.take i) := by
  obtain ⟨o', cap', e, hm, hc, hr⟩ := h
  simp only [Value.slice.injEq] at e
  obtain ⟨rfl, rfl, rfl⟩ := e
  have hl : (xs.take i).length = i := by rw [List.length_take]; omega
  refine ⟨_, _, by rw [hl], by rw [hl]; omega, fun j x hj => ?_, by rw [hl]; omega⟩
  rw [List.getElem?_take] at hj
  split at hj
  · exact hc j x hj
  · cases hj

/-- A box of another type is written: the row stays. -/
theorem own_box {w : World} {base b : Nat} {e t : TypeId} {k n : Nat} {v : Value} {xs : List Value} {cs : Array Value} (h : w.ownsRow base e k v n xs) (hb : w.heap[b]? = some (.cells cs t (0, 0))) (ht : t ≠ e) (i : Nat) (u : Value) : (w.setCell ⟨b, i, none⟩ u).ownsRow base e k v n xs :=
  own_rng_not h (fun q hq hqv => Below.heap_setCell w ⟨b, i, none⟩ u q (fun hx => own_not_box h hb ht (by rw [hqv]; exact congrArg some hx)))

/-! ### The shelf's state -/

/-- A shelf of one's own: its box, the pool's rows, the row of books and each map. -/
structure ShSt (base b : Nat) (w : World) (v1 v2 vb : Value) (bks : List Bk) (s : Sf) : Prop where
  box : w.heap[b]? = some (.cells #[v1, v2, vb] 28 (0, 0))
  lo : base ≤ b
  pool : OwnP base w v1 v2 s.cs s.ps
  books : OwnB base w vb bks
  eq : bks.map Bk.pb = s.bs

theorem ShSt.below {base b : Nat} {w w' : World} {v1 v2 vb : Value} {bks : List Bk} {s : Sf} (h : ShSt base b w v1 v2 vb bks s) (k : Below w.heap.size w w') : ShSt base b w' v1 v2 vb bks s :=
  ⟨(k.block _ (heap_lt h.box)).trans h.box, h.lo, h.pool.below k, h.books.below k, h.eq⟩

theorem ShSt.forms {base b : Nat} {w : World} {v1 v2 vb : Value} {bks : List Bk} {s : Sf} (h : ShSt base b w v1 v2 vb bks s) : ∀ x ∈ bks, ∃ o k cp, x.m = .slice o k cp := fun x hx => by
  obtain ⟨o, cp, e⟩ := own_slice (h.books.maps x hx)
  exact ⟨o, _, cp, e⟩

/-- Two rows whose items differ in type never are one block. -/
theorem rows_apart {w : World} {base base' : Nat} {e e' : TypeId} {k k' : Nat} {v v' : Value} {n n' : Nat} {xs ys : List Value} (h : w.ownsRow base e k v n xs) (h' : w.ownsRow base' e' k' v' n' ys) (hne : e' ≠ e) (g : Nat) (hg : v'.ownBlock = some g) : v.ownBlock ≠ some g := by
  rcases h'.2 with ⟨rfl, _⟩ | ⟨g', cap', cur, rfl, _, hh, _⟩
  · simp [Value.ownBlock] at hg
  · simp [Value.ownBlock] at hg
    subst hg
    exact own_not_box h hh hne

/-- The row of books is written, one book's cells: a map of one's own may be the new one. -/
theorem ShSt.put {base b g n cap : Nat} {w : World} {v1 v2 : Value} {bks : List Bk} {s : Sf} (h : ShSt base b w v1 v2 (.slice (some ⟨g, 0, none⟩) n cap) bks s) (i j : Nat) (hi : i < bks.length) (hj : j < 5) (y : Bk) (u : Value) (hy : (bookC bks[i]).set j u = bookC y) (hm : w.ownsRow base 185 3 y.m y.rs.length (y.rs.flatMap runC)) :
    ShSt base b (w.setCell ⟨g, i * 5 + j, none⟩ u) v1 v2 (.slice (some ⟨g, 0, none⟩) n cap) (bks.set i y) ⟨s.cs, s.ps, s.bs.set i y.pb⟩ ∧ Below base w (w.setCell ⟨g, i * 5 + j, none⟩ u) := by
  have hg := h.books.row.lt g rfl
  have ub : Upto g w (w.setCell ⟨g, i * 5 + j, none⟩ u) := (Upto.refl _ _).setCell ⟨g, i * 5 + j, none⟩ (.inl rfl) _
  obtain ⟨cur, hcur⟩ : ∃ cur, w.heap[g]? = some (.cells cur 133 (0, 0)) := by
    rcases h.books.row.2 with ⟨e, _⟩ | ⟨g', cap', cur, e, _, hh, _⟩
    · simp at e
    · simp only [Value.slice.injEq, Option.some.injEq, Addr.mk.injEq, and_true] at e
      obtain ⟨rfl, _⟩ := e
      exact ⟨cur, hh⟩
  have st : ∀ (e : TypeId) (kk n : Nat) (v : Value) (xs : List Value), 133 ≠ e → w.ownsRow base e kk v n xs → (w.setCell ⟨g, i * 5 + j, none⟩ u).ownsRow base e kk v n xs := fun e kk n v xs he hr =>
    own_rng_not hr (fun q hq hqv => ub.block q hq (fun hx => own_not_box hr hcur he (by rw [← hx]; exact hqv)))
  refine ⟨⟨?_, h.lo, ⟨st _ _ _ _ _ (by decide) h.pool.c, st _ _ _ _ _ (by decide) h.pool.p, h.pool.apart⟩, ⟨own_put bookC_len h.books.row i j _ y u (List.getElem?_eq_getElem hi) hj hy, fun x hx => ?_⟩, ?_⟩, ub.toBelow (Nat.le_trans h.lo (Nat.le_of_lt (heap_lt h.box))) hg.1⟩
  · refine (ub.block b (heap_lt h.box) (fun e => ?_)).trans h.box
    rw [← e, h.box] at hcur
    simp at hcur
  · rcases List.mem_or_eq_of_mem_set hx with q | rfl
    · exact st _ _ _ _ _ (by decide) (h.books.maps x q)
    · exact st _ _ _ _ _ (by decide) hm
  · rw [← h.eq, List.map_set]

/-- The blocks of a shelf that may be written. -/
def ShW (b : Nat) (v1 v2 vb : Value) (i : Nat) : Prop := i = b ∨ v1.ownBlock = some i ∨ v2.ownBlock = some i ∨ vb.ownBlock = some i

theorem ShSt.only_below {base b : Nat} {w w' : World} {v1 v2 vb : Value} {bks : List Bk} {s : Sf} (h : ShSt base b w v1 v2 vb bks s) (k : Only (ShW b v1 v2 vb) w w') : Below base w w' :=
  k.toBelow (Nat.le_trans h.lo (Nat.le_of_lt (heap_lt h.box))) (fun i hi => by
    rcases hi with q | q | q | q
    · rw [q]; exact h.lo
    · exact (h.pool.c.lt i q).1
    · exact (h.pool.p.lt i q).1
    · exact (h.books.row.lt i q).1)
end Go.Proofs.YtibhepekmihagaaGreatDoor

