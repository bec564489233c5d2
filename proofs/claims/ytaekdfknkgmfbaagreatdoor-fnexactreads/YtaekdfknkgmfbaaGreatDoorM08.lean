/-
  Contracts and plain laws, one chapter behind the other.
-/
import Derived.Laws.Bits128
import Derived.IntWalk
import Derived.Handy
import Derived.Laws.IdiomStrings
import Derived.Laws.OwnMore
import Derived.OwnWalk
import Derived.Deep.DeepCutAuto
import Derived.Test.YtaekdfknkgmfbaaGreatDoorM01
import Derived.Test.YtaekdfknkgmfbaaGreatDoorM02
import Derived.Test.YtaekdfknkgmfbaaGreatDoorM03
import Derived.Test.YtaekdfknkgmfbaaGreatDoorM04
import Derived.Test.YtaekdfknkgmfbaaGreatDoorM05
import Derived.Test.YtaekdfknkgmfbaaGreatDoorM07
namespace Go.Proofs.YtaekdfknkgmfbaaGreatDoor
open Go.RowKit

set_option linter.unusedVariables false

/-- How memory lies when a map was drawn. -/
structure MapSt (c : Nat) (x : Option Addr) (len cap : Nat) (w W : World) (g cp : Nat) (rs : List (Int × Int × Int)) : Prop where
  own : W.ownsRow w.heap.size 112 3 (.slice (some ⟨g, 0, none⟩) rs.length cp) rs.length (rs.flatMap runC)
  few : rs.length ≤ 17
  fit : FitRuns rs
  kc : Cur W c x len cap
  u : Upto c w W
  lt : c < w.heap.size

theorem MapSt.step {c g cp : Nat} {x : Option Addr} {len cap : Nat} {w W W' : World} {rs : List (Int × Int × Int)} (h : MapSt c x len cap w W g cp rs) (u : Upto c W W') (kc : Cur W' c x len cap) : MapSt c x len cap w W' g cp rs :=
  ⟨ownsRow_upto h.own u h.lt, h.few, h.fit, kc, h.u.trans u, h.lt⟩

theorem MapSt.alloc {c g cp : Nat} {x : Option Addr} {len cap : Nat} {w W : World} {rs : List (Int × Int × Int)} (h : MapSt c x len cap w W g cp rs) (o : Obj) : MapSt c x len cap w (W.alloc o) g cp rs :=
  h.step ((Upto.refl c W).alloc o) (h.kc.alloc o)

theorem MapSt.lo {c g cp : Nat} {x : Option Addr} {len cap : Nat} {w W : World} {rs : List (Int × Int × Int)} (h : MapSt c x len cap w W g cp rs) : w.heap.size ≤ g ∧ g < W.heap.size := h.own.lt g rfl

/-- A run more. -/
theorem MapSt.more {c g cp : Nat} {x : Option Addr} {len cap : Nat} {w W W' : World} {rs : List (Int × Int × Int)} {r : Int × Int × Int} {v : Value} (h : MapSt c x len cap w W g cp rs) (hl : rs.length ≤ 16) (hf : I64 r.1 ∧ I64 r.2.1 ∧ I64 r.2.2) (hown : W'.ownsRow w.heap.size 112 3 v (rs.length + 1) (rs.flatMap runC ++ runC r)) (hg : W.grownBy W' (some g)) (hn : v ≠ .slice none 0 0) :
    ∃ g' cp', v = .slice (some ⟨g', 0, none⟩) (rs ++ [r]).length cp' ∧ MapSt c x len cap w W' g' cp' (rs ++ [r]) := by
  have own3 : W'.ownsRow w.heap.size 112 3 v (rs ++ [r]).length ((rs ++ [r]).flatMap runC) := by simpa using hown
  have hlo := h.lo
  have hlt := h.lt
  have kl := h.kc.lt
  rcases own3.2 with ⟨e, _⟩ | ⟨g', cp', cur, e, h2⟩
  · exact absurd e hn
  · subst e
    refine ⟨g', cp', rfl, own3, by simp; omega, fun q hq => ?_, h.kc.same ((Below.refl _ _).grown hg kl (fun q hq => ?_)), h.u.grown hg (fun q hq => ?_), h.lt⟩
    · rcases List.mem_append.1 hq with hq | hq
      · exact h.fit q hq
      · simp at hq
        subst hq
        exact hf
    · simp at hq; omega
    · simp at hq; left; omega

/-- Pages that may be drawn. -/
def PagesIn (l : List Int) : Prop := l.length = 16 ∧ ∀ j, j < 16 → -1 ≤ l.getD j 0 ∧ l.getD j 0 ≤ 23

theorem PagesIn.set {l : List Int} (h : PagesIn l) (k : Nat) (hk : k < 16) (p : Int) (hp : -1 ≤ p ∧ p ≤ 23) : PagesIn (l.set k p) := by
  refine ⟨by rw [List.length_set]; exact h.1, fun j hj => ?_⟩
  rw [getD_set16 _ _ _ _ (by rw [h.1]; exact hk)]
  by_cases e : k = j
  · rw [if_pos e]; exact hp
  · rw [if_neg e]; exact h.2 j hj

theorem PagesIn.none : PagesIn none16 := ⟨rfl, fun j hj => by rw [none16_at j hj]; omega⟩
end Go.Proofs.YtaekdfknkgmfbaaGreatDoor

namespace Go.Proofs.YtaekdfknkgmfbaaGreatDoor
open Go.RowKit

set_option linter.unusedVariables false


/-- A book that was drawn: its map is a row of its own, its numbers are small. -/
structure BookSt (c : Nat) (x : Option Addr) (len cap : Nat) (w W : World) (b : Bk) : Prop where
  own : W.ownsRow w.heap.size 112 3 b.m b.rs.length (b.rs.flatMap runC)
  kc : Cur W c x len cap
  u : Upto c w W
  lt : c < w.heap.size
  few : b.rs.length ≤ 17
  fit : FitRuns b.rs
  nm : b.nm.size ≤ 5
  sz : -1 ≤ b.sz ∧ b.sz ≤ 17
  ep : -1 ≤ b.ep ∧ b.ep ≤ 1001

theorem BookSt.step {c : Nat} {x : Option Addr} {len cap : Nat} {w W W' : World} {b : Bk} (h : BookSt c x len cap w W b) (u : Upto c W W') (kc : Cur W' c x len cap) : BookSt c x len cap w W' b :=
  ⟨ownsRow_upto h.own u h.lt, kc, h.u.trans u, h.lt, h.few, h.fit, h.nm, h.sz, h.ep⟩

theorem BookSt.below {c : Nat} {x : Option Addr} {len cap : Nat} {w W W' : World} {b : Bk} (h : BookSt c x len cap w W b) (k : Below W.heap.size W W') : BookSt c x len cap w W' b :=
  h.step (Upto.ofBelow k) (h.kc.below k)

theorem BookSt.form {c : Nat} {x : Option Addr} {len cap : Nat} {w W : World} {b : Bk} (h : BookSt c x len cap w W b) : ∃ o cp, b.m = .slice o b.rs.length cp := own_slice h.own

theorem BookSt.reads {c : Nat} {x : Option Addr} {len cap : Nat} {w W : World} {b : Bk} (h : BookSt c x len cap w W b) : ReadsR 3 runC W.heap.size W b.m b.rs := ReadsR.of_own runC_len h.own

/-- A block of another type that lies behind the start is written. -/
theorem BookSt.put {c : Nat} {x : Option Addr} {len cap : Nat} {w W : World} {b : Bk} {g i : Nat} {cs : Array Value} (h : BookSt c x len cap w W b) (k : W.heap[g]? = some (.cells cs 48 (0, 0))) (hg : w.heap.size ≤ g) (v : Value) : BookSt c x len cap w (W.setCell ⟨g, i, none⟩ v) b := by
  have hne := own_not_box h.own k (by decide)
  have hlt := h.lt
  have hb : ∀ q, q < W.heap.size → q ≠ g → (W.setCell ⟨g, i, none⟩ v).heap[q]? = W.heap[q]? := fun q hq hqg => ((Upto.refl g W).setCell ⟨g, i, none⟩ (.inl rfl) v).block q hq hqg
  refine ⟨own_rng_not h.own (fun q hq hv => hb q hq (fun e => hne (by rw [← e]; exact hv))), h.kc.same (((Upto.refl g W).setCell ⟨g, i, none⟩ (.inl rfl) _).toBelow h.kc.lt (by omega)), h.u.setCell ⟨g, i, none⟩ (.inr hg) _, h.lt, h.few, h.fit, h.nm, h.sz, h.ep⟩

/-- While it is drawn: the book's box at nB, the answer's at the start's end. -/
structure BkSt (c : Nat) (x : Option Addr) (len cap nB : Nat) (w W : World) (b : Bk) : Prop where
  st : BookSt c x len cap w W b
  kB : W.heap[nB]? = some (.cells #[.string b.nm, .int .i64 b.sz, b.m, .bool b.fx, .int .i64 b.ep] 48 (0, 0))
  kR : W.heap[w.heap.size]? = some (.cells #[.string ⟨#[]⟩, .int .i64 0, .slice none 0 0, .bool false, .int .i64 0] 48 (0, 0))
  nb : w.heap.size < nB

theorem BkSt.step {c nB : Nat} {x : Option Addr} {len cap : Nat} {w W W' : World} {b : Bk} (h : BkSt c x len cap nB w W b) (u : Upto c W W') (kc : Cur W' c x len cap) : BkSt c x len cap nB w W' b := by
  have hlt := h.st.lt
  have hnb := h.nb
  exact ⟨h.st.step u kc, (u.block _ (heap_lt h.kB) (by omega)).trans h.kB, (u.block _ (heap_lt h.kR) (by omega)).trans h.kR, h.nb⟩

theorem BkSt.below {c nB : Nat} {x : Option Addr} {len cap : Nat} {w W W' : World} {b : Bk} (h : BkSt c x len cap nB w W b) (k : Below W.heap.size W W') : BkSt c x len cap nB w W' b :=
  h.step (Upto.ofBelow k) (h.st.kc.below k)

theorem BkSt.alloc {c nB : Nat} {x : Option Addr} {len cap : Nat} {w W : World} {b : Bk} (h : BkSt c x len cap nB w W b) (o : Obj) : BkSt c x len cap nB w (W.alloc o) b :=
  h.below (bw_alloc (Below.refl _ _))

theorem BkSt.other {c nB : Nat} {x : Option Addr} {len cap : Nat} {w W : World} {b : Bk} (h : BkSt c x len cap nB w W b) (i : Nat) (v : Value) : (W.setCell ⟨nB, i, none⟩ v).heap[w.heap.size]? = some (.cells #[.string ⟨#[]⟩, .int .i64 0, .slice none 0 0, .bool false, .int .i64 0] 48 (0, 0)) :=
  (((Upto.refl nB W).setCell ⟨nB, i, none⟩ (.inl rfl) v).block _ (heap_lt h.kR) (Nat.ne_of_lt h.nb)).trans h.kR

theorem BkSt.name {c nB : Nat} {x : Option Addr} {len cap : Nat} {w W : World} {b : Bk} (h : BkSt c x len cap nB w W b) (s : ByteArray) (hs : s.size ≤ 5) : BkSt c x len cap nB w (W.setCell ⟨nB, 0, none⟩ (.string s)) ⟨s, b.sz, b.m, b.rs, b.fx, b.ep⟩ := by
  have p := h.st.put (i := 0) h.kB (Nat.le_of_lt h.nb) (.string s)
  exact ⟨⟨p.own, p.kc, p.u, p.lt, p.few, p.fit, hs, p.sz, p.ep⟩, set_at h.kB 0 _, h.other 0 _, h.nb⟩

theorem BkSt.size {c nB : Nat} {x : Option Addr} {len cap : Nat} {w W : World} {b : Bk} (h : BkSt c x len cap nB w W b) (z : Int) (hz : -1 ≤ z ∧ z ≤ 17) : BkSt c x len cap nB w (W.setCell ⟨nB, 1, none⟩ (.int .i64 z)) ⟨b.nm, z, b.m, b.rs, b.fx, b.ep⟩ := by
  have p := h.st.put (i := 1) h.kB (Nat.le_of_lt h.nb) (.int .i64 z)
  exact ⟨⟨p.own, p.kc, p.u, p.lt, p.few, p.fit, p.nm, hz, p.ep⟩, set_at h.kB 1 _, h.other 1 _, h.nb⟩

theorem BkSt.map {c nB base : Nat} {x : Option Addr} {len cap : Nat} {w W : World} {b : Bk} (h : BkSt c x len cap nB w W b) (m : Value) (rs : List (Int × Int × Int)) (hl : rs.length ≤ 17) (hf : FitRuns rs) (hb : w.heap.size ≤ base) (own : W.ownsRow base 112 3 m rs.length (rs.flatMap runC)) : BkSt c x len cap nB w (W.setCell ⟨nB, 2, none⟩ m) ⟨b.nm, b.sz, m, rs, b.fx, b.ep⟩ := by
  have p : BookSt c x len cap w (W.setCell ⟨nB, 2, none⟩ m) ⟨b.nm, b.sz, m, rs, b.fx, b.ep⟩ := BookSt.put (b := ⟨b.nm, b.sz, m, rs, b.fx, b.ep⟩) (i := 2) ⟨owns_mono own hb, h.st.kc, h.st.u, h.st.lt, hl, hf, h.st.nm, h.st.sz, h.st.ep⟩ h.kB (Nat.le_of_lt h.nb) m
  exact ⟨p, set_at h.kB 2 _, h.other 2 _, h.nb⟩
end Go.Proofs.YtaekdfknkgmfbaaGreatDoor

namespace Go.Proofs.YtaekdfknkgmfbaaGreatDoor
open Go.RowKit

set_option linter.unusedVariables false

set_option maxRecDepth 100000


theorem new_five (w : World) (b : Bk) (t : TypeId) : ∀ (j : Nat) (u : Value), (bookC b)[j]? = some u → (w.alloc (.cells #[.string b.nm, .int .i64 b.sz, b.m, .bool b.fx, .int .i64 b.ep] t)).cell? ((⟨w.heap.size, 0, none⟩ : Addr).add j) = some u := by
  intro j u hj
  rw [addr_add]
  have e := World.cell?_alloc_mark w #[.string b.nm, .int .i64 b.sz, b.m, .bool b.fx, .int .i64 b.ep] t (0, 0) j
  exact e.trans ((show (#[Value.string b.nm, .int .i64 b.sz, b.m, .bool b.fx, .int .i64 b.ep] : Array Value)[j]? = (bookC b)[j]? by simp [bookC]).trans hj)

theorem one_book (b : Bk) (h : ∃ o k cp, b.m = .slice o k cp) : ∀ u ∈ bookC b, u.oneCell' = true := fun u hu => by
  obtain ⟨o, k, cp, h⟩ := h
  simp [bookC, h] at hu
  rcases hu with rfl | rfl | rfl | rfl | rfl <;> rfl

/-- A row of another type stays where a row grows. -/
theorem own_grown {w w' : World} {base base' : Nat} {e e' : TypeId} {k k' : Nat} {v : Value} {n n' g cp : Nat} {xs ys : List Value} (h : w.ownsRow base e k v n xs) (r : w.ownsRow base' e' k' (.slice (some ⟨g, 0, none⟩) n' cp) n' ys) (hne : e' ≠ e) (hg : w.grownBy w' (some g)) : w'.ownsRow base e k v n xs := by
  have u : Upto g w w' := (Upto.refl g w).grown hg (fun q hq => .inr (by cases hq; rfl))
  rcases r.2 with ⟨h0, _⟩ | ⟨g', cap', cur, h0, _, hh, _⟩
  · simp at h0
  · simp at h0
    obtain ⟨rfl, _⟩ := h0
    have hv := own_not_box h hh hne
    exact own_rng_not h (fun q hq hqv => u.block q hq (fun e => hv (by rw [← e]; exact hqv)))

/-- What the laws know of a book that was drawn. -/
structure Drawn (w : World) (b : Bk) : Prop where
  reads : ReadsR 3 runC w.heap.size w b.m b.rs
  fit : FitRuns b.rs
  nm : b.nm.size ≤ maxLen

theorem Drawn.below {w w' : World} {b : Bk} (h : Drawn w b) (k : Below w.heap.size w w') : Drawn w' b := ⟨(h.reads.below k).mono k.size, h.fit, h.nm⟩
end Go.Proofs.YtaekdfknkgmfbaaGreatDoor

namespace Go.Proofs.YtaekdfknkgmfbaaGreatDoor
open Go.RowKit

set_option linter.unusedVariables false

set_option maxRecDepth 100000


/-- The cells of what is read, one behind the other. -/
theorem flat_src {α : Type} {k : Nat} {cs : α → List Value} (hk : ∀ x, (cs x).length = k) (hk0 : 0 < k) {B : Nat} {w : World} {o : Option Addr} {n cap : Nat} {xs : List α} (h : ReadsR k cs B w (.slice o n cap) xs) : ∀ j u, (xs.flatMap cs)[j]? = some u → ∃ g off, o = some ⟨g, off, none⟩ ∧ w.cell? ⟨g, off + j, none⟩ = some u := fun j u hj => by
  obtain ⟨o', cap', e, -, hc, -⟩ := h
  simp only [Value.slice.injEq] at e
  obtain ⟨rfl, rfl, rfl⟩ := e
  have hjl := (List.getElem?_eq_some_iff.1 hj).1
  rw [flat_length hk] at hjl
  have hi3 : j / k < xs.length := Nat.div_lt_of_lt_mul (by rw [Nat.mul_comm]; exact hjl)
  obtain ⟨g, off, e, hg, hx⟩ := hc (j / k) xs[j / k] (List.getElem?_eq_getElem hi3)
  refine ⟨g, off, e, ?_⟩
  have hm := Nat.mod_lt j hk0
  have hd : j / k * k + j % k = j := by rw [Nat.mul_comm]; exact Nat.div_add_mod j k
  have hf := flat_get hk xs (j / k) (j % k) xs[j / k] (List.getElem?_eq_getElem hi3) hm
  rw [hd] at hf
  have := hx (j % k) u (by rw [← hf]; exact hj)
  rwa [show off + j / k * k + j % k = off + j by omega] at this

theorem runs_one (rs : List (Int × Int × Int)) : ∀ u ∈ rs.flatMap runC, u.oneCell' = true := fun u hu => by
  obtain ⟨x, _, hx⟩ := List.mem_flatMap.1 hu
  simp [runC] at hx
  rcases hx with rfl | rfl | rfl <;> rfl

theorem books_one (bs : List Bk) (h : ∀ b ∈ bs, ∃ o k cp, b.m = .slice o k cp) : ∀ u ∈ bs.flatMap bookC, u.oneCell' = true := fun u hu => by
  obtain ⟨x, hx1, hx⟩ := List.mem_flatMap.1 hu
  exact one_book x (h x hx1) u hx

theorem ReadsR.drop {α : Type} {k : Nat} {cs : α → List Value} {B : Nat} {w : World} {g off n cap : Nat} {xs : List α} (h : ReadsR k cs B w (.slice (some ⟨g, off, none⟩) n cap) xs) (i : Nat) (hi : i ≤ n) : ReadsR k cs B w (.slice (some ⟨g, off + i * k, none⟩) (n - i) (cap - i)) (xs.drop i) := by
  obtain ⟨o', cap', e, hm, hc, hr⟩ := h
  simp only [Value.slice.injEq] at e
  obtain ⟨rfl, rfl, rfl⟩ := e
  refine ⟨_, _, by rw [List.length_drop], by rw [List.length_drop]; omega, fun j x hj => ?_, by rw [List.length_drop]; omega⟩
  rw [List.getElem?_drop] at hj
  obtain ⟨g', off', e, hg, hx⟩ := hc (i + j) x hj
  simp only [Option.some.injEq, Addr.mk.injEq, and_true] at e
  obtain ⟨rfl, rfl⟩ := e
  refine ⟨g, off + i * k, rfl, hg, fun q u hq => ?_⟩
  have := hx q u hq
  rwa [show off + (i + j) * k + q = off + i * k + j * k + q by rw [Nat.add_mul]; omega] at this

theorem ReadsR.take {α : Type} {k : Nat} {cs : α → List Value} {B : Nat} {w : World} {o : Option Addr} {n cap : Nat} {xs : List α} (h : ReadsR k cs B w (.slice o n cap) xs) (i : Nat) (hi : i ≤ n) : ReadsR k cs B w (.slice o i cap) (xs.take i) := by
  obtain ⟨o', cap', e, hm, hc, hr⟩ := h
  simp only [Value.slice.injEq] at e
  obtain ⟨rfl, rfl, rfl⟩ := e
  have hl : (xs.take i).length = i := by rw [List.length_take]; omega
  refine ⟨_, _, by rw [hl], by rw [hl]; omega, fun j x hj => ?_, by rw [hl]; omega⟩
  rw [List.getElem?_take] at hj
  split at hj
  · exact hc j x hj
  · cases hj

/-- A box of another type is written: the row stays. -/
theorem own_box {w : World} {base b : Nat} {e t : TypeId} {k n : Nat} {v : Value} {xs : List Value} {cs : Array Value} (h : w.ownsRow base e k v n xs) (hb : w.heap[b]? = some (.cells cs t (0, 0))) (ht : t ≠ e) (i : Nat) (u : Value) : (w.setCell ⟨b, i, none⟩ u).ownsRow base e k v n xs :=
  own_rng_not h (fun q hq hqv => Below.heap_setCell w ⟨b, i, none⟩ u q (fun hx => own_not_box h hb ht (by rw [hqv]; exact congrArg some hx)))

/-! ### The shelf's state -/
/-- A shelf of one's own: its box, the pool's rows, the row of books and each map. -/
structure ShSt (base b : Nat) (w : World) (v1 v2 vb : Value) (bks : List Bk) (s : Sf) : Prop where
  box : w.heap[b]? = some (.cells #[v1, v2, vb] 29 (0, 0))
  lo : base ≤ b
  pool : OwnP base w v1 v2 s.cs s.ps
  books : OwnB base w vb bks
  eq : bks.map Bk.pb = s.bs

theorem ShSt.below {base b : Nat} {w w' : World} {v1 v2 vb : Value} {bks : List Bk} {s : Sf} (h : ShSt base b w v1 v2 vb bks s) (k : Below w.heap.size w w') : ShSt base b w' v1 v2 vb bks s :=
  ⟨(k.block _ (heap_lt h.box)).trans h.box, h.lo, h.pool.below k, h.books.below k, h.eq⟩

theorem ShSt.forms {base b : Nat} {w : World} {v1 v2 vb : Value} {bks : List Bk} {s : Sf} (h : ShSt base b w v1 v2 vb bks s) : ∀ x ∈ bks, ∃ o k cp, x.m = .slice o k cp := fun x hx => by
  obtain ⟨o, cp, e⟩ := own_slice (h.books.maps x hx)
  exact ⟨o, _, cp, e⟩

theorem ShSt.len {base b : Nat} {w : World} {v1 v2 vb : Value} {bks : List Bk} {s : Sf} (h : ShSt base b w v1 v2 vb bks s) : bks.length = s.bs.length := by rw [← h.eq, List.length_map]

/-- Two rows whose items differ in type never are one block. -/
theorem rows_apart {w : World} {base base' : Nat} {e e' : TypeId} {k k' : Nat} {v v' : Value} {n n' : Nat} {xs ys : List Value} (h : w.ownsRow base e k v n xs) (h' : w.ownsRow base' e' k' v' n' ys) (hne : e' ≠ e) (g : Nat) (hg : v'.ownBlock = some g) : v.ownBlock ≠ some g := by
  rcases h'.2 with ⟨rfl, _⟩ | ⟨g', cap', cur, rfl, _, hh, _⟩
  · simp [Value.ownBlock] at hg
  · simp [Value.ownBlock] at hg
    subst hg
    exact own_not_box h hh hne

/-- Where only the pool's rows are written, the rest of the shelf stays. -/
theorem ShSt.pooled {base b : Nat} {w w' : World} {v1 v2 vb : Value} {bks : List Bk} {s : Sf} (h : ShSt base b w v1 v2 vb bks s) {cs ps : List Int} (own : OwnP base w' v1 v2 cs ps) (k : Only (fun i => v1.ownBlock = some i ∨ v2.ownBlock = some i) w w') : ShSt base b w' v1 v2 vb bks ⟨cs, ps, s.bs⟩ := by
  have nb : ∀ (e : TypeId) (kk n : Nat) (v : Value) (xs : List Value), 2 ≠ e → w.ownsRow base e kk v n xs → w'.ownsRow base e kk v n xs := fun e kk n v xs he hr =>
    own_only hr k (fun g hg hS => by
      rcases hS with q | q
      · exact rows_apart hr h.pool.c he g q hg
      · exact rows_apart hr h.pool.p he g q hg)
  refine ⟨?_, h.lo, own, ⟨nb _ _ _ _ _ (by decide) h.books.row, fun x hx => nb _ _ _ _ _ (by decide) (h.books.maps x hx)⟩, h.eq⟩
  refine (k.block b (heap_lt h.box) (fun hS => ?_)).trans h.box
  rcases hS with q | q
  · exact own_not_box h.pool.c h.box (by decide) q
  · exact own_not_box h.pool.p h.box (by decide) q

theorem ShSt.pool_only {base b : Nat} {w w' : World} {v1 v2 vb : Value} {bks : List Bk} {s : Sf} (h : ShSt base b w v1 v2 vb bks s) (k : Only (fun i => v1.ownBlock = some i ∨ v2.ownBlock = some i) w w') : Below base w w' :=
  k.toBelow (Nat.le_trans h.lo (Nat.le_of_lt (heap_lt h.box))) (fun i hi => by
    rcases hi with q | q
    · exact (h.pool.c.lt i q).1
    · exact (h.pool.p.lt i q).1)

/-- The row of books is written, one book's cells: a map of one's own may be the new one. -/
theorem ShSt.put {base b g n cap : Nat} {w : World} {v1 v2 : Value} {bks : List Bk} {s : Sf} (h : ShSt base b w v1 v2 (.slice (some ⟨g, 0, none⟩) n cap) bks s) (i j : Nat) (hi : i < bks.length) (hj : j < 5) (y : Bk) (u : Value) (hy : (bookC bks[i]).set j u = bookC y) (hm : w.ownsRow base 112 3 y.m y.rs.length (y.rs.flatMap runC)) :
    ShSt base b (w.setCell ⟨g, i * 5 + j, none⟩ u) v1 v2 (.slice (some ⟨g, 0, none⟩) n cap) (bks.set i y) ⟨s.cs, s.ps, s.bs.set i y.pb⟩ ∧ Below base w (w.setCell ⟨g, i * 5 + j, none⟩ u) := by
  have hg := h.books.row.lt g rfl
  have ub : Upto g w (w.setCell ⟨g, i * 5 + j, none⟩ u) := (Upto.refl _ _).setCell ⟨g, i * 5 + j, none⟩ (.inl rfl) _
  obtain ⟨cur, hcur⟩ : ∃ cur, w.heap[g]? = some (.cells cur 48 (0, 0)) := by
    rcases h.books.row.2 with ⟨e, _⟩ | ⟨g', cap', cur, e, _, hh, _⟩
    · simp at e
    · simp only [Value.slice.injEq, Option.some.injEq, Addr.mk.injEq, and_true] at e
      obtain ⟨rfl, _⟩ := e
      exact ⟨cur, hh⟩
  have st : ∀ (e : TypeId) (kk n : Nat) (v : Value) (xs : List Value), 48 ≠ e → w.ownsRow base e kk v n xs → (w.setCell ⟨g, i * 5 + j, none⟩ u).ownsRow base e kk v n xs := fun e kk n v xs he hr =>
    own_rng_not hr (fun q hq hqv => ub.block q hq (fun hx => own_not_box hr hcur he (by rw [← hx]; exact hqv)))
  refine ⟨⟨?_, h.lo, ⟨st _ _ _ _ _ (by decide) h.pool.c, st _ _ _ _ _ (by decide) h.pool.p, h.pool.apart⟩, ⟨own_put bookC_len h.books.row i j _ y u (List.getElem?_eq_getElem hi) hj hy, fun x hx => ?_⟩, ?_⟩, ub.toBelow (Nat.le_trans h.lo (Nat.le_of_lt (heap_lt h.box))) hg.1⟩
  · refine (ub.block b (heap_lt h.box) (fun e => ?_)).trans h.box
    rw [← e, h.box] at hcur
    simp at hcur
  · rcases List.mem_or_eq_of_mem_set hx with q | rfl
    · exact st _ _ _ _ _ (by decide) (h.books.maps x q)
    · exact st _ _ _ _ _ (by decide) hm
  · rw [← h.eq, List.map_set]

/-- The shelf's box takes another row of books. -/
theorem ShSt.rebook {base b : Nat} {w : World} {v1 v2 vb vb' : Value} {bks bks' : List Bk} {s : Sf} (h : ShSt base b w v1 v2 vb bks s) (nb : OwnB base w vb' bks') : ShSt base b (w.setCell ⟨b, 2, none⟩ vb') v1 v2 vb' bks' ⟨s.cs, s.ps, bks'.map Bk.pb⟩ ∧ Below base w (w.setCell ⟨b, 2, none⟩ vb') := by
  have ub : Upto b w (w.setCell ⟨b, 2, none⟩ vb') := (Upto.refl _ _).setCell ⟨b, 2, none⟩ (.inl rfl) _
  have st : ∀ (e : TypeId) (kk n : Nat) (v : Value) (xs : List Value), 29 ≠ e → w.ownsRow base e kk v n xs → (w.setCell ⟨b, 2, none⟩ vb').ownsRow base e kk v n xs := fun e kk n v xs he hr =>
    own_rng_not hr (fun q hq hqv => ub.block q hq (fun hx => own_not_box hr h.box he (by rw [← hx]; exact hqv)))
  exact ⟨⟨set_at h.box 2 vb', h.lo, ⟨st _ _ _ _ _ (by decide) h.pool.c, st _ _ _ _ _ (by decide) h.pool.p, h.pool.apart⟩, ⟨st _ _ _ _ _ (by decide) nb.row, fun x hx => st _ _ _ _ _ (by decide) (nb.maps x hx)⟩, rfl⟩, ub.toBelow (Nat.le_trans h.lo (Nat.le_of_lt (heap_lt h.box))) h.lo⟩

/-- The blocks of a shelf that may be written. -/
def ShW (b : Nat) (v1 v2 vb : Value) (i : Nat) : Prop := i = b ∨ v1.ownBlock = some i ∨ v2.ownBlock = some i ∨ vb.ownBlock = some i

theorem ShSt.only_below {base b : Nat} {w w' : World} {v1 v2 vb : Value} {bks : List Bk} {s : Sf} (h : ShSt base b w v1 v2 vb bks s) (k : Only (ShW b v1 v2 vb) w w') : Below base w w' :=
  k.toBelow (Nat.le_trans h.lo (Nat.le_of_lt (heap_lt h.box))) (fun i hi => by
    rcases hi with q | q | q | q
    · rw [q]; exact h.lo
    · exact (h.pool.c.lt i q).1
    · exact (h.pool.p.lt i q).1
    · exact (h.books.row.lt i q).1)

/-- A box of another type stays. -/
theorem ShSt.keeps {base b n : Nat} {w w' : World} {v1 v2 vb : Value} {bks : List Bk} {s : Sf} {cs : Array Value} {T : TypeId} (h : ShSt base b w v1 v2 vb bks s) (k : Only (ShW b v1 v2 vb) w w') (hb : w.heap[n]? = some (.cells cs T (0, 0))) (t1 : T ≠ 29) (t2 : T ≠ 2) (t3 : T ≠ 48) : w'.heap[n]? = some (.cells cs T (0, 0)) := by
  refine (k.block n (heap_lt hb) (fun hi => ?_)).trans hb
  rcases hi with q | q | q | q
  · rw [q, h.box] at hb
    simp at hb
    exact t1 hb.2.symm
  · exact own_not_box h.pool.c hb t2 q
  · exact own_not_box h.pool.p hb t2 q
  · exact own_not_box h.books.row hb t3 q

theorem ShSt.keeps_b {base b n : Nat} {w w' : World} {v1 v2 vb : Value} {bks : List Bk} {s : Sf} {cs : Array Value} {T : TypeId} (h : ShSt base b w v1 v2 vb bks s) (k : Only (fun i => i = b) w w') (hb : w.heap[n]? = some (.cells cs T (0, 0))) (t1 : T ≠ 29) : w'.heap[n]? = some (.cells cs T (0, 0)) := by
  refine (k.block n (heap_lt hb) (fun hi => ?_)).trans hb
  rw [hi, h.box] at hb
  simp at hb
  exact t1 hb.2.symm
end Go.Proofs.YtaekdfknkgmfbaaGreatDoor

namespace Go.Proofs.YtaekdfknkgmfbaaGreatDoor
open Go.RowKit

set_option linter.unusedVariables false

set_option maxRecDepth 100000


theorem findP_map (bks : List Bk) (n : ByteArray) : findP (bks.map Bk.pb) n = findB bks n := by
  unfold findP findB
  rw [List.map_map]
  rfl

theorem findB_in (bks : List Bk) (n : ByteArray) (h : ¬ findB bks n < 0) : ∃ (i : Nat) (hi : i < bks.length), findB bks n = i ∧ bookAt (bks.map Bk.pb) (findB bks n) = bks[i].pb := by
  rw [← findP_map] at h
  obtain ⟨i, hi, h1, h2⟩ := find_in _ n h
  have hi' : i < bks.length := by simpa using hi
  rw [findP_map] at h1
  refine ⟨i, hi', h1, ?_⟩
  rw [h1, bookAt_of _ i hi]
  simp

/-- What is refused, by what was found. -/
def refBy (f g : Int) (n : Nat) (b : Pb) (o : Oq) : Int :=
  if o.k ≠ 1 ∧ f < 0 then 2
  else if (o.k = 1 ∧ 0 ≤ f) ∨ (kOther o.k = true ∧ 0 ≤ g) then 3
  else if o.k = 1 then (if n = 6 then 7 else 0)
  else if kEpoch o.k = true ∧ o.ep < b.ep then 4
  else if kEpoch o.k = true ∧ o.k ≠ 6 ∧ b.fx = true then 5
  else if kAt o.k = true ∧ b.sz ≤ o.at_ then 6
  else if kOther o.k = true ∧ n = 6 then 7
  else if o.k = 8 ∧ b.ep = 1000 then 8
  else 0

theorem refused_by (bks : List Bk) (o : Oq) : refused (bks.map Bk.pb) o = refBy (findB bks o.nm) (findB bks o.ot) bks.length (bookAt (bks.map Bk.pb) (findB bks o.nm)) o := by
  unfold refused refBy
  rw [findP_map, findP_map, List.length_map]

theorem refBy_1 (f g : Int) (n : Nat) (b : Pb) (nm ot : ByteArray) (at_ va ep : Int) : refBy f g n b ⟨1, nm, ot, at_, va, ep⟩ = (if 0 ≤ f then 3 else if n = 6 then 7 else 0) := by
  unfold refBy
  simp only [show kOther 1 = false from rfl, show kEpoch 1 = false from rfl, show kAt 1 = false from rfl]
  simp

set_option maxHeartbeats 3200000 in
theorem refused_1 (v : Value) (bks : List Bk) (nm ot : ByteArray) (at_ va ep : Int) (w : World) (r : ReadsR 5 bookC w.heap.size w v bks) (hfm : ∀ b ∈ bks, ∃ o k cp, b.m = .slice o k cp) :
    Calls Tryz.prog 135 #[v, .agg #[.int .i64 1, .string nm, .string ot, .int .i64 at_, .int .i64 va, .int .i64 ep]] w fun e w' => e = .returned (.int .i64 (refused (bks.map Bk.pb) ⟨1, nm, ot, at_, va, ep⟩)) ∧ Below w.heap.size w w' := by
  obtain ⟨W0, hW0, k0, d0, z0⟩ := box1 w #[.int .i64 1, .string nm, .string ot, .int .i64 at_, .int .i64 va, .int .i64 ep] 31
  have r0 := (r.below d0).mono d0.size
  have HW0 : Hid (W0 = _) := hW0
  have p0 := at_cell k0 0
  have p1 := at_cell k0 1
  have p2 := at_cell k0 2
  have p3 := at_cell k0 3
  have p5 := at_cell k0 5
  have s0 := heap_lt k0
  have HIN : Hid _ := findB_in bks nm
  have HR : Hid (refused (bks.map Bk.pb) ⟨1, nm, ot, at_, va, ep⟩ = refBy (findB bks nm) (findB bks ot) bks.length (bookAt (bks.map Bk.pb) (findB bks nm)) ⟨1, nm, ot, at_, va, ep⟩) := refused_by bks _
  obtain ⟨f, hf⟩ : ∃ f, findB bks nm = f := ⟨_, rfl⟩
  obtain ⟨g, hg⟩ : ∃ g, findB bks ot = g := ⟨_, rfl⟩
  obtain ⟨o, cap, rfl, hm, hc, -⟩ := r
  obtain ⟨o2, cap2, e2, -, hc2, -⟩ := id r0
  simp only [Value.slice.injEq] at e2
  obtain ⟨rfl, -, rfl⟩ := e2
  have HC : Hid _ := five_cells hc2
  clear hc2
  rw [hf] at HIN HR
  rw [hg] at HR
  have hlen : bks.length ≤ maxLen := hm
  clear hW0 k0 z0 hc hm
  go_enter Tryz.func135, Tryz.ntmps135
  go_wp2_with fail
  rw [← HW0.out]
  clear HW0
  refine (specFindBook_any _ bks nm _ r0).mono ?_
  rw [hf]
  clear hf
  rintro e w1 ⟨rfl, rfl⟩
  by_cases h1 : 0 ≤ f
  · skip
    have HV : Hid (refused (bks.map Bk.pb) ⟨1, nm, ot, at_, va, ep⟩ = 3) := by rw [Hid, HR.out, refBy_1, if_pos h1]
    clear HR HC
    go_wp2_with fail
    go_ret
    exact ⟨ret_int HV.out.symm, d0⟩
  by_cases h7 : bks.length = 6
  · skip
    have h7e : (bks.length : Int) = 6 := by omega
    have h7b : ((bks.length : Int) == 6) = true := by rw [beq_iff_eq]; exact h7e
    have HV : Hid (refused (bks.map Bk.pb) ⟨1, nm, ot, at_, va, ep⟩ = 7) := by rw [Hid, HR.out, refBy_1, if_neg h1, if_pos h7]
    clear HR HC
    go_wp2_with fail
    go_ret
    exact ⟨ret_int HV.out.symm, d0⟩
  have h7e : ¬ (bks.length : Int) = 6 := by omega
  have h7b : ((bks.length : Int) == 6) = false := by rw [beq_eq_false_iff_ne]; exact h7e
  have HV : Hid (refused (bks.map Bk.pb) ⟨1, nm, ot, at_, va, ep⟩ = 0) := by rw [Hid, HR.out, refBy_1, if_neg h1, if_neg h7]
  clear HR HC
  go_wp2_with fail
  go_ret
  exact ⟨ret_int HV.out.symm, d0⟩

theorem refBy_2 (f g : Int) (n : Nat) (b : Pb) (nm ot : ByteArray) (at_ va ep : Int) : refBy f g n b ⟨2, nm, ot, at_, va, ep⟩ = (if f < 0 then 2 else if ep < b.ep then 4 else if b.fx = true then 5 else if b.sz ≤ at_ then 6 else 0) := by
  unfold refBy
  simp only [show kOther 2 = false from rfl, show kEpoch 2 = true from rfl, show kAt 2 = true from rfl]
  simp

set_option maxHeartbeats 3200000 in
theorem refused_2 (v : Value) (bks : List Bk) (nm ot : ByteArray) (at_ va ep : Int) (w : World) (r : ReadsR 5 bookC w.heap.size w v bks) (hfm : ∀ b ∈ bks, ∃ o k cp, b.m = .slice o k cp) :
    Calls Tryz.prog 135 #[v, .agg #[.int .i64 2, .string nm, .string ot, .int .i64 at_, .int .i64 va, .int .i64 ep]] w fun e w' => e = .returned (.int .i64 (refused (bks.map Bk.pb) ⟨2, nm, ot, at_, va, ep⟩)) ∧ Below w.heap.size w w' := by
  obtain ⟨W0, hW0, k0, d0, z0⟩ := box1 w #[.int .i64 2, .string nm, .string ot, .int .i64 at_, .int .i64 va, .int .i64 ep] 31
  have r0 := (r.below d0).mono d0.size
  have HW0 : Hid (W0 = _) := hW0
  have p0 := at_cell k0 0
  have p1 := at_cell k0 1
  have p2 := at_cell k0 2
  have p3 := at_cell k0 3
  have p5 := at_cell k0 5
  have s0 := heap_lt k0
  have HIN : Hid _ := findB_in bks nm
  have HR : Hid (refused (bks.map Bk.pb) ⟨2, nm, ot, at_, va, ep⟩ = refBy (findB bks nm) (findB bks ot) bks.length (bookAt (bks.map Bk.pb) (findB bks nm)) ⟨2, nm, ot, at_, va, ep⟩) := refused_by bks _
  obtain ⟨f, hf⟩ : ∃ f, findB bks nm = f := ⟨_, rfl⟩
  obtain ⟨g, hg⟩ : ∃ g, findB bks ot = g := ⟨_, rfl⟩
  obtain ⟨o, cap, rfl, hm, hc, -⟩ := r
  obtain ⟨o2, cap2, e2, -, hc2, -⟩ := id r0
  simp only [Value.slice.injEq] at e2
  obtain ⟨rfl, -, rfl⟩ := e2
  have HC : Hid _ := five_cells hc2
  clear hc2
  rw [hf] at HIN HR
  rw [hg] at HR
  have hlen : bks.length ≤ maxLen := hm
  clear hW0 k0 z0 hc hm
  go_enter Tryz.func135, Tryz.ntmps135
  go_wp2_with fail
  rw [← HW0.out]
  clear HW0
  refine (specFindBook_any _ bks nm _ r0).mono ?_
  rw [hf]
  clear hf
  rintro e w1 ⟨rfl, rfl⟩
  by_cases h1 : f < 0
  · skip
    have HV : Hid (refused (bks.map Bk.pb) ⟨2, nm, ot, at_, va, ep⟩ = 2) := by rw [Hid, HR.out, refBy_2, if_pos h1]
    clear HR HC
    go_wp2_with fail
    go_ret
    exact ⟨ret_int HV.out.symm, d0⟩
  obtain ⟨i, hil, hfi, hbk⟩ := HIN.out (by omega)
  obtain ⟨g0, off, rfl, hg0, a0, a1, a2, a3, a4⟩ := HC.out i hil
  obtain ⟨mo, mk, mc, hmf⟩ := hfm bks[i] (List.getElem_mem hil)
  rw [hbk] at HR
  generalize bks[i] = x at a0 a1 a2 a3 a4 hmf HR
  obtain ⟨nm0, sz0, m0, rs0, fx0, ep0⟩ := x
  simp only [Bk.pb] at a0 a1 a2 a3 a4 hmf HR
  subst hmf hfi
  have hi0 : (0 : Int) ≤ (i : Int) := by omega
  have hi1 : (i : Int) < (bks.length : Int) := by omega
  clear HIN hbk hg0
  by_cases h4 : ep < ep0
  · skip
    have HV : Hid (refused (bks.map Bk.pb) ⟨2, nm, ot, at_, va, ep⟩ = 4) := by rw [Hid, HR.out, refBy_2, if_neg h1, if_pos h4]
    clear HR HC
    go_wp2_with fail
    go_ret
    exact ⟨ret_int HV.out.symm, bw_alloc d0⟩
  cases fx0 with
  | true =>
    have HV : Hid (refused (bks.map Bk.pb) ⟨2, nm, ot, at_, va, ep⟩ = 5) := by rw [Hid, HR.out, refBy_2, if_neg h1, if_neg h4, if_pos rfl]
    clear HR HC
    go_wp2_with fail
    go_ret
    exact ⟨ret_int HV.out.symm, bw_alloc d0⟩
  | false =>
    by_cases h6 : sz0 ≤ at_
    · skip
      have HV : Hid (refused (bks.map Bk.pb) ⟨2, nm, ot, at_, va, ep⟩ = 6) := by rw [Hid, HR.out, refBy_2, if_neg h1, if_neg h4, if_neg Bool.false_ne_true, if_pos h6]
      clear HR HC
      go_wp2_with fail
      go_ret
      exact ⟨ret_int HV.out.symm, bw_alloc d0⟩
    have HV : Hid (refused (bks.map Bk.pb) ⟨2, nm, ot, at_, va, ep⟩ = 0) := by rw [Hid, HR.out, refBy_2, if_neg h1, if_neg h4, if_neg Bool.false_ne_true, if_neg h6]
    clear HR HC
    go_wp2_with fail
    go_ret
    exact ⟨ret_int HV.out.symm, bw_alloc d0⟩

theorem refBy_3 (f g : Int) (n : Nat) (b : Pb) (nm ot : ByteArray) (at_ va ep : Int) : refBy f g n b ⟨3, nm, ot, at_, va, ep⟩ = (if f < 0 then 2 else if ep < b.ep then 4 else if b.fx = true then 5 else if b.sz ≤ at_ then 6 else 0) := by
  unfold refBy
  simp only [show kOther 3 = false from rfl, show kEpoch 3 = true from rfl, show kAt 3 = true from rfl]
  simp

set_option maxHeartbeats 3200000 in
theorem refused_3 (v : Value) (bks : List Bk) (nm ot : ByteArray) (at_ va ep : Int) (w : World) (r : ReadsR 5 bookC w.heap.size w v bks) (hfm : ∀ b ∈ bks, ∃ o k cp, b.m = .slice o k cp) :
    Calls Tryz.prog 135 #[v, .agg #[.int .i64 3, .string nm, .string ot, .int .i64 at_, .int .i64 va, .int .i64 ep]] w fun e w' => e = .returned (.int .i64 (refused (bks.map Bk.pb) ⟨3, nm, ot, at_, va, ep⟩)) ∧ Below w.heap.size w w' := by
  obtain ⟨W0, hW0, k0, d0, z0⟩ := box1 w #[.int .i64 3, .string nm, .string ot, .int .i64 at_, .int .i64 va, .int .i64 ep] 31
  have r0 := (r.below d0).mono d0.size
  have HW0 : Hid (W0 = _) := hW0
  have p0 := at_cell k0 0
  have p1 := at_cell k0 1
  have p2 := at_cell k0 2
  have p3 := at_cell k0 3
  have p5 := at_cell k0 5
  have s0 := heap_lt k0
  have HIN : Hid _ := findB_in bks nm
  have HR : Hid (refused (bks.map Bk.pb) ⟨3, nm, ot, at_, va, ep⟩ = refBy (findB bks nm) (findB bks ot) bks.length (bookAt (bks.map Bk.pb) (findB bks nm)) ⟨3, nm, ot, at_, va, ep⟩) := refused_by bks _
  obtain ⟨f, hf⟩ : ∃ f, findB bks nm = f := ⟨_, rfl⟩
  obtain ⟨g, hg⟩ : ∃ g, findB bks ot = g := ⟨_, rfl⟩
  obtain ⟨o, cap, rfl, hm, hc, -⟩ := r
  obtain ⟨o2, cap2, e2, -, hc2, -⟩ := id r0
  simp only [Value.slice.injEq] at e2
  obtain ⟨rfl, -, rfl⟩ := e2
  have HC : Hid _ := five_cells hc2
  clear hc2
  rw [hf] at HIN HR
  rw [hg] at HR
  have hlen : bks.length ≤ maxLen := hm
  clear hW0 k0 z0 hc hm
  go_enter Tryz.func135, Tryz.ntmps135
  go_wp2_with fail
  rw [← HW0.out]
  clear HW0
  refine (specFindBook_any _ bks nm _ r0).mono ?_
  rw [hf]
  clear hf
  rintro e w1 ⟨rfl, rfl⟩
  by_cases h1 : f < 0
  · skip
    have HV : Hid (refused (bks.map Bk.pb) ⟨3, nm, ot, at_, va, ep⟩ = 2) := by rw [Hid, HR.out, refBy_3, if_pos h1]
    clear HR HC
    go_wp2_with fail
    go_ret
    exact ⟨ret_int HV.out.symm, d0⟩
  obtain ⟨i, hil, hfi, hbk⟩ := HIN.out (by omega)
  obtain ⟨g0, off, rfl, hg0, a0, a1, a2, a3, a4⟩ := HC.out i hil
  obtain ⟨mo, mk, mc, hmf⟩ := hfm bks[i] (List.getElem_mem hil)
  rw [hbk] at HR
  generalize bks[i] = x at a0 a1 a2 a3 a4 hmf HR
  obtain ⟨nm0, sz0, m0, rs0, fx0, ep0⟩ := x
  simp only [Bk.pb] at a0 a1 a2 a3 a4 hmf HR
  subst hmf hfi
  have hi0 : (0 : Int) ≤ (i : Int) := by omega
  have hi1 : (i : Int) < (bks.length : Int) := by omega
  clear HIN hbk hg0
  by_cases h4 : ep < ep0
  · skip
    have HV : Hid (refused (bks.map Bk.pb) ⟨3, nm, ot, at_, va, ep⟩ = 4) := by rw [Hid, HR.out, refBy_3, if_neg h1, if_pos h4]
    clear HR HC
    go_wp2_with fail
    go_ret
    exact ⟨ret_int HV.out.symm, bw_alloc d0⟩
  cases fx0 with
  | true =>
    have HV : Hid (refused (bks.map Bk.pb) ⟨3, nm, ot, at_, va, ep⟩ = 5) := by rw [Hid, HR.out, refBy_3, if_neg h1, if_neg h4, if_pos rfl]
    clear HR HC
    go_wp2_with fail
    go_ret
    exact ⟨ret_int HV.out.symm, bw_alloc d0⟩
  | false =>
    by_cases h6 : sz0 ≤ at_
    · skip
      have HV : Hid (refused (bks.map Bk.pb) ⟨3, nm, ot, at_, va, ep⟩ = 6) := by rw [Hid, HR.out, refBy_3, if_neg h1, if_neg h4, if_neg Bool.false_ne_true, if_pos h6]
      clear HR HC
      go_wp2_with fail
      go_ret
      exact ⟨ret_int HV.out.symm, bw_alloc d0⟩
    have HV : Hid (refused (bks.map Bk.pb) ⟨3, nm, ot, at_, va, ep⟩ = 0) := by rw [Hid, HR.out, refBy_3, if_neg h1, if_neg h4, if_neg Bool.false_ne_true, if_neg h6]
    clear HR HC
    go_wp2_with fail
    go_ret
    exact ⟨ret_int HV.out.symm, bw_alloc d0⟩

theorem refBy_4 (f g : Int) (n : Nat) (b : Pb) (nm ot : ByteArray) (at_ va ep : Int) : refBy f g n b ⟨4, nm, ot, at_, va, ep⟩ = (if f < 0 then 2 else if 0 ≤ g then 3 else if n = 6 then 7 else 0) := by
  unfold refBy
  simp only [show kOther 4 = true from rfl, show kEpoch 4 = false from rfl, show kAt 4 = false from rfl]
  simp

set_option maxHeartbeats 3200000 in
theorem refused_4 (v : Value) (bks : List Bk) (nm ot : ByteArray) (at_ va ep : Int) (w : World) (r : ReadsR 5 bookC w.heap.size w v bks) (hfm : ∀ b ∈ bks, ∃ o k cp, b.m = .slice o k cp) :
    Calls Tryz.prog 135 #[v, .agg #[.int .i64 4, .string nm, .string ot, .int .i64 at_, .int .i64 va, .int .i64 ep]] w fun e w' => e = .returned (.int .i64 (refused (bks.map Bk.pb) ⟨4, nm, ot, at_, va, ep⟩)) ∧ Below w.heap.size w w' := by
  obtain ⟨W0, hW0, k0, d0, z0⟩ := box1 w #[.int .i64 4, .string nm, .string ot, .int .i64 at_, .int .i64 va, .int .i64 ep] 31
  have r0 := (r.below d0).mono d0.size
  have HW0 : Hid (W0 = _) := hW0
  have p0 := at_cell k0 0
  have p1 := at_cell k0 1
  have p2 := at_cell k0 2
  have p3 := at_cell k0 3
  have p5 := at_cell k0 5
  have s0 := heap_lt k0
  have HIN : Hid _ := findB_in bks nm
  have HR : Hid (refused (bks.map Bk.pb) ⟨4, nm, ot, at_, va, ep⟩ = refBy (findB bks nm) (findB bks ot) bks.length (bookAt (bks.map Bk.pb) (findB bks nm)) ⟨4, nm, ot, at_, va, ep⟩) := refused_by bks _
  obtain ⟨f, hf⟩ : ∃ f, findB bks nm = f := ⟨_, rfl⟩
  obtain ⟨g, hg⟩ : ∃ g, findB bks ot = g := ⟨_, rfl⟩
  obtain ⟨o, cap, rfl, hm, hc, -⟩ := r
  obtain ⟨o2, cap2, e2, -, hc2, -⟩ := id r0
  simp only [Value.slice.injEq] at e2
  obtain ⟨rfl, -, rfl⟩ := e2
  have HC : Hid _ := five_cells hc2
  clear hc2
  rw [hf] at HIN HR
  rw [hg] at HR
  have hlen : bks.length ≤ maxLen := hm
  clear hW0 k0 z0 hc hm
  go_enter Tryz.func135, Tryz.ntmps135
  go_wp2_with fail
  rw [← HW0.out]
  clear HW0
  refine (specFindBook_any _ bks nm _ r0).mono ?_
  rw [hf]
  clear hf
  rintro e w1 ⟨rfl, rfl⟩
  by_cases h1 : f < 0
  · skip
    have HV : Hid (refused (bks.map Bk.pb) ⟨4, nm, ot, at_, va, ep⟩ = 2) := by rw [Hid, HR.out, refBy_4, if_pos h1]
    clear HR HC
    go_wp2_with fail
    go_ret
    exact ⟨ret_int HV.out.symm, d0⟩
  go_wp2_with fail
  refine (specFindBook_any _ bks ot _ r0).mono ?_
  rw [hg]
  clear hg
  rintro e w1 ⟨rfl, rfl⟩
  replace h1 : ¬ f < 0 := by omega
  by_cases h3 : 0 ≤ g
  · skip
    have HV : Hid (refused (bks.map Bk.pb) ⟨4, nm, ot, at_, va, ep⟩ = 3) := by rw [Hid, HR.out, refBy_4, if_neg h1, if_pos h3]
    clear HR HC
    go_wp2_with fail
    go_ret
    exact ⟨ret_int HV.out.symm, d0⟩
  obtain ⟨i, hil, hfi, hbk⟩ := HIN.out (by omega)
  obtain ⟨g0, off, rfl, hg0, a0, a1, a2, a3, a4⟩ := HC.out i hil
  obtain ⟨mo, mk, mc, hmf⟩ := hfm bks[i] (List.getElem_mem hil)
  rw [hbk] at HR
  generalize bks[i] = x at a0 a1 a2 a3 a4 hmf HR
  obtain ⟨nm0, sz0, m0, rs0, fx0, ep0⟩ := x
  simp only [Bk.pb] at a0 a1 a2 a3 a4 hmf HR
  subst hmf hfi
  have hi0 : (0 : Int) ≤ (i : Int) := by omega
  have hi1 : (i : Int) < (bks.length : Int) := by omega
  clear HIN hbk hg0
  by_cases h7 : bks.length = 6
  · skip
    have h7e : (bks.length : Int) = 6 := by omega
    have h7b : ((bks.length : Int) == 6) = true := by rw [beq_iff_eq]; exact h7e
    have HV : Hid (refused (bks.map Bk.pb) ⟨4, nm, ot, at_, va, ep⟩ = 7) := by rw [Hid, HR.out, refBy_4, if_neg h1, if_neg h3, if_pos h7]
    clear HR HC
    go_wp2_with fail
    go_ret
    exact ⟨ret_int HV.out.symm, bw_alloc d0⟩
  have h7e : ¬ (bks.length : Int) = 6 := by omega
  have h7b : ((bks.length : Int) == 6) = false := by rw [beq_eq_false_iff_ne]; exact h7e
  have HV : Hid (refused (bks.map Bk.pb) ⟨4, nm, ot, at_, va, ep⟩ = 0) := by rw [Hid, HR.out, refBy_4, if_neg h1, if_neg h3, if_neg h7]
  clear HR HC
  go_wp2_with fail
  go_ret
  exact ⟨ret_int HV.out.symm, bw_alloc d0⟩

theorem refBy_5 (f g : Int) (n : Nat) (b : Pb) (nm ot : ByteArray) (at_ va ep : Int) : refBy f g n b ⟨5, nm, ot, at_, va, ep⟩ = (if f < 0 then 2 else if 0 ≤ g then 3 else if n = 6 then 7 else 0) := by
  unfold refBy
  simp only [show kOther 5 = true from rfl, show kEpoch 5 = false from rfl, show kAt 5 = false from rfl]
  simp

set_option maxHeartbeats 3200000 in
theorem refused_5 (v : Value) (bks : List Bk) (nm ot : ByteArray) (at_ va ep : Int) (w : World) (r : ReadsR 5 bookC w.heap.size w v bks) (hfm : ∀ b ∈ bks, ∃ o k cp, b.m = .slice o k cp) :
    Calls Tryz.prog 135 #[v, .agg #[.int .i64 5, .string nm, .string ot, .int .i64 at_, .int .i64 va, .int .i64 ep]] w fun e w' => e = .returned (.int .i64 (refused (bks.map Bk.pb) ⟨5, nm, ot, at_, va, ep⟩)) ∧ Below w.heap.size w w' := by
  obtain ⟨W0, hW0, k0, d0, z0⟩ := box1 w #[.int .i64 5, .string nm, .string ot, .int .i64 at_, .int .i64 va, .int .i64 ep] 31
  have r0 := (r.below d0).mono d0.size
  have HW0 : Hid (W0 = _) := hW0
  have p0 := at_cell k0 0
  have p1 := at_cell k0 1
  have p2 := at_cell k0 2
  have p3 := at_cell k0 3
  have p5 := at_cell k0 5
  have s0 := heap_lt k0
  have HIN : Hid _ := findB_in bks nm
  have HR : Hid (refused (bks.map Bk.pb) ⟨5, nm, ot, at_, va, ep⟩ = refBy (findB bks nm) (findB bks ot) bks.length (bookAt (bks.map Bk.pb) (findB bks nm)) ⟨5, nm, ot, at_, va, ep⟩) := refused_by bks _
  obtain ⟨f, hf⟩ : ∃ f, findB bks nm = f := ⟨_, rfl⟩
  obtain ⟨g, hg⟩ : ∃ g, findB bks ot = g := ⟨_, rfl⟩
  obtain ⟨o, cap, rfl, hm, hc, -⟩ := r
  obtain ⟨o2, cap2, e2, -, hc2, -⟩ := id r0
  simp only [Value.slice.injEq] at e2
  obtain ⟨rfl, -, rfl⟩ := e2
  have HC : Hid _ := five_cells hc2
  clear hc2
  rw [hf] at HIN HR
  rw [hg] at HR
  have hlen : bks.length ≤ maxLen := hm
  clear hW0 k0 z0 hc hm
  go_enter Tryz.func135, Tryz.ntmps135
  go_wp2_with fail
  rw [← HW0.out]
  clear HW0
  refine (specFindBook_any _ bks nm _ r0).mono ?_
  rw [hf]
  clear hf
  rintro e w1 ⟨rfl, rfl⟩
  by_cases h1 : f < 0
  · skip
    have HV : Hid (refused (bks.map Bk.pb) ⟨5, nm, ot, at_, va, ep⟩ = 2) := by rw [Hid, HR.out, refBy_5, if_pos h1]
    clear HR HC
    go_wp2_with fail
    go_ret
    exact ⟨ret_int HV.out.symm, d0⟩
  go_wp2_with fail
  refine (specFindBook_any _ bks ot _ r0).mono ?_
  rw [hg]
  clear hg
  rintro e w1 ⟨rfl, rfl⟩
  replace h1 : ¬ f < 0 := by omega
  by_cases h3 : 0 ≤ g
  · skip
    have HV : Hid (refused (bks.map Bk.pb) ⟨5, nm, ot, at_, va, ep⟩ = 3) := by rw [Hid, HR.out, refBy_5, if_neg h1, if_pos h3]
    clear HR HC
    go_wp2_with fail
    go_ret
    exact ⟨ret_int HV.out.symm, d0⟩
  obtain ⟨i, hil, hfi, hbk⟩ := HIN.out (by omega)
  obtain ⟨g0, off, rfl, hg0, a0, a1, a2, a3, a4⟩ := HC.out i hil
  obtain ⟨mo, mk, mc, hmf⟩ := hfm bks[i] (List.getElem_mem hil)
  rw [hbk] at HR
  generalize bks[i] = x at a0 a1 a2 a3 a4 hmf HR
  obtain ⟨nm0, sz0, m0, rs0, fx0, ep0⟩ := x
  simp only [Bk.pb] at a0 a1 a2 a3 a4 hmf HR
  subst hmf hfi
  have hi0 : (0 : Int) ≤ (i : Int) := by omega
  have hi1 : (i : Int) < (bks.length : Int) := by omega
  clear HIN hbk hg0
  by_cases h7 : bks.length = 6
  · skip
    have h7e : (bks.length : Int) = 6 := by omega
    have h7b : ((bks.length : Int) == 6) = true := by rw [beq_iff_eq]; exact h7e
    have HV : Hid (refused (bks.map Bk.pb) ⟨5, nm, ot, at_, va, ep⟩ = 7) := by rw [Hid, HR.out, refBy_5, if_neg h1, if_neg h3, if_pos h7]
    clear HR HC
    go_wp2_with fail
    go_ret
    exact ⟨ret_int HV.out.symm, bw_alloc d0⟩
  have h7e : ¬ (bks.length : Int) = 6 := by omega
  have h7b : ((bks.length : Int) == 6) = false := by rw [beq_eq_false_iff_ne]; exact h7e
  have HV : Hid (refused (bks.map Bk.pb) ⟨5, nm, ot, at_, va, ep⟩ = 0) := by rw [Hid, HR.out, refBy_5, if_neg h1, if_neg h3, if_neg h7]
  clear HR HC
  go_wp2_with fail
  go_ret
  exact ⟨ret_int HV.out.symm, bw_alloc d0⟩

theorem refBy_6 (f g : Int) (n : Nat) (b : Pb) (nm ot : ByteArray) (at_ va ep : Int) : refBy f g n b ⟨6, nm, ot, at_, va, ep⟩ = (if f < 0 then 2 else if ep < b.ep then 4 else 0) := by
  unfold refBy
  simp only [show kOther 6 = false from rfl, show kEpoch 6 = true from rfl, show kAt 6 = false from rfl]
  simp

set_option maxHeartbeats 3200000 in
theorem refused_6 (v : Value) (bks : List Bk) (nm ot : ByteArray) (at_ va ep : Int) (w : World) (r : ReadsR 5 bookC w.heap.size w v bks) (hfm : ∀ b ∈ bks, ∃ o k cp, b.m = .slice o k cp) :
    Calls Tryz.prog 135 #[v, .agg #[.int .i64 6, .string nm, .string ot, .int .i64 at_, .int .i64 va, .int .i64 ep]] w fun e w' => e = .returned (.int .i64 (refused (bks.map Bk.pb) ⟨6, nm, ot, at_, va, ep⟩)) ∧ Below w.heap.size w w' := by
  obtain ⟨W0, hW0, k0, d0, z0⟩ := box1 w #[.int .i64 6, .string nm, .string ot, .int .i64 at_, .int .i64 va, .int .i64 ep] 31
  have r0 := (r.below d0).mono d0.size
  have HW0 : Hid (W0 = _) := hW0
  have p0 := at_cell k0 0
  have p1 := at_cell k0 1
  have p2 := at_cell k0 2
  have p3 := at_cell k0 3
  have p5 := at_cell k0 5
  have s0 := heap_lt k0
  have HIN : Hid _ := findB_in bks nm
  have HR : Hid (refused (bks.map Bk.pb) ⟨6, nm, ot, at_, va, ep⟩ = refBy (findB bks nm) (findB bks ot) bks.length (bookAt (bks.map Bk.pb) (findB bks nm)) ⟨6, nm, ot, at_, va, ep⟩) := refused_by bks _
  obtain ⟨f, hf⟩ : ∃ f, findB bks nm = f := ⟨_, rfl⟩
  obtain ⟨g, hg⟩ : ∃ g, findB bks ot = g := ⟨_, rfl⟩
  obtain ⟨o, cap, rfl, hm, hc, -⟩ := r
  obtain ⟨o2, cap2, e2, -, hc2, -⟩ := id r0
  simp only [Value.slice.injEq] at e2
  obtain ⟨rfl, -, rfl⟩ := e2
  have HC : Hid _ := five_cells hc2
  clear hc2
  rw [hf] at HIN HR
  rw [hg] at HR
  have hlen : bks.length ≤ maxLen := hm
  clear hW0 k0 z0 hc hm
  go_enter Tryz.func135, Tryz.ntmps135
  go_wp2_with fail
  rw [← HW0.out]
  clear HW0
  refine (specFindBook_any _ bks nm _ r0).mono ?_
  rw [hf]
  clear hf
  rintro e w1 ⟨rfl, rfl⟩
  by_cases h1 : f < 0
  · skip
    have HV : Hid (refused (bks.map Bk.pb) ⟨6, nm, ot, at_, va, ep⟩ = 2) := by rw [Hid, HR.out, refBy_6, if_pos h1]
    clear HR HC
    go_wp2_with fail
    go_ret
    exact ⟨ret_int HV.out.symm, d0⟩
  obtain ⟨i, hil, hfi, hbk⟩ := HIN.out (by omega)
  obtain ⟨g0, off, rfl, hg0, a0, a1, a2, a3, a4⟩ := HC.out i hil
  obtain ⟨mo, mk, mc, hmf⟩ := hfm bks[i] (List.getElem_mem hil)
  rw [hbk] at HR
  generalize bks[i] = x at a0 a1 a2 a3 a4 hmf HR
  obtain ⟨nm0, sz0, m0, rs0, fx0, ep0⟩ := x
  simp only [Bk.pb] at a0 a1 a2 a3 a4 hmf HR
  subst hmf hfi
  have hi0 : (0 : Int) ≤ (i : Int) := by omega
  have hi1 : (i : Int) < (bks.length : Int) := by omega
  clear HIN hbk hg0
  by_cases h4 : ep < ep0
  · skip
    have HV : Hid (refused (bks.map Bk.pb) ⟨6, nm, ot, at_, va, ep⟩ = 4) := by rw [Hid, HR.out, refBy_6, if_neg h1, if_pos h4]
    clear HR HC
    go_wp2_with fail
    go_ret
    exact ⟨ret_int HV.out.symm, bw_alloc d0⟩
  have HV : Hid (refused (bks.map Bk.pb) ⟨6, nm, ot, at_, va, ep⟩ = 0) := by rw [Hid, HR.out, refBy_6, if_neg h1, if_neg h4]
  clear HR HC
  go_wp2_with fail
  go_ret
  exact ⟨ret_int HV.out.symm, bw_alloc d0⟩

theorem refBy_7 (f g : Int) (n : Nat) (b : Pb) (nm ot : ByteArray) (at_ va ep : Int) : refBy f g n b ⟨7, nm, ot, at_, va, ep⟩ = (if f < 0 then 2 else if ep < b.ep then 4 else if b.fx = true then 5 else 0) := by
  unfold refBy
  simp only [show kOther 7 = false from rfl, show kEpoch 7 = true from rfl, show kAt 7 = false from rfl]
  simp

set_option maxHeartbeats 3200000 in
theorem refused_7 (v : Value) (bks : List Bk) (nm ot : ByteArray) (at_ va ep : Int) (w : World) (r : ReadsR 5 bookC w.heap.size w v bks) (hfm : ∀ b ∈ bks, ∃ o k cp, b.m = .slice o k cp) :
    Calls Tryz.prog 135 #[v, .agg #[.int .i64 7, .string nm, .string ot, .int .i64 at_, .int .i64 va, .int .i64 ep]] w fun e w' => e = .returned (.int .i64 (refused (bks.map Bk.pb) ⟨7, nm, ot, at_, va, ep⟩)) ∧ Below w.heap.size w w' := by
  obtain ⟨W0, hW0, k0, d0, z0⟩ := box1 w #[.int .i64 7, .string nm, .string ot, .int .i64 at_, .int .i64 va, .int .i64 ep] 31
  have r0 := (r.below d0).mono d0.size
  have HW0 : Hid (W0 = _) := hW0
  have p0 := at_cell k0 0
  have p1 := at_cell k0 1
  have p2 := at_cell k0 2
  have p3 := at_cell k0 3
  have p5 := at_cell k0 5
  have s0 := heap_lt k0
  have HIN : Hid _ := findB_in bks nm
  have HR : Hid (refused (bks.map Bk.pb) ⟨7, nm, ot, at_, va, ep⟩ = refBy (findB bks nm) (findB bks ot) bks.length (bookAt (bks.map Bk.pb) (findB bks nm)) ⟨7, nm, ot, at_, va, ep⟩) := refused_by bks _
  obtain ⟨f, hf⟩ : ∃ f, findB bks nm = f := ⟨_, rfl⟩
  obtain ⟨g, hg⟩ : ∃ g, findB bks ot = g := ⟨_, rfl⟩
  obtain ⟨o, cap, rfl, hm, hc, -⟩ := r
  obtain ⟨o2, cap2, e2, -, hc2, -⟩ := id r0
  simp only [Value.slice.injEq] at e2
  obtain ⟨rfl, -, rfl⟩ := e2
  have HC : Hid _ := five_cells hc2
  clear hc2
  rw [hf] at HIN HR
  rw [hg] at HR
  have hlen : bks.length ≤ maxLen := hm
  clear hW0 k0 z0 hc hm
  go_enter Tryz.func135, Tryz.ntmps135
  go_wp2_with fail
  rw [← HW0.out]
  clear HW0
  refine (specFindBook_any _ bks nm _ r0).mono ?_
  rw [hf]
  clear hf
  rintro e w1 ⟨rfl, rfl⟩
  by_cases h1 : f < 0
  · skip
    have HV : Hid (refused (bks.map Bk.pb) ⟨7, nm, ot, at_, va, ep⟩ = 2) := by rw [Hid, HR.out, refBy_7, if_pos h1]
    clear HR HC
    go_wp2_with fail
    go_ret
    exact ⟨ret_int HV.out.symm, d0⟩
  obtain ⟨i, hil, hfi, hbk⟩ := HIN.out (by omega)
  obtain ⟨g0, off, rfl, hg0, a0, a1, a2, a3, a4⟩ := HC.out i hil
  obtain ⟨mo, mk, mc, hmf⟩ := hfm bks[i] (List.getElem_mem hil)
  rw [hbk] at HR
  generalize bks[i] = x at a0 a1 a2 a3 a4 hmf HR
  obtain ⟨nm0, sz0, m0, rs0, fx0, ep0⟩ := x
  simp only [Bk.pb] at a0 a1 a2 a3 a4 hmf HR
  subst hmf hfi
  have hi0 : (0 : Int) ≤ (i : Int) := by omega
  have hi1 : (i : Int) < (bks.length : Int) := by omega
  clear HIN hbk hg0
  by_cases h4 : ep < ep0
  · skip
    have HV : Hid (refused (bks.map Bk.pb) ⟨7, nm, ot, at_, va, ep⟩ = 4) := by rw [Hid, HR.out, refBy_7, if_neg h1, if_pos h4]
    clear HR HC
    go_wp2_with fail
    go_ret
    exact ⟨ret_int HV.out.symm, bw_alloc d0⟩
  cases fx0 with
  | true =>
    have HV : Hid (refused (bks.map Bk.pb) ⟨7, nm, ot, at_, va, ep⟩ = 5) := by rw [Hid, HR.out, refBy_7, if_neg h1, if_neg h4, if_pos rfl]
    clear HR HC
    go_wp2_with fail
    go_ret
    exact ⟨ret_int HV.out.symm, bw_alloc d0⟩
  | false =>
    have HV : Hid (refused (bks.map Bk.pb) ⟨7, nm, ot, at_, va, ep⟩ = 0) := by rw [Hid, HR.out, refBy_7, if_neg h1, if_neg h4, if_neg Bool.false_ne_true]
    clear HR HC
    go_wp2_with fail
    go_ret
    exact ⟨ret_int HV.out.symm, bw_alloc d0⟩

theorem refBy_8 (f g : Int) (n : Nat) (b : Pb) (nm ot : ByteArray) (at_ va ep : Int) : refBy f g n b ⟨8, nm, ot, at_, va, ep⟩ = (if f < 0 then 2 else if b.ep = 1000 then 8 else 0) := by
  unfold refBy
  simp only [show kOther 8 = false from rfl, show kEpoch 8 = false from rfl, show kAt 8 = false from rfl]
  simp

set_option maxHeartbeats 3200000 in
theorem refused_8 (v : Value) (bks : List Bk) (nm ot : ByteArray) (at_ va ep : Int) (w : World) (r : ReadsR 5 bookC w.heap.size w v bks) (hfm : ∀ b ∈ bks, ∃ o k cp, b.m = .slice o k cp) :
    Calls Tryz.prog 135 #[v, .agg #[.int .i64 8, .string nm, .string ot, .int .i64 at_, .int .i64 va, .int .i64 ep]] w fun e w' => e = .returned (.int .i64 (refused (bks.map Bk.pb) ⟨8, nm, ot, at_, va, ep⟩)) ∧ Below w.heap.size w w' := by
  obtain ⟨W0, hW0, k0, d0, z0⟩ := box1 w #[.int .i64 8, .string nm, .string ot, .int .i64 at_, .int .i64 va, .int .i64 ep] 31
  have r0 := (r.below d0).mono d0.size
  have HW0 : Hid (W0 = _) := hW0
  have p0 := at_cell k0 0
  have p1 := at_cell k0 1
  have p2 := at_cell k0 2
  have p3 := at_cell k0 3
  have p5 := at_cell k0 5
  have s0 := heap_lt k0
  have HIN : Hid _ := findB_in bks nm
  have HR : Hid (refused (bks.map Bk.pb) ⟨8, nm, ot, at_, va, ep⟩ = refBy (findB bks nm) (findB bks ot) bks.length (bookAt (bks.map Bk.pb) (findB bks nm)) ⟨8, nm, ot, at_, va, ep⟩) := refused_by bks _
  obtain ⟨f, hf⟩ : ∃ f, findB bks nm = f := ⟨_, rfl⟩
  obtain ⟨g, hg⟩ : ∃ g, findB bks ot = g := ⟨_, rfl⟩
  obtain ⟨o, cap, rfl, hm, hc, -⟩ := r
  obtain ⟨o2, cap2, e2, -, hc2, -⟩ := id r0
  simp only [Value.slice.injEq] at e2
  obtain ⟨rfl, -, rfl⟩ := e2
  have HC : Hid _ := five_cells hc2
  clear hc2
  rw [hf] at HIN HR
  rw [hg] at HR
  have hlen : bks.length ≤ maxLen := hm
  clear hW0 k0 z0 hc hm
  go_enter Tryz.func135, Tryz.ntmps135
  go_wp2_with fail
  rw [← HW0.out]
  clear HW0
  refine (specFindBook_any _ bks nm _ r0).mono ?_
  rw [hf]
  clear hf
  rintro e w1 ⟨rfl, rfl⟩
  by_cases h1 : f < 0
  · skip
    have HV : Hid (refused (bks.map Bk.pb) ⟨8, nm, ot, at_, va, ep⟩ = 2) := by rw [Hid, HR.out, refBy_8, if_pos h1]
    clear HR HC
    go_wp2_with fail
    go_ret
    exact ⟨ret_int HV.out.symm, d0⟩
  obtain ⟨i, hil, hfi, hbk⟩ := HIN.out (by omega)
  obtain ⟨g0, off, rfl, hg0, a0, a1, a2, a3, a4⟩ := HC.out i hil
  obtain ⟨mo, mk, mc, hmf⟩ := hfm bks[i] (List.getElem_mem hil)
  rw [hbk] at HR
  generalize bks[i] = x at a0 a1 a2 a3 a4 hmf HR
  obtain ⟨nm0, sz0, m0, rs0, fx0, ep0⟩ := x
  simp only [Bk.pb] at a0 a1 a2 a3 a4 hmf HR
  subst hmf hfi
  have hi0 : (0 : Int) ≤ (i : Int) := by omega
  have hi1 : (i : Int) < (bks.length : Int) := by omega
  clear HIN hbk hg0
  by_cases h8 : ep0 = 1000
  · skip
    have h8b : (ep0 == 1000) = true := by rw [beq_iff_eq]; exact h8
    have HV : Hid (refused (bks.map Bk.pb) ⟨8, nm, ot, at_, va, ep⟩ = 8) := by rw [Hid, HR.out, refBy_8, if_neg h1, if_pos h8]
    clear HR HC
    go_wp2_with fail
    go_ret
    exact ⟨ret_int HV.out.symm, bw_alloc d0⟩
  have h8b : (ep0 == 1000) = false := by rw [beq_eq_false_iff_ne]; exact h8
  have HV : Hid (refused (bks.map Bk.pb) ⟨8, nm, ot, at_, va, ep⟩ = 0) := by rw [Hid, HR.out, refBy_8, if_neg h1, if_neg h8]
  clear HR HC
  go_wp2_with fail
  go_ret
  exact ⟨ret_int HV.out.symm, bw_alloc d0⟩

theorem refBy_9 (f g : Int) (n : Nat) (b : Pb) (nm ot : ByteArray) (at_ va ep : Int) : refBy f g n b ⟨9, nm, ot, at_, va, ep⟩ = (if f < 0 then 2 else if b.sz ≤ at_ then 6 else 0) := by
  unfold refBy
  simp only [show kOther 9 = false from rfl, show kEpoch 9 = false from rfl, show kAt 9 = true from rfl]
  simp

set_option maxHeartbeats 3200000 in
theorem refused_9 (v : Value) (bks : List Bk) (nm ot : ByteArray) (at_ va ep : Int) (w : World) (r : ReadsR 5 bookC w.heap.size w v bks) (hfm : ∀ b ∈ bks, ∃ o k cp, b.m = .slice o k cp) :
    Calls Tryz.prog 135 #[v, .agg #[.int .i64 9, .string nm, .string ot, .int .i64 at_, .int .i64 va, .int .i64 ep]] w fun e w' => e = .returned (.int .i64 (refused (bks.map Bk.pb) ⟨9, nm, ot, at_, va, ep⟩)) ∧ Below w.heap.size w w' := by
  obtain ⟨W0, hW0, k0, d0, z0⟩ := box1 w #[.int .i64 9, .string nm, .string ot, .int .i64 at_, .int .i64 va, .int .i64 ep] 31
  have r0 := (r.below d0).mono d0.size
  have HW0 : Hid (W0 = _) := hW0
  have p0 := at_cell k0 0
  have p1 := at_cell k0 1
  have p2 := at_cell k0 2
  have p3 := at_cell k0 3
  have p5 := at_cell k0 5
  have s0 := heap_lt k0
  have HIN : Hid _ := findB_in bks nm
  have HR : Hid (refused (bks.map Bk.pb) ⟨9, nm, ot, at_, va, ep⟩ = refBy (findB bks nm) (findB bks ot) bks.length (bookAt (bks.map Bk.pb) (findB bks nm)) ⟨9, nm, ot, at_, va, ep⟩) := refused_by bks _
  obtain ⟨f, hf⟩ : ∃ f, findB bks nm = f := ⟨_, rfl⟩
  obtain ⟨g, hg⟩ : ∃ g, findB bks ot = g := ⟨_, rfl⟩
  obtain ⟨o, cap, rfl, hm, hc, -⟩ := r
  obtain ⟨o2, cap2, e2, -, hc2, -⟩ := id r0
  simp only [Value.slice.injEq] at e2
  obtain ⟨rfl, -, rfl⟩ := e2
  have HC : Hid _ := five_cells hc2
  clear hc2
  rw [hf] at HIN HR
  rw [hg] at HR
  have hlen : bks.length ≤ maxLen := hm
  clear hW0 k0 z0 hc hm
  go_enter Tryz.func135, Tryz.ntmps135
  go_wp2_with fail
  rw [← HW0.out]
  clear HW0
  refine (specFindBook_any _ bks nm _ r0).mono ?_
  rw [hf]
  clear hf
  rintro e w1 ⟨rfl, rfl⟩
  by_cases h1 : f < 0
  · skip
    have HV : Hid (refused (bks.map Bk.pb) ⟨9, nm, ot, at_, va, ep⟩ = 2) := by rw [Hid, HR.out, refBy_9, if_pos h1]
    clear HR HC
    go_wp2_with fail
    go_ret
    exact ⟨ret_int HV.out.symm, d0⟩
  obtain ⟨i, hil, hfi, hbk⟩ := HIN.out (by omega)
  obtain ⟨g0, off, rfl, hg0, a0, a1, a2, a3, a4⟩ := HC.out i hil
  obtain ⟨mo, mk, mc, hmf⟩ := hfm bks[i] (List.getElem_mem hil)
  rw [hbk] at HR
  generalize bks[i] = x at a0 a1 a2 a3 a4 hmf HR
  obtain ⟨nm0, sz0, m0, rs0, fx0, ep0⟩ := x
  simp only [Bk.pb] at a0 a1 a2 a3 a4 hmf HR
  subst hmf hfi
  have hi0 : (0 : Int) ≤ (i : Int) := by omega
  have hi1 : (i : Int) < (bks.length : Int) := by omega
  clear HIN hbk hg0
  by_cases h6 : sz0 ≤ at_
  · skip
    have HV : Hid (refused (bks.map Bk.pb) ⟨9, nm, ot, at_, va, ep⟩ = 6) := by rw [Hid, HR.out, refBy_9, if_neg h1, if_pos h6]
    clear HR HC
    go_wp2_with fail
    go_ret
    exact ⟨ret_int HV.out.symm, bw_alloc d0⟩
  have HV : Hid (refused (bks.map Bk.pb) ⟨9, nm, ot, at_, va, ep⟩ = 0) := by rw [Hid, HR.out, refBy_9, if_neg h1, if_neg h6]
  clear HR HC
  go_wp2_with fail
  go_ret
  exact ⟨ret_int HV.out.symm, bw_alloc d0⟩

theorem l8Refused_any (v : Value) (bks : List Bk) (k : Int) (nm ot : ByteArray) (at_ va ep : Int) (w : World) (hk : 1 ≤ k ∧ k ≤ 9) (r : ReadsR 5 bookC w.heap.size w v bks) (hfm : ∀ b ∈ bks, ∃ o k cp, b.m = .slice o k cp) :
    Calls Tryz.prog 135 #[v, .agg #[.int .i64 k, .string nm, .string ot, .int .i64 at_, .int .i64 va, .int .i64 ep]] w fun e w' => e = .returned (.int .i64 (refused (bks.map Bk.pb) ⟨k, nm, ot, at_, va, ep⟩)) ∧ Below w.heap.size w w' := by
  have h : k = 1 ∨ k = 2 ∨ k = 3 ∨ k = 4 ∨ k = 5 ∨ k = 6 ∨ k = 7 ∨ k = 8 ∨ k = 9 := by omega
  rcases h with rfl | rfl | rfl | rfl | rfl | rfl | rfl | rfl | rfl
  · exact refused_1 v bks nm ot at_ va ep w r hfm
  · exact refused_2 v bks nm ot at_ va ep w r hfm
  · exact refused_3 v bks nm ot at_ va ep w r hfm
  · exact refused_4 v bks nm ot at_ va ep w r hfm
  · exact refused_5 v bks nm ot at_ va ep w r hfm
  · exact refused_6 v bks nm ot at_ va ep w r hfm
  · exact refused_7 v bks nm ot at_ va ep w r hfm
  · exact refused_8 v bks nm ot at_ va ep w r hfm
  · exact refused_9 v bks nm ot at_ va ep w r hfm
end Go.Proofs.YtaekdfknkgmfbaaGreatDoor

