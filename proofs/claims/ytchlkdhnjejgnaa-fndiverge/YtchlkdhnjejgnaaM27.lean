/-
  Contracts and plain laws, one chapter behind the other.
-/
import Derived.Deep.DeepCutAuto
import Derived.Lib.Strings
import Derived.Lib.Slices
import Derived.Lib.Walk
import Derived.Lib.Bytealg
import Derived.LaidEql
import Derived.Stop.Asserts
import Derived.RowKitTokens
import Derived.RangeFuncBox
import Derived.Test.YtchlkdhnjejgnaaM01
import Derived.Test.YtchlkdhnjejgnaaM03
import Derived.Test.YtchlkdhnjejgnaaM04
import Derived.Test.YtchlkdhnjejgnaaM06
import Derived.Test.YtchlkdhnjejgnaaM07
import Derived.Test.YtchlkdhnjejgnaaM08
import Derived.Test.YtchlkdhnjejgnaaM09
import Derived.Test.YtchlkdhnjejgnaaM12
import Derived.Test.YtchlkdhnjejgnaaM13
import Derived.Test.YtchlkdhnjejgnaaM25
namespace Go.Proofs.Ytchlkdhnjejgnaa
open Go.RowKit

set_option linter.unusedVariables false

set_option maxRecDepth 100000


theorem Reads.upto {B c : Nat} {w w' : World} {v : Value} {xs : List Value} (h : Reads B w v xs) (u : Upto c w w') (hB : B ≤ w.heap.size) (hc : v.ownBlock ≠ some c) : Reads B w' v xs := by
  obtain ⟨o, cap, rfl, hm, hc', hr⟩ := h
  refine ⟨o, cap, rfl, hm, fun j y hj => ?_, hr⟩
  obtain ⟨g, off, rfl, hg, hx⟩ := hc' j y hj
  exact ⟨g, off, rfl, hg, (u.cell (p := ⟨g, off + j, Option.none⟩) (Nat.lt_of_lt_of_le hg hB) (fun e => hc (by simp only at e; rw [e]; rfl))).trans hx⟩

theorem RP.upto {B c : Nat} {w w' : World} {v1 v2 : Value} {cs ps : List Int} (h : RP B w v1 v2 cs ps) (u : Upto c w w') (hB : B ≤ w.heap.size) (h1 : v1.ownBlock ≠ some c) (h2 : v2.ownBlock ≠ some c) : RP B w' v1 v2 cs ps :=
  ⟨h.c.upto u hB h1, h.p.upto u hB h2⟩

theorem Upto.undrew {c : Nat} {w w' : World} (u : Upto c w.drew w') : Upto c w w' := ⟨u.os, u.tape, u.output, u.size, u.block⟩

theorem own_len {w : World} {base g n cap m : Nat} {e : TypeId} {xs : List Value} (h : w.ownsRow base e 1 (.slice (some ⟨g, 0, none⟩) n cap) m xs) : n = m := by
  rcases h.2 with ⟨h', _⟩ | ⟨g', cap', cur, h', _⟩
  · cases h'
  · simp only [Value.slice.injEq] at h'
    exact h'.2.1

theorem OwnP.at1 {base g n cap : Nat} {w : World} {v2 : Value} {cs ps : List Int} (h : OwnP base w (.slice (some ⟨g, 0, none⟩) n cap) v2 cs ps) (j : Nat) (hj : j < n) : w.cell? ⟨g, j, none⟩ = some (.int .i64 (cs.getD j 0)) ∧ w.frozen? ⟨g, j, none⟩ = false := by
  have e := own_len h.c
  subst e
  exact ⟨(h.c.cellAt j (by omega)).trans (getD_some cs j hj), h.c.frozenAt j⟩

theorem OwnP.at2 {base g n cap : Nat} {w : World} {v1 : Value} {cs ps : List Int} (h : OwnP base w v1 (.slice (some ⟨g, 0, none⟩) n cap) cs ps) (j : Nat) (hj : j < n) : w.cell? ⟨g, j, none⟩ = some (.int .i64 (ps.getD j 0)) ∧ w.frozen? ⟨g, j, none⟩ = false := by
  have e := own_len h.p
  subst e
  exact ⟨(h.p.cellAt j (by omega)).trans (getD_some ps j hj), h.p.frozenAt j⟩

theorem OwnP.put1 {base g n cap : Nat} {w : World} {v2 : Value} {cs ps : List Int} (h : OwnP base w (.slice (some ⟨g, 0, none⟩) n cap) v2 cs ps) (j : Nat) (x : Int) : OwnP base (w.setCell ⟨g, j, none⟩ (.int .i64 x)) (.slice (some ⟨g, 0, none⟩) n cap) v2 (cs.set j x) ps := by
  have e := own_len h.c
  subst e
  exact h.set1 j x

theorem OwnP.put2 {base g n cap : Nat} {w : World} {v1 : Value} {cs ps : List Int} (h : OwnP base w v1 (.slice (some ⟨g, 0, none⟩) n cap) cs ps) (j : Nat) (x : Int) : OwnP base (w.setCell ⟨g, j, none⟩ (.int .i64 x)) v1 (.slice (some ⟨g, 0, none⟩) n cap) cs (ps.set j x) := by
  have e := own_len h.p
  subst e
  exact h.set2 j x

/-- What is drawn: the answer's box written, out of the pool's. -/
theorem drawn_end {c wn : Nat} {x : Option Addr} {len cap : Nat} {w W : World} {a1 a2 p q : Value} {cs ps : List Int} (hc : c < wn) (hwn : wn = w.heap.size) (kR : W.heap[wn]? = some (.cells #[p, q] 26 (0, 0))) (r : RP W.heap.size W a1 a2 cs ps)
    (n1 : a1.ownBlock ≠ some c ∧ a1.ownBlock ≠ some wn) (n2 : a2.ownBlock ≠ some c ∧ a2.ownBlock ≠ some wn) (u : Upto c w W) (kc : Cur W c x len cap) :
    ((W.setCell ⟨wn, 0, none⟩ a1).setCell ⟨wn, 1, none⟩ a2).heap[wn]? = some (.cells #[a1, a2] 26 (0, 0)) ∧ RP ((W.setCell ⟨wn, 0, none⟩ a1).setCell ⟨wn, 1, none⟩ a2).heap.size ((W.setCell ⟨wn, 0, none⟩ a1).setCell ⟨wn, 1, none⟩ a2) a1 a2 cs ps ∧
    Upto c w ((W.setCell ⟨wn, 0, none⟩ a1).setCell ⟨wn, 1, none⟩ a2) ∧ Cur ((W.setCell ⟨wn, 0, none⟩ a1).setCell ⟨wn, 1, none⟩ a2) c x len cap := by
  obtain ⟨s1, u1⟩ := set_two kR a1 a2
  refine ⟨s1, (r.upto u1 (Nat.le_refl _) n1.2 n2.2).mono u1.size, (u.setCell _ (.inr (by show w.heap.size ≤ wn; omega)) _).setCell _ (.inr (by show w.heap.size ≤ wn; omega)) _, kc.same (u1.toBelow kc.lt (by omega))⟩

/-- How memory lies while a pool is drawn: the pool's box at nP, the answer's at the end of what was there, the two rows from base on. -/
structure DrawSt (c nP base g1 g2 n c1 c2 : Nat) (x : Option Addr) (len cap : Nat) (w W : World) (cs ps : List Int) : Prop where
  own : OwnP base W (.slice (some ⟨g1, 0, none⟩) n c1) (.slice (some ⟨g2, 0, none⟩) n c2) cs ps
  kP : W.heap[nP]? = some (.cells #[.slice (some ⟨g1, 0, none⟩) n c1, .slice (some ⟨g2, 0, none⟩) n c2] 26 (0, 0))
  kR : W.heap[w.heap.size]? = some (.cells #[.slice none 0 0, .slice none 0 0] 26 (0, 0))
  kc : Cur W c x len cap
  u : Upto c w W
  lt : c < base ∧ w.heap.size < base ∧ c < nP ∧ w.heap.size < nP ∧ c < w.heap.size

theorem DrawSt.step {c nP base g1 g2 n c1 c2 : Nat} {x : Option Addr} {len cap : Nat} {w W W' : World} {cs ps : List Int} (h : DrawSt c nP base g1 g2 n c1 c2 x len cap w W cs ps) (u : Upto c W W') (kc : Cur W' c x len cap) : DrawSt c nP base g1 g2 n c1 c2 x len cap w W' cs ps := by
  have := h.lt
  exact ⟨h.own.upto u (by omega), (u.block _ (heap_lt h.kP) (by omega)).trans h.kP, (u.block _ (heap_lt h.kR) (by omega)).trans h.kR, kc, h.u.trans u, h.lt⟩

theorem DrawSt.alloc {c nP base g1 g2 n c1 c2 : Nat} {x : Option Addr} {len cap : Nat} {w W : World} {cs ps : List Int} (h : DrawSt c nP base g1 g2 n c1 c2 x len cap w W cs ps) (o : Obj) : DrawSt c nP base g1 g2 n c1 c2 x len cap w (W.alloc o) cs ps :=
  h.step ((Upto.refl c W).alloc o) (h.kc.alloc o)

theorem DrawSt.ne {c nP base g1 g2 n c1 c2 : Nat} {x : Option Addr} {len cap : Nat} {w W : World} {cs ps : List Int} (h : DrawSt c nP base g1 g2 n c1 c2 x len cap w W cs ps) : (g1 ≠ nP ∧ g1 ≠ w.heap.size ∧ base ≤ g1 ∧ g1 < W.heap.size) ∧ (g2 ≠ nP ∧ g2 ≠ w.heap.size ∧ base ≤ g2 ∧ g2 < W.heap.size) := by
  have h1 := own_not_box h.own.c h.kP (by decide)
  have h2 := own_not_box h.own.p h.kP (by decide)
  have h3 := h.own.c.lt g1 rfl
  have h4 := h.own.p.lt g2 rfl
  have := h.lt
  exact ⟨⟨fun e => h1 (by rw [e]; rfl), by omega, h3.1, h3.2⟩, ⟨fun e => h2 (by rw [e]; rfl), by omega, h4.1, h4.2⟩⟩

theorem DrawSt.put1 {c nP base g1 g2 n c1 c2 : Nat} {x : Option Addr} {len cap : Nat} {w W : World} {cs ps : List Int} (h : DrawSt c nP base g1 g2 n c1 c2 x len cap w W cs ps) (j : Nat) (z : Int) : DrawSt c nP base g1 g2 n c1 c2 x len cap w (W.setCell ⟨g1, j, none⟩ (.int .i64 z)) (cs.set j z) ps := by
  have u : Upto g1 W (W.setCell ⟨g1, j, none⟩ (.int .i64 z)) := (Upto.refl _ _).setCell ⟨g1, j, none⟩ (.inl rfl) _
  have := h.lt
  have := h.ne
  have h5 := h.kc.lt
  exact ⟨h.own.put1 j z, (u.block _ (heap_lt h.kP) (by omega)).trans h.kP, (u.block _ (heap_lt h.kR) (by omega)).trans h.kR, h.kc.same (u.toBelow h5 (by omega)), h.u.setCell _ (.inr (by show w.heap.size ≤ g1; omega)) _, h.lt⟩

theorem DrawSt.put2 {c nP base g1 g2 n c1 c2 : Nat} {x : Option Addr} {len cap : Nat} {w W : World} {cs ps : List Int} (h : DrawSt c nP base g1 g2 n c1 c2 x len cap w W cs ps) (j : Nat) (z : Int) : DrawSt c nP base g1 g2 n c1 c2 x len cap w (W.setCell ⟨g2, j, none⟩ (.int .i64 z)) cs (ps.set j z) := by
  have u : Upto g2 W (W.setCell ⟨g2, j, none⟩ (.int .i64 z)) := (Upto.refl _ _).setCell ⟨g2, j, none⟩ (.inl rfl) _
  have := h.lt
  have := h.ne
  have h5 := h.kc.lt
  exact ⟨h.own.put2 j z, (u.block _ (heap_lt h.kP) (by omega)).trans h.kP, (u.block _ (heap_lt h.kR) (by omega)).trans h.kR, h.kc.same (u.toBelow h5 (by omega)), h.u.setCell _ (.inr (by show w.heap.size ≤ g2; omega)) _, h.lt⟩

theorem row_tail {B : Nat} {W : World} {g n cap : Nat} {ps : List Int} (r : Reads B W (.slice (some ⟨g, 0, none⟩) n cap) (ps.map (Value.int .i64))) (hn : 1 ≤ n) (a : Value) (ha : (cap = 1 ∧ a = .slice (some ⟨g, 0, none⟩) 0 0) ∨ (1 < cap ∧ a = .slice (some ⟨g, 1, none⟩) (n - 1) (cap - 1))) : Reads B W a ((ps.drop 1).map (Value.int .i64)) := by
  obtain ⟨o, c, hv, hm, hc, hr⟩ := r
  simp only [Value.slice.injEq, List.length_map] at hv
  obtain ⟨rfl, rfl, rfl⟩ := hv
  rw [List.length_map] at hm hr
  rcases ha with ⟨h1, rfl⟩ | ⟨h1, rfl⟩
  · have hl : ps.length = 1 := by omega
    have e : (ps.drop 1).map (Value.int .i64) = [] := by rw [List.drop_of_length_le (by omega)]; rfl
    rw [e]
    exact ⟨_, _, rfl, Nat.zero_le _, fun j u hj => by simp at hj, Nat.le_refl _⟩
  · refine ⟨some ⟨g, 1, none⟩, cap - 1, by simp, by simp; omega, fun j u hj => ?_, by simp; omega⟩
    rw [List.map_drop, List.getElem?_drop] at hj
    obtain ⟨g', off, e, hg, hx⟩ := hc (1 + j) u hj
    cases e
    exact ⟨g, 1, rfl, hg, by rw [← hx, Nat.zero_add]⟩

theorem DrawSt.tail {c nP base g1 g2 n c1 c2 : Nat} {x : Option Addr} {len cap : Nat} {w W : World} {cs ps : List Int} (h : DrawSt c nP base g1 g2 n c1 c2 x len cap w W cs ps) (hn : 1 ≤ n) (a : Value) (ha : (c2 = 1 ∧ a = .slice (some ⟨g2, 0, none⟩) 0 0) ∨ (1 < c2 ∧ a = .slice (some ⟨g2, 1, none⟩) (n - 1) (c2 - 1))) :
    RP (W.setCell ⟨nP, 1, none⟩ a).heap.size (W.setCell ⟨nP, 1, none⟩ a) (.slice (some ⟨g1, 0, none⟩) n c1) a cs (ps.drop 1) ∧ (W.setCell ⟨nP, 1, none⟩ a).heap[nP]? = some (.cells #[.slice (some ⟨g1, 0, none⟩) n c1, a] 26 (0, 0)) ∧
    (W.setCell ⟨nP, 1, none⟩ a).heap[w.heap.size]? = some (.cells #[.slice none 0 0, .slice none 0 0] 26 (0, 0)) ∧ Cur (W.setCell ⟨nP, 1, none⟩ a) c x len cap ∧ Upto c w (W.setCell ⟨nP, 1, none⟩ a) ∧ a.ownBlock = some g2 := by
  have u : Upto nP W (W.setCell ⟨nP, 1, none⟩ a) := (Upto.refl _ _).setCell ⟨nP, 1, none⟩ (.inl rfl) _
  have := h.lt
  have := h.ne
  have h5 := h.kc.lt
  have r := (h.own.reads.upto u (Nat.le_refl _) (by simp [Value.ownBlock]; omega) (by simp [Value.ownBlock]; omega)).mono u.size
  refine ⟨⟨r.c, row_tail r.p hn a ha⟩, set_1 h.kP a, (u.block _ (heap_lt h.kR) (by omega)).trans h.kR, h.kc.same (u.toBelow h5 (by omega)), h.u.setCell _ (.inr (by show w.heap.size ≤ nP; omega)) _, ?_⟩
  rcases ha with ⟨_, rfl⟩ | ⟨_, rfl⟩ <;> rfl

/-- How memory lies when a pool was drawn, ahead of its return. -/
def DrawnSt (c nP : Nat) (x : Option Addr) (len cap : Nat) (w W : World) : Prop :=
  ∃ (o1 o2 : Option Addr) (l1 l2 k1 k2 : Nat) (cs ps : List Int), W.heap[nP]? = some (.cells #[.slice o1 l1 k1, .slice o2 l2 k2] 26 (0, 0)) ∧ W.heap[w.heap.size]? = some (.cells #[.slice none 0 0, .slice none 0 0] 26 (0, 0)) ∧ RP W.heap.size W (.slice o1 l1 k1) (.slice o2 l2 k2) cs ps ∧
    (∀ b, b ≤ w.heap.size → (Value.slice o1 l1 k1).ownBlock ≠ some b) ∧ (∀ b, b ≤ w.heap.size → (Value.slice o2 l2 k2).ownBlock ≠ some b) ∧ Upto c w W ∧ Cur W c x len cap

theorem DrawSt.drawn {c nP base g1 g2 n c1 c2 : Nat} {x : Option Addr} {len cap : Nat} {w W : World} {cs ps : List Int} (h : DrawSt c nP base g1 g2 n c1 c2 x len cap w W cs ps) : DrawnSt c nP x len cap w W := by
  have := h.lt
  have := h.ne
  exact ⟨_, _, _, _, _, _, _, _, h.kP, h.kR, h.own.reads, fun b hb => by simp [Value.ownBlock]; omega, fun b hb => by simp [Value.ownBlock]; omega, h.u, h.kc⟩

theorem DrawSt.drawnTail {c nP base g1 g2 n c1 c2 : Nat} {x : Option Addr} {len cap : Nat} {w W : World} {cs ps : List Int} (h : DrawSt c nP base g1 g2 n c1 c2 x len cap w W cs ps) (hn : 1 ≤ n) (o : Option Addr) (l k : Nat) (ha : (c2 = 1 ∧ Value.slice o l k = .slice (some ⟨g2, 0, none⟩) 0 0) ∨ (1 < c2 ∧ Value.slice o l k = .slice (some ⟨g2, 1, none⟩) (n - 1) (c2 - 1))) :
    DrawnSt c nP x len cap w (W.setCell ⟨nP, 1, none⟩ (.slice o l k)) := by
  obtain ⟨r8, kP8, kR8, kc8, u8, hb8⟩ := h.tail hn _ ha
  have := h.lt
  have := h.ne
  exact ⟨_, _, _, _, _, _, _, _, kP8, kR8, r8, fun b hb => by simp [Value.ownBlock]; omega, fun b hb => by rw [hb8]; simp; omega, u8, kc8⟩

theorem DrawSt.drawnNil {c nP base g1 g2 n c1 c2 : Nat} {x : Option Addr} {len cap : Nat} {w W : World} {cs ps : List Int} (h : DrawSt c nP base g1 g2 n c1 c2 x len cap w W cs ps) :
    DrawnSt c nP x len cap w ((W.setCell ⟨nP, 0, none⟩ (.slice none 0 0)).setCell ⟨nP, 1, none⟩ (.slice none 0 0)) := by
  obtain ⟨kP8, u8⟩ := set_two h.kP (.slice none 0 0) (.slice none 0 0)
  have LT := h.lt
  have kR8 := (u8.block _ (heap_lt h.kR) (by omega)).trans h.kR
  have kc8 := h.kc.same (u8.toBelow h.kc.lt (by omega))
  have U8 := (h.u.setCell ⟨nP, 0, none⟩ (.inr (by show w.heap.size ≤ nP; omega)) (.slice none 0 0)).setCell ⟨nP, 1, none⟩ (.inr (by show w.heap.size ≤ nP; omega)) (.slice none 0 0)
  exact ⟨_, _, _, _, _, _, [], [], kP8, kR8, ⟨Reads.none _ _, Reads.none _ _⟩, fun b hb => by simp [Value.ownBlock], fun b hb => by simp [Value.ownBlock], U8, kc8⟩

set_option maxHeartbeats 6400000 in
theorem draw4_any (c : Nat) (x : Option Addr) (len cap : Nat) (w : World) (hc : Cur w c x len cap) :
    Calls Try.prog 60 #[.pointer (some ⟨c, 0, none⟩)] w fun e w' => ∃ (u1 u2 : Value) (cs ps : List Int), e = .returned (.agg #[u1, u2]) ∧ RP w'.heap.size w' u1 u2 cs ps ∧ (∀ b, b ≤ w.heap.size → u1.ownBlock ≠ some b ∧ u2.ownBlock ≠ some b) ∧ Upto c w w' ∧ Cur w' c x len cap := by
  have hlt := hc.lt
  obtain ⟨W0, hW0, kR, d0, z0⟩ := box1 w #[.slice none 0 0, .slice none 0 0] 26
  have kc : Cur W0 c x len cap := hc.below d0
  have u : Upto c w W0 := Upto.ofBelow d0
  have HW0 : Hid (W0 = _) := hW0
  have sR : w.heap.size < W0.heap.size := by omega
  clear hW0 hc d0 z0
  go_enter Try.func60, Try.ntmps60
  go_wp2_with fail
  rw [← HW0.out]
  clear HW0
  refine (below_any c x len cap 6 _ (by omega) kc).mono ?_
  rintro e w1 ⟨m, rfl, hm, u1, k1⟩
  have hm6 : m < 6 := hm.2.1 (by omega)
  have hm0 := hm.1
  replace kR := (u1.block _ sR (by omega)).trans kR
  replace sR := Nat.lt_of_lt_of_le sR u1.size
  replace u := u.trans u1
  clear u1 hm kc
  go_wp2_with fail
  refine (specNewPool_any (1 + m) _).mono ?_
  obtain ⟨n, hn⟩ : ∃ n : Nat, 1 + m = n := ⟨(1 + m).toNat, by omega⟩
  have hv : newPool (1 + m) = ((List.replicate n 0, List.replicate n 0), true) := by
    unfold newPool
    rw [if_pos (by omega), hn, Int.toNat_natCast]
  rw [hv]
  have hn1 : 1 ≤ n := by omega
  have hn6 : n ≤ 6 := by omega
  clear hv
  rintro e w2 ⟨v1, v2, rfl, own, b2⟩
  simp only at own ⊢
  obtain ⟨g1, c1, g2, c2, rfl, rfl, hne⟩ := own_form2 own (by simp; omega) (by simp)
  simp only [List.length_replicate] at own ⊢
  have hcb : c < w1.heap.size := k1.lt
  have hRb : w.heap.size < w1.heap.size := sR
  replace kR := (b2.block _ sR).trans kR
  replace sR := Nat.lt_of_lt_of_le sR b2.size
  replace u := u.below b2
  have kc := k1.below b2
  clear k1 b2 hm0 hm6 hn
  -- the pool's box
  have bP : Below w2.heap.size w2 (w2.alloc (.cells #[.slice (some ⟨g1, 0, none⟩) n c1, .slice (some ⟨g2, 0, none⟩) n c2] 26)) := bw_alloc (Below.refl _ _)
  have kP := heap_alloc_new w2 (.cells #[.slice (some ⟨g1, 0, none⟩) n c1, .slice (some ⟨g2, 0, none⟩) n c2] 26)
  replace kR := (bP.block _ sR).trans kR
  replace u := u.below bP
  replace kc := kc.below bP
  replace own := own.below bP
  have hPR : w.heap.size < w2.heap.size := sR
  have hPc : c < w2.heap.size := by have := u.size; omega
  clear bP sR
  go_wp2_with fail
  generalize w2.alloc (.cells #[.slice (some ⟨g1, 0, none⟩) n c1, .slice (some ⟨g2, 0, none⟩) n c2] 26) = W3 at *
  generalize w2.heap.size = nP at *
  generalize w1.heap.size = base at *
  have st0 : DrawSt c nP base g1 g2 n c1 c2 x len cap w W3 (List.replicate n 0) (List.replicate n 0) := ⟨own, kP, kR, kc, u, by omega⟩
  clear hcb hRb own kP kR kc u hPR hPc
  go_loopw [5] (fun i wr => ∃ (q : Nat) (cs ps : List Int), q ≤ n ∧ i = .int .i64 q ∧ DrawSt c nP base g1 g2 n c1 c2 x len cap w wr cs ps) (fun i _ => n - (intOf i).toNat)
  case atStart => exact ⟨0, _, _, Nat.zero_le _, rfl, st0⟩
  case round =>
    clear st0
    obtain ⟨q, cs, ps, hq, rfl, st⟩ := hrel
    have p0 := at_cell st.kP 0
    by_cases hlt2 : q < n
    · go_wp2_with fail
      clear p0
      refine (once_any c x len cap 2 _ (by omega) st.kc).mono ?_
      rintro e w4 ⟨y, rfl, u4, k4⟩
      have st4 := st.step u4 k4
      clear u4 k4 st
      cases y
      · go_wp2_with fail
        go_roundw
        case rel => exact ⟨q + 1, cs, ps, by omega, by go_num, st4⟩
        case measure => simp [intOf]; omega
      · have hq0 : (0 : Int) ≤ (q : Int) := by omega
        have hq1 : (q : Int) < (n : Int) := by omega
        go_wp2_with fail
        have HL : Hid (∀ jn : Nat, jn < 5 → ∃ z : Int, (#[.int .i64 1, .int .i64 1, .int .i64 2, .int .i64 3, .int .i64 400] : Array Value)[jn]? = some (.int .i64 z)) := fun jn h => by
          have h5 : jn = 0 ∨ jn = 1 ∨ jn = 2 ∨ jn = 3 ∨ jn = 4 := by omega
          rcases h5 with rfl | rfl | rfl | rfl | rfl
          · exact ⟨1, rfl⟩
          · exact ⟨1, rfl⟩
          · exact ⟨2, rfl⟩
          · exact ⟨3, rfl⟩
          · exact ⟨400, rfl⟩
        have S0 : w4.drew.cell? ⟨nP, 0, none⟩ = some (.slice (some ⟨g1, 0, none⟩) n c1) := at_cell st4.kP 0
        have S1 : w4.cell? ⟨nP, 0, none⟩ = some (.slice (some ⟨g1, 0, none⟩) n c1) := at_cell st4.kP 0
        have M4 := heap_lt st4.kP
        have N4 : ¬ nP = w4.heap.size := by omega
        go_cut [] (fun wx => ∃ zs : List Int, DrawSt c nP base g1 g2 n c1 c2 x len cap w wx zs ps)
        case first =>
          go_region_law (go_simp; go_at_call 44; refine (below_any c x len cap 5 _ (by omega) (by first | exact st4.kc.drew | exact (st4.kc.alloc _).drew)).mono ?_; rintro e w5 ⟨y, rfl, hy, u5, k5⟩; have hy5 := hy.2.1 (by omega); obtain ⟨jn, rfl⟩ := Int.eq_ofNat_of_zero_le hy.1; obtain ⟨z, hz⟩ := HL.out jn (by omega); have hy6 : (0 : Int) ≤ (jn : Int) := (by omega); have hz2 : ∀ W : World, (W.alloc (.cells #[.int .i64 1, .int .i64 1, .int .i64 2, .int .i64 3, .int .i64 400] 2)).cell? ⟨W.heap.size, jn, none⟩ = some (.int .i64 z) := (fun W => (World.cell?_alloc_mark W _ _ (0, 0) jn).trans hz); have U5 : Upto c w4 w5 := (by first | exact u5.undrew | exact ((Upto.refl c w4).alloc _).trans u5.undrew); (first | (have hz1 : w5.cell? ⟨w4.heap.size, jn, none⟩ = some (.int .i64 z) := (pick_cell u5.undrew st4.kc.lt jn).trans hz) | skip); have st5 := st4.step U5 k5; have S5 := at_cell st5.kP 0; have A5 := (st5.own.at1 q hlt2).1; have F5 := (st5.own.at1 q hlt2).2; have NE5 := st5.ne; have N5 : ¬ g1 = w5.heap.size := (by omega); have G5 : g1 < w5.heap.size := (by omega); have M5 := heap_lt st5.kP; have O5 : ¬ nP = w5.heap.size := (by omega); clear NE5; dsimp only)
          all_goals (try go_wp2_with fail)
          all_goals go_meet
          all_goals first | exact ⟨_, st5.put1 q z⟩ | exact ⟨_, (st5.put1 q z).alloc _⟩
        case rest =>
          obtain ⟨zs, st6⟩ := hcut
          clear st4 HL S0 S1 M4 N4
          have S0 : wc.drew.cell? ⟨nP, 1, none⟩ = some (.slice (some ⟨g2, 0, none⟩) n c2) := at_cell st6.kP 1
          have S1 : wc.cell? ⟨nP, 1, none⟩ = some (.slice (some ⟨g2, 0, none⟩) n c2) := at_cell st6.kP 1
          go_wp2_with fail
          go_region_law (go_simp; go_at_call 44; refine (below_any c x len cap 50 _ (by omega) st6.kc.drew).mono ?_; rintro e w7 ⟨y, rfl, hy, u7, k7⟩; have st7 := st6.step u7.undrew k7; have S7 := at_cell st7.kP 1; have A7 := (st7.own.at2 q hlt2).1; have F7 := (st7.own.at2 q hlt2).2; dsimp only)
          all_goals
            have st8 := st7.put2 q y
            clear S0 S1 S7 A7 F7 st6 st7
            go_wp2_with fail
            go_roundw
            case rel => exact ⟨q + 1, zs, _, by omega, by go_num, st8⟩
            case measure => simp [intOf]; omega
    · go_wp2_with fail
      clear p0
      refine (once_any c x len cap 10 _ (by omega) st.kc).mono ?_
      rintro e w4 ⟨y, rfl, u4, k4⟩
      have st4 := st.step u4 k4
      clear u4 k4 st
      go_upto_if 38 with fail
      go_cut [] (fun wx => DrawnSt c nP x len cap w wx)
      case first =>
        cases y
        · go_wp2_with fail
          go_meet
          exact st4.drawn
        · go_wp2_with fail
          refine (below_any c x len cap 4 _ (by omega) st4.kc).mono ?_
          rintro e w6 ⟨m4, rfl, hm4, u6, k6⟩
          have st6 := st4.step u6 k6
          have hm : m4 = 0 ∨ m4 = 1 ∨ m4 = 2 ∨ m4 = 3 := by have := hm4.2.1 (by omega); omega
          clear u6 k6 st4 hm4
          have hn0 : (0 : Int) < (n : Int) := by omega
          have hn00 : 0 < n := by omega
          rcases hm with rfl | rfl | rfl | rfl
          · go_wp2_with fail
            have HL : Hid (∀ jn : Nat, jn < 3 → ∃ z : Int, (#[.int .i64 (-1), .int .i64 400, .int .i64 401] : Array Value)[jn]? = some (.int .i64 z)) := fun jn h => by
              have h5 : jn = 0 ∨ jn = 1 ∨ jn = 2 := by omega
              rcases h5 with rfl | rfl | rfl
              · exact ⟨-1, rfl⟩
              · exact ⟨400, rfl⟩
              · exact ⟨401, rfl⟩
            have S0 : w6.drew.cell? ⟨nP, 0, none⟩ = some (.slice (some ⟨g1, 0, none⟩) n c1) := at_cell st6.kP 0
            have S1 : w6.cell? ⟨nP, 0, none⟩ = some (.slice (some ⟨g1, 0, none⟩) n c1) := at_cell st6.kP 0
            have M4 := heap_lt st6.kP
            have N4 : ¬ nP = w6.heap.size := by omega
            go_region_law (go_simp; go_at_call 44; refine (below_any c x len cap 3 _ (by omega) (by first | exact st6.kc.drew | exact (st6.kc.alloc _).drew)).mono ?_; rintro e w5 ⟨y, rfl, hy, u5, k5⟩; have hy5 := hy.2.1 (by omega); obtain ⟨jn, rfl⟩ := Int.eq_ofNat_of_zero_le hy.1; obtain ⟨z, hz⟩ := HL.out jn (by omega); have hy6 : (0 : Int) ≤ (jn : Int) := (by omega); have hz2 : ∀ W : World, (W.alloc (.cells #[.int .i64 (-1), .int .i64 400, .int .i64 401] 2)).cell? ⟨W.heap.size, jn, none⟩ = some (.int .i64 z) := (fun W => (World.cell?_alloc_mark W _ _ (0, 0) jn).trans hz); have U5 : Upto c w6 w5 := (by first | exact u5.undrew | exact ((Upto.refl c w6).alloc _).trans u5.undrew); (first | (have hz1 : w5.cell? ⟨w6.heap.size, jn, none⟩ = some (.int .i64 z) := (pick_cell u5.undrew st6.kc.lt jn).trans hz) | skip); have st5 := st6.step U5 k5; have S5 := at_cell st5.kP 0; have A5 := (st5.own.at1 0 hn1).1; have F5 := (st5.own.at1 0 hn1).2; have NE5 := st5.ne; have N5 : ¬ g1 = w5.heap.size := (by omega); have G5 : g1 < w5.heap.size := (by omega); have M5 := heap_lt st5.kP; have O5 : ¬ nP = w5.heap.size := (by omega); clear NE5; dsimp only)
            all_goals (try go_wp2_with fail)
            all_goals go_meet
            all_goals first | exact (st5.put1 0 z).drawn | exact ((st5.put1 0 z).alloc _).drawn
          · go_wp2_with fail
            have HL : Hid (∀ jn : Nat, jn < 3 → ∃ z : Int, (#[.int .i64 (-1), .int .i64 999, .int .i64 1000] : Array Value)[jn]? = some (.int .i64 z)) := fun jn h => by
              have h5 : jn = 0 ∨ jn = 1 ∨ jn = 2 := by omega
              rcases h5 with rfl | rfl | rfl
              · exact ⟨-1, rfl⟩
              · exact ⟨999, rfl⟩
              · exact ⟨1000, rfl⟩
            have S0 : w6.drew.cell? ⟨nP, 1, none⟩ = some (.slice (some ⟨g2, 0, none⟩) n c2) := at_cell st6.kP 1
            have S1 : w6.cell? ⟨nP, 1, none⟩ = some (.slice (some ⟨g2, 0, none⟩) n c2) := at_cell st6.kP 1
            have M4 := heap_lt st6.kP
            have N4 : ¬ nP = w6.heap.size := by omega
            go_region_law (go_simp; go_at_call 44; refine (below_any c x len cap 3 _ (by omega) (by first | exact st6.kc.drew | exact (st6.kc.alloc _).drew)).mono ?_; rintro e w5 ⟨y, rfl, hy, u5, k5⟩; have hy5 := hy.2.1 (by omega); obtain ⟨jn, rfl⟩ := Int.eq_ofNat_of_zero_le hy.1; obtain ⟨z, hz⟩ := HL.out jn (by omega); have hy6 : (0 : Int) ≤ (jn : Int) := (by omega); have hz2 : ∀ W : World, (W.alloc (.cells #[.int .i64 (-1), .int .i64 999, .int .i64 1000] 2)).cell? ⟨W.heap.size, jn, none⟩ = some (.int .i64 z) := (fun W => (World.cell?_alloc_mark W _ _ (0, 0) jn).trans hz); have U5 : Upto c w6 w5 := (by first | exact u5.undrew | exact ((Upto.refl c w6).alloc _).trans u5.undrew); (first | (have hz1 : w5.cell? ⟨w6.heap.size, jn, none⟩ = some (.int .i64 z) := (pick_cell u5.undrew st6.kc.lt jn).trans hz) | skip); have st5 := st6.step U5 k5; have S5 := at_cell st5.kP 1; have A5 := (st5.own.at2 0 hn1).1; have F5 := (st5.own.at2 0 hn1).2; have NE5 := st5.ne; have N5 : ¬ g2 = w5.heap.size := (by omega); have G5 : g2 < w5.heap.size := (by omega); have M5 := heap_lt st5.kP; have O5 : ¬ nP = w5.heap.size := (by omega); clear NE5; dsimp only)
            all_goals (try go_wp2_with fail)
            all_goals go_meet
            all_goals first | exact (st5.put2 0 z).drawn | exact ((st5.put2 0 z).alloc _).drawn
          · have hcap : n ≤ c2 := by
              obtain ⟨o, cc, hv, _, _, hr⟩ := st6.own.r2
              simp only [Value.slice.injEq, List.length_map] at hv
              rw [List.length_map] at hr
              omega
            have a0 := at_cell st6.kP 1
            have a1 := at_open st6.kP 1
            by_cases hc2 : c2 = 1
            · subst hc2
              go_wp2_with fail
              go_meet
              exact st6.drawnTail hn1 _ _ _ (.inl ⟨rfl, rfl⟩)
            · have hc3 : 1 < c2 := by omega
              have hc4 : ¬ 1 = c2 := by omega
              go_wp2_with fail
              go_meet
              exact st6.drawnTail hn1 _ _ _ (.inr ⟨hc3, rfl⟩)
          · have a0 := at_cell st6.kP 0
            have a1 := at_cell st6.kP 1
            have b0 := at_open st6.kP 0
            have b1 := at_open st6.kP 1
            go_wp2_with fail
            go_meet
            exact st6.drawnNil
      case rest =>
        obtain ⟨o1, o2, l1, l2, k1, k2, cs', ps', kP8, kR8, r8, n1, n2, u8, kc8⟩ := hcut
        have p0 := at_cell kP8 0
        have p1 := at_cell kP8 1
        have q0 := at_cell kR8 0
        have q1 := at_cell kR8 1
        have f0 := at_open kR8 0
        have f1 := at_open kR8 1
        have HS : Hid _ := drawn_end hlt rfl kR8 r8 ⟨n1 c (by omega), n1 _ (Nat.le_refl _)⟩ ⟨n2 c (by omega), n2 _ (Nat.le_refl _)⟩ u8 kc8
        have HN : Hid (∀ b, b ≤ w.heap.size → (Value.slice o1 l1 k1).ownBlock ≠ some b ∧ (Value.slice o2 l2 k2).ownBlock ≠ some b) := fun b hb => ⟨n1 b hb, n2 b hb⟩
        clear st4 r8 kP8 kR8 kc8 u8 n1 n2
        go_wp2_with fail
        exact bodyPost_ret (v := .agg #[.slice o1 l1 k1, .slice o2 l2 k2]) (by simp [results, Try.results60, go_sem, at_cell HS.out.1]) rfl ⟨_, _, _, _, rfl, HS.out.2.1, HN.out, HS.out.2.2⟩
end Go.Proofs.Ytchlkdhnjejgnaa

namespace Go.Proofs.Ytchlkdhnjejgnaa
open Go.RowKit

set_option linter.unusedVariables false

set_option maxRecDepth 100000

theorem fit_ok {rs : List (Int × Int × Int)} (h : mapOk rs = true) : FitRuns rs := by
  have := fit_of (pages rs) (pages_length rs) (pages_range rs h)
  rwa [mapOf_pages rs h] at this
end Go.Proofs.Ytchlkdhnjejgnaa

