/-
  Contracts and plain laws, one chapter behind the other.
-/
import Derived.Test.YtcefcglonooelaaGreatDoorB01
import Derived.Test.YtcefcglonooelaaGreatDoorB06
import Derived.Test.YtcefcglonooelaaGreatDoorB08
import Derived.Test.YtcefcglonooelaaGreatDoorB10
import Derived.Test.YtcefcglonooelaaGreatDoorB12
import Derived.Test.YtcefcglonooelaaGreatDoorB19
import Derived.Test.YtcefcglonooelaaGreatDoorB20
import Derived.Test.YtcefcglonooelaaGreatDoorB21
import Derived.Test.YtcefcglonooelaaGreatDoorB22
import Derived.Test.YtcefcglonooelaaGreatDoorB23
import Derived.Test.YtcefcglonooelaaGreatDoorB26
import Derived.Test.YtcefcglonooelaaGreatDoorB28
import Derived.Test.YtcefcglonooelaaGreatDoorB29
import Derived.Test.YtcefcglonooelaaGreatDoorB30
namespace Go.Proofs.YtcefcglonooelaaGreatDoor
open Go.RowKit

set_option linter.unusedVariables false

set_option maxRecDepth 100000

theorem new_names {bks : List Bk} {n : ByteArray} (h : findP (bks.map Bk.pb) n < 0) : ∀ x ∈ bks, x.nm ≠ n := fun x hx => find_not (bks.map Bk.pb) n h x.pb (List.mem_map_of_mem hx)
end Go.Proofs.YtcefcglonooelaaGreatDoor

namespace Go.Proofs.YtcefcglonooelaaGreatDoor
open Go.RowKit

set_option linter.unusedVariables false


/-- A book that was drawn has small numbers, a short name, few runs. -/
structure BkFit (y : Bk) : Prop where
  nm : y.nm.size ≤ 5
  ep : -1 ≤ y.ep ∧ y.ep ≤ 1001
  fit : FitRuns y.rs
  few : y.rs.length ≤ 17

/-- A shelf that was drawn: what lies in memory, what its books are. -/
structure D8 (c : Nat) (x : Option Addr) (len cap : Nat) (w W : World) (v1 v2 vb : Value) (cs ps : List Int) (bks : List Bk) : Prop where
  p : RP W.heap.size W v1 v2 cs ps
  p0 : ∀ b, b ≤ w.heap.size → v1.ownBlock ≠ some b ∧ v2.ownBlock ≠ some b
  b : OwnB (w.heap.size + 1) W vb bks
  kc : Cur W c x len cap
  u : Upto c w W
  lt : c < w.heap.size
  bf : ∀ y ∈ bks, BkFit y
  few : bks.length ≤ 7

theorem D8.step {c : Nat} {x : Option Addr} {len cap : Nat} {w W W' : World} {v1 v2 vb : Value} {cs ps : List Int} {bks : List Bk} (h : D8 c x len cap w W v1 v2 vb cs ps bks) (u : Upto c W W') (kc : Cur W' c x len cap) : D8 c x len cap w W' v1 v2 vb cs ps bks := by
  have hlt := h.lt
  have hp := h.p0 c (by omega)
  exact ⟨(h.p.upto u (Nat.le_refl _) hp.1 hp.2).mono u.size, h.p0, ⟨ownsRow_upto h.b.row u (by omega), fun y hy => ownsRow_upto (h.b.maps y hy) u (by omega)⟩, kc, h.u.trans u, h.lt, h.bf, h.few⟩

theorem D8.below {c : Nat} {x : Option Addr} {len cap : Nat} {w W W' : World} {v1 v2 vb : Value} {cs ps : List Int} {bks : List Bk} (h : D8 c x len cap w W v1 v2 vb cs ps bks) (k : Below W.heap.size W W') : D8 c x len cap w W' v1 v2 vb cs ps bks :=
  h.step (Upto.ofBelow k) (h.kc.below k)

/-- With its box at nB, the answer's at the start's end. -/
structure A8 (c : Nat) (x : Option Addr) (len cap nB : Nat) (w W : World) (v1 v2 vb : Value) (cs ps : List Int) (bks : List Bk) : Prop where
  d : D8 c x len cap w W v1 v2 vb cs ps bks
  kB : W.heap[nB]? = some (.cells #[v1, v2, vb] 42 (0, 0))
  kR : W.heap[w.heap.size]? = some (.cells #[.slice none 0 0, .slice none 0 0, .slice none 0 0] 42 (0, 0))

theorem own_ge {w : World} {base : Nat} {e : TypeId} {k n : Nat} {v : Value} {xs : List Value} (h : w.ownsRow base e k v n xs) {b : Nat} (hb : b < base) : v.ownBlock ≠ some b := fun e => by have := (h.lt b e).1; omega

theorem A8.of {c nB : Nat} {x : Option Addr} {len cap : Nat} {w W : World} {v1 v2 vb : Value} {bks : List Bk} {s : Sf} (st : ShSt (w.heap.size + 1) nB W v1 v2 vb bks s) (kR : W.heap[w.heap.size]? = some (.cells #[.slice none 0 0, .slice none 0 0, .slice none 0 0] 42 (0, 0))) (kc : Cur W c x len cap) (u : Upto c w W) (lt : c < w.heap.size) (bf : ∀ y ∈ bks, BkFit y) (few : bks.length ≤ 7) : A8 c x len cap nB w W v1 v2 vb s.cs s.ps bks :=
  ⟨⟨st.pool.reads, fun b hb => ⟨own_ge st.pool.c (by omega), own_ge st.pool.p (by omega)⟩, st.books, kc, u, lt, bf, few⟩, st.box, kR⟩
end Go.Proofs.YtcefcglonooelaaGreatDoor

namespace Go.Proofs.YtcefcglonooelaaGreatDoor
open Go.RowKit

set_option linter.unusedVariables false


set_option maxRecDepth 100000 in
set_option maxHeartbeats 6400000 in
theorem drawOp8_any (c : Nat) (x : Option Addr) (len cap base : Nat) (vb : Value) (bks : List Bk) (w : World) (hc : Cur w c x len cap) (hcb : c < base) (hl : bks.length ≤ 1048576) (hbf : ∀ b ∈ bks, b.nm.size ≤ 5 ∧ -1 ≤ b.ep ∧ b.ep ≤ 1001) (own : OwnB base w vb bks) :
    Calls Tryz.prog 34 #[.pointer (some ⟨c, 0, none⟩), vb] w fun e w' => ∃ o : Oq, e = .returned (.agg #[.int .i64 o.k, .string o.nm, .string o.ot, .int .i64 o.at_, .int .i64 o.va, .int .i64 o.ep]) ∧ OpFit o ∧ Upto c w w' ∧ Cur w' c x len cap := by
  have hlt := hc.lt
  obtain ⟨ob, kb, rfl⟩ := own_slice own.row
  obtain ⟨W0, hW0, kR, d0, z0⟩ := box1 w #[.int .i64 0, .string ⟨#[]⟩, .string ⟨#[]⟩, .int .i64 0, .int .i64 0, .int .i64 0] 26
  have kc : Cur W0 c x len cap := hc.below d0
  have u : Upto c w W0 := Upto.ofBelow d0
  have HW0 : Hid (W0 = _) := hW0
  have sR : w.heap.size < W0.heap.size := by omega
  have HOWN : Hid (OwnB base w (.slice ob bks.length kb) bks) := own
  have HBF : Hid (∀ b ∈ bks, b.nm.size ≤ 5 ∧ -1 ≤ b.ep ∧ b.ep ≤ 1001) := hbf
  clear hW0 hc d0 z0 own hbf
  go_enter Tryz.func34, Tryz.ntmps34
  go_wp2_with fail
  rw [← HW0.out]
  clear HW0
  refine (draw7Any_any c x len cap _ kc).mono ?_
  rintro e w2 ⟨o, rfl, fit, u1, k2⟩
  obtain ⟨k, nm, ot, at_, va, ep⟩ := o
  replace kR := (u1.block _ sR (by omega)).trans kR
  replace sR := Nat.lt_of_lt_of_le sR u1.size
  replace u := u.trans u1
  clear u1 kc
  simp only
  have bP : Below w2.heap.size w2 (w2.alloc (.cells #[.int .i64 k, .string nm, .string ot, .int .i64 at_, .int .i64 va, .int .i64 ep] 26)) := bw_alloc (Below.refl _ _)
  have kB := heap_alloc_new w2 (.cells #[.int .i64 k, .string nm, .string ot, .int .i64 at_, .int .i64 va, .int .i64 ep] 26)
  have st : OpSt c x len cap w2.heap.size w (w2.alloc (.cells #[.int .i64 k, .string nm, .string ot, .int .i64 at_, .int .i64 va, .int .i64 ep] 26)) ⟨k, nm, ot, at_, va, ep⟩ := ⟨kB, (bP.block _ sR).trans kR, k2.below bP, u.below bP, hlt, sR, fit⟩
  clear bP kB kR u k2 fit
  go_upto_region 2 with fail
  generalize w2.alloc (.cells #[.int .i64 k, .string nm, .string ot, .int .i64 at_, .int .i64 va, .int .i64 ep] 26) = W3 at *
  generalize w2.heap.size = nB at *
  have p0 := at_cell st.kB 0
  have p1 := at_cell st.kB 1
  have p2 := at_cell st.kB 2
  have p3 := at_cell st.kB 3
  have p4 := at_cell st.kB 4
  have p5 := at_cell st.kB 5
  simp only at p0 p1 p2 p3 p4 p5
  rcases Nat.eq_zero_or_pos bks.length with h0 | hpos
  · have h0' : ¬ (0 : Int) < (bks.length : Int) := by omega
    have q0 := at_cell st.kR 0
    have g0 := at_open st.kR 0
    have q1 := at_cell st.kR 1
    have g1 := at_open st.kR 1
    have q2 := at_cell st.kR 2
    have g2 := at_open st.kR 2
    have q3 := at_cell st.kR 3
    have g3 := at_open st.kR 3
    have q4 := at_cell st.kR 4
    have g4 := at_open st.kR 4
    have q5 := at_cell st.kR 5
    have g5 := at_open st.kR 5
    have HS : Hid _ := st.fin
    have HF : Hid _ := st.fit
    simp only at HS HF
    clear st
    go_wp2_with fail
    exact bodyPost_ret (v := .agg #[.int .i64 k, .string nm, .string ot, .int .i64 at_, .int .i64 va, .int .i64 ep]) (by simp [results, Tryz.results34, go_sem, at_cell HS.out.1]) rfl ⟨⟨k, nm, ot, at_, va, ep⟩, rfl, HF.out, HS.out.2.1, HS.out.2.2⟩
  have h0' : (0 : Int) < (bks.length : Int) := by omega
  by_cases hk1 : k = 1
  · subst hk1
    have q0 := at_cell st.kR 0
    have g0 := at_open st.kR 0
    have q1 := at_cell st.kR 1
    have g1 := at_open st.kR 1
    have q2 := at_cell st.kR 2
    have g2 := at_open st.kR 2
    have q3 := at_cell st.kR 3
    have g3 := at_open st.kR 3
    have q4 := at_cell st.kR 4
    have g4 := at_open st.kR 4
    have q5 := at_cell st.kR 5
    have g5 := at_open st.kR 5
    have HS : Hid _ := st.fin
    have HF : Hid _ := st.fit
    simp only at HS HF
    clear st
    go_wp2_with fail
    exact bodyPost_ret (v := .agg #[.int .i64 1, .string nm, .string ot, .int .i64 at_, .int .i64 va, .int .i64 ep]) (by simp [results, Tryz.results34, go_sem, at_cell HS.out.1]) rfl ⟨⟨1, nm, ot, at_, va, ep⟩, rfl, HF.out, HS.out.2.1, HS.out.2.2⟩
  have hk1' : (k != 1) = true := by simpa using hk1
  go_wp2_with fail
  refine (once_any c x len cap 4 _ (by omega) st.kc).mono ?_
  rintro e w4 ⟨y, rfl, u1, k1⟩
  replace st := st.step u1 k1
  clear u1 k1 p0 p1 p2 p3 p4 p5
  have p0 := at_cell st.kB 0
  have p1 := at_cell st.kB 1
  have p2 := at_cell st.kB 2
  have p3 := at_cell st.kB 3
  have p4 := at_cell st.kB 4
  have p5 := at_cell st.kB 5
  simp only at p0 p1 p2 p3 p4 p5
  cases y
  rotate_left
  · skip
    have q0 := at_cell st.kR 0
    have g0 := at_open st.kR 0
    have q1 := at_cell st.kR 1
    have g1 := at_open st.kR 1
    have q2 := at_cell st.kR 2
    have g2 := at_open st.kR 2
    have q3 := at_cell st.kR 3
    have g3 := at_open st.kR 3
    have q4 := at_cell st.kR 4
    have g4 := at_open st.kR 4
    have q5 := at_cell st.kR 5
    have g5 := at_open st.kR 5
    have HS : Hid _ := st.fin
    have HF : Hid _ := st.fit
    simp only at HS HF
    clear st
    go_wp2_with fail
    exact bodyPost_ret (v := .agg #[.int .i64 k, .string nm, .string ot, .int .i64 at_, .int .i64 va, .int .i64 ep]) (by simp [results, Tryz.results34, go_sem, at_cell HS.out.1]) rfl ⟨⟨k, nm, ot, at_, va, ep⟩, rfl, HF.out, HS.out.2.1, HS.out.2.2⟩
  go_wp2_with fail
  refine (below_any c x len cap (bks.length : Int) _ (by omega) st.kc).mono ?_
  rintro e w5 ⟨y, rfl, hy, u1, k1⟩
  have hyn := hy.2.1 h0'
  obtain ⟨q, hq⟩ := Int.eq_ofNat_of_zero_le hy.1
  subst hq
  have hlq : q < bks.length := by omega
  replace st := st.step u1 k1
  have own5 := HOWN.out.upto st.u hcb
  obtain ⟨gb, cpb, hvb⟩ := own5.at q hlq
  cases hvb
  obtain ⟨⟨a0, a1, a2, a3, a4⟩, -⟩ := own_five own5.row q hlq
  have hm5 := own5.maps _ (List.getElem_mem hlq)
  have hbq := HBF.out _ (List.getElem_mem hlq)
  obtain ⟨xb, hx⟩ : ∃ xb, bks[q]'hlq = xb := ⟨_, rfl⟩
  rw [hx] at a0 a1 a2 a3 a4 hm5 hbq
  clear hx
  obtain ⟨bn, bs, bm, br, bx, be⟩ := xb
  simp only at a0 a1 a2 a3 a4 hm5 hbq
  obtain ⟨om, cm, hmm⟩ := own_slice hm5
  subst hmm
  have sK := heap_alloc_new w5 (.cells #[.string bn, .int .i64 bs, .slice om br.length cm, .bool bx, .int .i64 be] 87)
  have st6 := st.alloc (.cells #[.string bn, .int .i64 bs, .slice om br.length cm, .bool bx, .int .i64 be] 87)
  have hnB5 : nB < w5.heap.size := heap_lt st.kB
  have hcw5 : c < w5.heap.size := st.kc.lt
  have fit6 : OpFit ⟨k, bn, ot, at_, va, ep⟩ := ⟨st.fit.k, hbq.1, st.fit.ot, st.fit.at_, st.fit.va, st.fit.ep⟩
  have fit7 : OpFit ⟨k, bn, ot, at_, va, be⟩ := ⟨st.fit.k, hbq.1, st.fit.ot, st.fit.at_, st.fit.va, hbq.2⟩
  have st7 := st6.put 1 (.string bn) ⟨k, bn, ot, at_, va, ep⟩ rfl fit6
  have b0 := at_cell sK 0
  have r1 := at_cell st6.kB 1
  have f1 := at_open st6.kB 1
  have sK7 := (Below.heap_setCell (w5.alloc (.cells #[.string bn, .int .i64 bs, .slice om br.length cm, .bool bx, .int .i64 be] 87)) ⟨nB, 1, none⟩ (.string bn) w5.heap.size (by show w5.heap.size ≠ nB; omega)).trans sK
  have iq0 : (0 : Int) ≤ (q : Int) := by omega
  have iq1 : (q : Int) < (bks.length : Int) := by omega
  clear p0 p1 p2 p3 p4 p5 u1 k1 hy hyn hm5
  have p0 := at_cell st7.kB 0
  have p1 := at_cell st7.kB 1
  have p2 := at_cell st7.kB 2
  have p3 := at_cell st7.kB 3
  have p4 := at_cell st7.kB 4
  have p5 := at_cell st7.kB 5
  simp only at p0 p1 p2 p3 p4 p5 r1 f1
  have HB5 : Hid (bn.size ≤ maxLen ∧ ot.size ≤ maxLen) := ⟨by have := hbq.1; unfold maxLen; omega, by have := st.fit.ot; simp only at this; unfold maxLen; omega⟩
  clear own5
  go_upto_region 5 with fail
  have hW6 : w5.heap.size < (w5.alloc (.cells #[.string bn, .int .i64 bs, .slice om br.length cm, .bool bx, .int .i64 be] 87)).heap.size := by simp
  generalize w5.alloc (.cells #[.string bn, .int .i64 bs, .slice om br.length cm, .bool bx, .int .i64 be] 87) = W6 at *
  clear a0 a1 a2 a3 a4
  go_upto_region 6 with fail
  generalize W6.setCell ⟨nB, 1, none⟩ (.string bn) = W7 at *
  clear b0 r1 f1 sK st st6
  by_cases hep : 0 < ep
  · skip
    have B10 : Below W7.heap.size W7 ((W7.alloc (.cells #[.int .i64 k, .string bn, .string ot, .int .i64 at_, .int .i64 va, .int .i64 ep] 26)).setCell ⟨W7.heap.size, 5, none⟩ (.int .i64 be)) := bw_set (bw_alloc (Below.refl _ _)) (Nat.le_refl _) _
    have sX := heap_alloc_new W7 (.cells #[.int .i64 k, .string bn, .string ot, .int .i64 at_, .int .i64 va, .int .i64 ep] 26)
    have sXs := set_at sX 5 (.int .i64 be)
    have sK9 := (Below.heap_alloc W7 (.cells #[.int .i64 k, .string bn, .string ot, .int .i64 at_, .int .i64 va, .int .i64 ep] 26) _ (heap_lt sK7)).trans sK7
    have st10 := st7.step (Upto.ofBelow B10) (st7.kc.below B10)
    have bk4 := at_cell sK9 4
    have x5 := at_cell sX 5
    have xf := at_open sX 5
    have y0 := at_cell sXs 0
    have y1 := at_cell sXs 1
    have y2 := at_cell sXs 2
    have y3 := at_cell sXs 3
    have y4 := at_cell sXs 4
    have y5 := at_cell sXs 5
    go_upto_region 8 with fail
    generalize W7.alloc (.cells #[.int .i64 k, .string bn, .string ot, .int .i64 at_, .int .i64 va, .int .i64 ep] 26) = W9 at *
    clear p0 p1 p2 p3 p4 p5
    go_upto_region 9 with fail
    generalize W9.setCell ⟨W7.heap.size, 5, none⟩ (.int .i64 be) = W10 at *
    clear B10 sX sK9 bk4 x5 xf
    go_wp2_with fail
    refine (specOpOk_any k bn ot at_ va be _ HB5.out.1 HB5.out.2).mono ?_
    rintro e w11 ⟨rfl, b11⟩
    obtain ⟨okv, hok⟩ : ∃ b, opOk ⟨k, bn, ot, at_, va, be⟩ = b := ⟨_, rfl⟩
    rw [hok]
    clear hok
    have st11 := st10.step (Upto.ofBelow b11) (st10.kc.below b11)
    have sX11 := (b11.block _ (heap_lt sXs)).trans sXs
    clear y0 y1 y2 y3 y4 y5 b11 st10 sXs
    have p0 := at_cell st11.kB 0
    have p1 := at_cell st11.kB 1
    have p2 := at_cell st11.kB 2
    have p3 := at_cell st11.kB 3
    have p4 := at_cell st11.kB 4
    have p5 := at_cell st11.kB 5
    simp only at p0 p1 p2 p3 p4 p5
    cases okv
    · skip
      have q0 := at_cell st11.kR 0
      have g0 := at_open st11.kR 0
      have q1 := at_cell st11.kR 1
      have g1 := at_open st11.kR 1
      have q2 := at_cell st11.kR 2
      have g2 := at_open st11.kR 2
      have q3 := at_cell st11.kR 3
      have g3 := at_open st11.kR 3
      have q4 := at_cell st11.kR 4
      have g4 := at_open st11.kR 4
      have q5 := at_cell st11.kR 5
      have g5 := at_open st11.kR 5
      have HS : Hid _ := st11.fin
      have HF : Hid _ := st11.fit
      simp only at HS HF
      clear st11
      go_wp2_with fail
      exact bodyPost_ret (v := .agg #[.int .i64 k, .string bn, .string ot, .int .i64 at_, .int .i64 va, .int .i64 ep]) (by simp [results, Tryz.results34, go_sem, at_cell HS.out.1]) rfl ⟨⟨k, bn, ot, at_, va, ep⟩, rfl, HF.out, HS.out.2.1, HS.out.2.2⟩
    · have z0 := at_cell sX11 0
      have z1 := at_cell sX11 1
      have z2 := at_cell sX11 2
      have z3 := at_cell sX11 3
      have z4 := at_cell sX11 4
      have z5 := at_cell sX11 5
      have f0 := at_open st11.kB 0
      have f1 := at_open st11.kB 1
      have f2 := at_open st11.kB 2
      have f3 := at_open st11.kB 3
      have f4 := at_open st11.kB 4
      have f5 := at_open st11.kB 5
      have st12 := (((((st11.put 0 (.int .i64 k) ⟨k, bn, ot, at_, va, ep⟩ rfl fit6).put 1 (.string bn) ⟨k, bn, ot, at_, va, ep⟩ rfl fit6).put 2 (.string ot) ⟨k, bn, ot, at_, va, ep⟩ rfl fit6).put 3 (.int .i64 at_) ⟨k, bn, ot, at_, va, ep⟩ rfl fit6).put 4 (.int .i64 va) ⟨k, bn, ot, at_, va, ep⟩ rfl fit6).put 5 (.int .i64 be) ⟨k, bn, ot, at_, va, be⟩ rfl fit7
      go_upto_region 11 with fail
      generalize ((((((w11.setCell ⟨nB, 0, none⟩ (.int .i64 k)).setCell ⟨nB, 1, none⟩ (.string bn)).setCell ⟨nB, 2, none⟩ (.string ot)).setCell ⟨nB, 3, none⟩ (.int .i64 at_)).setCell ⟨nB, 4, none⟩ (.int .i64 va)).setCell ⟨nB, 5, none⟩ (.int .i64 be)) = W12 at st12 ⊢
      clear p0 p1 p2 p3 p4 p5 z0 z1 z2 z3 z4 z5 f0 f1 f2 f3 f4 f5 sX11 st11
      have p0 := at_cell st12.kB 0
      have p1 := at_cell st12.kB 1
      have p2 := at_cell st12.kB 2
      have p3 := at_cell st12.kB 3
      have p4 := at_cell st12.kB 4
      have p5 := at_cell st12.kB 5
      simp only at p0 p1 p2 p3 p4 p5
      have q0 := at_cell st12.kR 0
      have g0 := at_open st12.kR 0
      have q1 := at_cell st12.kR 1
      have g1 := at_open st12.kR 1
      have q2 := at_cell st12.kR 2
      have g2 := at_open st12.kR 2
      have q3 := at_cell st12.kR 3
      have g3 := at_open st12.kR 3
      have q4 := at_cell st12.kR 4
      have g4 := at_open st12.kR 4
      have q5 := at_cell st12.kR 5
      have g5 := at_open st12.kR 5
      have HS : Hid _ := st12.fin
      have HF : Hid _ := st12.fit
      simp only at HS HF
      clear st12
      go_wp2_with fail
      exact bodyPost_ret (v := .agg #[.int .i64 k, .string bn, .string ot, .int .i64 at_, .int .i64 va, .int .i64 be]) (by simp [results, Tryz.results34, go_sem, at_cell HS.out.1]) rfl ⟨⟨k, bn, ot, at_, va, be⟩, rfl, HF.out, HS.out.2.1, HS.out.2.2⟩
  · have hep' : ¬ (0 : Int) < ep := hep
    go_wp2_with fail
    refine (once_any c x len cap 2 _ (by omega) st7.kc).mono ?_
    rintro e w8 ⟨y, rfl, u1, k1⟩
    have st8 := st7.step u1 k1
    have sK8 := (u1.block _ (heap_lt sK7) (by omega)).trans sK7
    clear u1 k1 p0 p1 p2 p3 p4 p5 sK7 st7
    have p0 := at_cell st8.kB 0
    have p1 := at_cell st8.kB 1
    have p2 := at_cell st8.kB 2
    have p3 := at_cell st8.kB 3
    have p4 := at_cell st8.kB 4
    have p5 := at_cell st8.kB 5
    simp only at p0 p1 p2 p3 p4 p5
    cases y
    · skip
      have q0 := at_cell st8.kR 0
      have g0 := at_open st8.kR 0
      have q1 := at_cell st8.kR 1
      have g1 := at_open st8.kR 1
      have q2 := at_cell st8.kR 2
      have g2 := at_open st8.kR 2
      have q3 := at_cell st8.kR 3
      have g3 := at_open st8.kR 3
      have q4 := at_cell st8.kR 4
      have g4 := at_open st8.kR 4
      have q5 := at_cell st8.kR 5
      have g5 := at_open st8.kR 5
      have HS : Hid _ := st8.fin
      have HF : Hid _ := st8.fit
      simp only at HS HF
      clear st8
      go_wp2_with fail
      exact bodyPost_ret (v := .agg #[.int .i64 k, .string bn, .string ot, .int .i64 at_, .int .i64 va, .int .i64 ep]) (by simp [results, Tryz.results34, go_sem, at_cell HS.out.1]) rfl ⟨⟨k, bn, ot, at_, va, ep⟩, rfl, HF.out, HS.out.2.1, HS.out.2.2⟩
    · skip
      have B10 : Below w8.heap.size w8 ((w8.alloc (.cells #[.int .i64 k, .string bn, .string ot, .int .i64 at_, .int .i64 va, .int .i64 ep] 26)).setCell ⟨w8.heap.size, 5, none⟩ (.int .i64 be)) := bw_set (bw_alloc (Below.refl _ _)) (Nat.le_refl _) _
      have sX := heap_alloc_new w8 (.cells #[.int .i64 k, .string bn, .string ot, .int .i64 at_, .int .i64 va, .int .i64 ep] 26)
      have sXs := set_at sX 5 (.int .i64 be)
      have sK9 := (Below.heap_alloc w8 (.cells #[.int .i64 k, .string bn, .string ot, .int .i64 at_, .int .i64 va, .int .i64 ep] 26) _ (heap_lt sK8)).trans sK8
      have st10 := st8.step (Upto.ofBelow B10) (st8.kc.below B10)
      have bk4 := at_cell sK9 4
      have x5 := at_cell sX 5
      have xf := at_open sX 5
      have y0 := at_cell sXs 0
      have y1 := at_cell sXs 1
      have y2 := at_cell sXs 2
      have y3 := at_cell sXs 3
      have y4 := at_cell sXs 4
      have y5 := at_cell sXs 5
      go_upto_region 8 with fail
      generalize w8.alloc (.cells #[.int .i64 k, .string bn, .string ot, .int .i64 at_, .int .i64 va, .int .i64 ep] 26) = W9 at *
      clear p0 p1 p2 p3 p4 p5
      go_upto_region 9 with fail
      generalize W9.setCell ⟨w8.heap.size, 5, none⟩ (.int .i64 be) = W10 at *
      clear B10 sX sK9 bk4 x5 xf
      go_wp2_with fail
      refine (specOpOk_any k bn ot at_ va be _ HB5.out.1 HB5.out.2).mono ?_
      rintro e w11 ⟨rfl, b11⟩
      obtain ⟨okv, hok⟩ : ∃ b, opOk ⟨k, bn, ot, at_, va, be⟩ = b := ⟨_, rfl⟩
      rw [hok]
      clear hok
      have st11 := st10.step (Upto.ofBelow b11) (st10.kc.below b11)
      have sX11 := (b11.block _ (heap_lt sXs)).trans sXs
      clear y0 y1 y2 y3 y4 y5 b11 st10 sXs
      have p0 := at_cell st11.kB 0
      have p1 := at_cell st11.kB 1
      have p2 := at_cell st11.kB 2
      have p3 := at_cell st11.kB 3
      have p4 := at_cell st11.kB 4
      have p5 := at_cell st11.kB 5
      simp only at p0 p1 p2 p3 p4 p5
      cases okv
      · skip
        have q0 := at_cell st11.kR 0
        have g0 := at_open st11.kR 0
        have q1 := at_cell st11.kR 1
        have g1 := at_open st11.kR 1
        have q2 := at_cell st11.kR 2
        have g2 := at_open st11.kR 2
        have q3 := at_cell st11.kR 3
        have g3 := at_open st11.kR 3
        have q4 := at_cell st11.kR 4
        have g4 := at_open st11.kR 4
        have q5 := at_cell st11.kR 5
        have g5 := at_open st11.kR 5
        have HS : Hid _ := st11.fin
        have HF : Hid _ := st11.fit
        simp only at HS HF
        clear st11
        go_wp2_with fail
        exact bodyPost_ret (v := .agg #[.int .i64 k, .string bn, .string ot, .int .i64 at_, .int .i64 va, .int .i64 ep]) (by simp [results, Tryz.results34, go_sem, at_cell HS.out.1]) rfl ⟨⟨k, bn, ot, at_, va, ep⟩, rfl, HF.out, HS.out.2.1, HS.out.2.2⟩
      · have z0 := at_cell sX11 0
        have z1 := at_cell sX11 1
        have z2 := at_cell sX11 2
        have z3 := at_cell sX11 3
        have z4 := at_cell sX11 4
        have z5 := at_cell sX11 5
        have f0 := at_open st11.kB 0
        have f1 := at_open st11.kB 1
        have f2 := at_open st11.kB 2
        have f3 := at_open st11.kB 3
        have f4 := at_open st11.kB 4
        have f5 := at_open st11.kB 5
        have st12 := (((((st11.put 0 (.int .i64 k) ⟨k, bn, ot, at_, va, ep⟩ rfl fit6).put 1 (.string bn) ⟨k, bn, ot, at_, va, ep⟩ rfl fit6).put 2 (.string ot) ⟨k, bn, ot, at_, va, ep⟩ rfl fit6).put 3 (.int .i64 at_) ⟨k, bn, ot, at_, va, ep⟩ rfl fit6).put 4 (.int .i64 va) ⟨k, bn, ot, at_, va, ep⟩ rfl fit6).put 5 (.int .i64 be) ⟨k, bn, ot, at_, va, be⟩ rfl fit7
        go_upto_region 11 with fail
        generalize ((((((w11.setCell ⟨nB, 0, none⟩ (.int .i64 k)).setCell ⟨nB, 1, none⟩ (.string bn)).setCell ⟨nB, 2, none⟩ (.string ot)).setCell ⟨nB, 3, none⟩ (.int .i64 at_)).setCell ⟨nB, 4, none⟩ (.int .i64 va)).setCell ⟨nB, 5, none⟩ (.int .i64 be)) = W12 at st12 ⊢
        clear p0 p1 p2 p3 p4 p5 z0 z1 z2 z3 z4 z5 f0 f1 f2 f3 f4 f5 sX11 st11
        have p0 := at_cell st12.kB 0
        have p1 := at_cell st12.kB 1
        have p2 := at_cell st12.kB 2
        have p3 := at_cell st12.kB 3
        have p4 := at_cell st12.kB 4
        have p5 := at_cell st12.kB 5
        simp only at p0 p1 p2 p3 p4 p5
        have q0 := at_cell st12.kR 0
        have g0 := at_open st12.kR 0
        have q1 := at_cell st12.kR 1
        have g1 := at_open st12.kR 1
        have q2 := at_cell st12.kR 2
        have g2 := at_open st12.kR 2
        have q3 := at_cell st12.kR 3
        have g3 := at_open st12.kR 3
        have q4 := at_cell st12.kR 4
        have g4 := at_open st12.kR 4
        have q5 := at_cell st12.kR 5
        have g5 := at_open st12.kR 5
        have HS : Hid _ := st12.fin
        have HF : Hid _ := st12.fit
        simp only at HS HF
        clear st12
        go_wp2_with fail
        exact bodyPost_ret (v := .agg #[.int .i64 k, .string bn, .string ot, .int .i64 at_, .int .i64 va, .int .i64 be]) (by simp [results, Tryz.results34, go_sem, at_cell HS.out.1]) rfl ⟨⟨k, bn, ot, at_, va, be⟩, rfl, HF.out, HS.out.2.1, HS.out.2.2⟩
end Go.Proofs.YtcefcglonooelaaGreatDoor

namespace Go.Proofs.YtcefcglonooelaaGreatDoor
open Go.RowKit

set_option linter.unusedVariables false

theorem six_put {W : World} {c : Nat} {x0 x1 x2 x3 x4 x5 : Value} {T : TypeId} (kc : W.heap[c]? = some (.cells #[x0, x1, x2, x3, x4, x5] T (0, 0))) (y0 y1 y2 y3 y4 y5 : Value) :
    ((((((W.setCell ⟨c, 0, none⟩ y0).setCell ⟨c, 1, none⟩ y1).setCell ⟨c, 2, none⟩ y2).setCell ⟨c, 3, none⟩ y3).setCell ⟨c, 4, none⟩ y4).setCell ⟨c, 5, none⟩ y5).heap[c]? = some (.cells #[y0, y1, y2, y3, y4, y5] T (0, 0)) ∧ Upto c W ((((((W.setCell ⟨c, 0, none⟩ y0).setCell ⟨c, 1, none⟩ y1).setCell ⟨c, 2, none⟩ y2).setCell ⟨c, 3, none⟩ y3).setCell ⟨c, 4, none⟩ y4).setCell ⟨c, 5, none⟩ y5) :=
  ⟨set_at (set_at (set_at (set_at (set_at (set_at kc 0 y0) 1 y1) 2 y2) 3 y3) 4 y4) 5 y5, ((((((Upto.refl _ _).setCell ⟨c, 0, none⟩ (.inl rfl) _).setCell ⟨c, 1, none⟩ (.inl rfl) _).setCell ⟨c, 2, none⟩ (.inl rfl) _).setCell ⟨c, 3, none⟩ (.inl rfl) _).setCell ⟨c, 4, none⟩ (.inl rfl) _).setCell ⟨c, 5, none⟩ (.inl rfl) _⟩
end Go.Proofs.YtcefcglonooelaaGreatDoor

namespace Go.Proofs.YtcefcglonooelaaGreatDoor
open Go.RowKit

set_option linter.unusedVariables false

set_option maxRecDepth 100000


/-- A shelf that is read. -/
structure ReadsS (w : World) (v1 v2 vb : Value) (s : Sf) : Prop where
  c : Reads w.heap.size w v1 (s.cs.map (Value.int .i64))
  p : Reads w.heap.size w v2 (s.ps.map (Value.int .i64))
  b : ∃ bks : List Bk, ReadsB w.heap.size w vb bks ∧ bks.map Bk.pb = s.bs

theorem ReadsS.below {w w' : World} {v1 v2 vb : Value} {s : Sf} (h : ReadsS w v1 v2 vb s) (k : Below w.heap.size w w') : ReadsS w' v1 v2 vb s := by
  obtain ⟨bks, h1, h2⟩ := h.b
  exact ⟨(h.c.below k).mono k.size, (h.p.below k).mono k.size, bks, (h1.below k).mono k.size, h2⟩

/-- A shelf of one's own, its books somewhere. -/
structure OwnD (base : Nat) (w : World) (v1 v2 vb : Value) (s : Sf) : Prop where
  p : OwnP base w v1 v2 s.cs s.ps
  b : ∃ bks : List Bk, OwnB base w vb bks ∧ bks.map Bk.pb = s.bs

theorem OwnD.below {base : Nat} {w w' : World} {v1 v2 vb : Value} {s : Sf} (h : OwnD base w v1 v2 vb s) (k : Below w.heap.size w w') : OwnD base w' v1 v2 vb s := by
  obtain ⟨bks, h1, h2⟩ := h.b
  exact ⟨h.p.below k, bks, h1.below k, h2⟩

theorem OwnD.mono {base base' : Nat} {w : World} {v1 v2 vb : Value} {s : Sf} (h : OwnD base w v1 v2 vb s) (k : base' ≤ base) : OwnD base' w v1 v2 vb s := by
  obtain ⟨bks, h1, h2⟩ := h.b
  exact ⟨h.p.mono k, bks, h1.mono k, h2⟩

theorem OwnD.reads {base : Nat} {w : World} {v1 v2 vb : Value} {s : Sf} (h : OwnD base w v1 v2 vb s) : ReadsS w v1 v2 vb s := by
  obtain ⟨bks, h1, h2⟩ := h.b
  exact ⟨Reads.of_own h.p.c, Reads.of_own h.p.p, bks, h1.reads, h2⟩

theorem OwnD.nil (base : Nat) (w : World) : OwnD base w (.slice none 0 0) (.slice none 0 0) (.slice none 0 0) ⟨[], [], []⟩ := ⟨OwnP.nil _ _, [], ⟨World.ownsRow_nil _ _ _ _, fun b hb => by cases hb⟩, rfl⟩
end Go.Proofs.YtcefcglonooelaaGreatDoor

namespace Go.Proofs.YtcefcglonooelaaGreatDoor
open Go.RowKit

set_option linter.unusedVariables false

set_option maxRecDepth 100000


theorem RS.of {B : Nat} {W : World} {v1 v2 vb : Value} {cs ps : List Int} {bks : List Bk} (h : RS B W v1 v2 vb cs ps bks) (y : B ≤ W.heap.size) (q : BelowOf W) : RS q.w'.heap.size q.w' v1 v2 vb cs ps bks := ((h.mono y).below q.h).mono q.h.size

theorem RS.nil (B : Nat) (w : World) : RS B w (.slice none 0 0) (.slice none 0 0) (.slice none 0 0) [] [] [] := ⟨⟨Reads.none _ _, Reads.none _ _⟩, readsB_nil _ _⟩
end Go.Proofs.YtcefcglonooelaaGreatDoor

namespace Go.Proofs.YtcefcglonooelaaGreatDoor
set_option linter.unusedVariables false

set_option maxRecDepth 100000


theorem val_range {s : Sf} (h : ShInv s) (rs : List (Int × Int × Int)) (k : Nat) : 0 ≤ valAt s.ps rs k ∧ valAt s.ps rs k ≤ 999 := by
  have key : ∀ j : Nat, 0 ≤ s.ps.getD j 0 ∧ s.ps.getD j 0 ≤ 999 := fun j => by
    by_cases hj : j < s.cs.length
    · have := h.cells.val j hj
      omega
    · have hl := h.cells.p
      have : s.ps.getD j 0 = 0 := by rw [List.getD_eq_getElem?_getD, List.getElem?_eq_none (by omega)]; rfl
      omega
  unfold valAt
  split
  · omega
  · exact key _

theorem shown_right {s : Sf} (h : ShInv s) : plainsOk (s.bs.map (shownP s.ps)) = true := by
  refine plains_of (by rw [List.length_map]; exact h.few) (fun p hp => ?_) ?_
  · obtain ⟨b, hb, rfl⟩ := List.mem_map.1 hp
    obtain ⟨h1, h2, h3, -⟩ := book_parts (h.oks b hb)
    refine pv_ok_by h1 h2 h3 ?_ ?_
    · show ((shownV s.ps b.rs b.sz.toNat).length : Int) = b.sz
      rw [shownV_len]
      omega
    · show valuesB (shownV s.ps b.rs b.sz.toNat) = true
      unfold valuesB shownV
      rw [List.all_eq_true]
      intro x hx
      obtain ⟨j, -, rfl⟩ := List.mem_map.1 hx
      have := val_range h b.rs j
      simp [this.1, this.2]
  · have e : (s.bs.map (shownP s.ps)).map Pv.nm = s.bs.map Pb.nm := by rw [List.map_map]; rfl
    rw [e]
    exact h.srt

/-- Names of right plains are short. -/
theorem right_names {ms : List Pk} (h : plainsOk (ms.map Pk.pv) = true) : ∀ b ∈ ms, b.nm.size ≤ maxLen := fun b hb => by
  have h1 := (pv_all ((plains_ok h).2 b.pv (List.mem_map_of_mem hb))).1
  have h2 := (nameB_size _ h1).2
  unfold maxLen
  show b.pv.nm.size ≤ _
  omega
end Go.Proofs.YtcefcglonooelaaGreatDoor

