/-
  Contracts and plain laws, one chapter behind the other.
-/
import Derived.Deep.DeepCutAuto
import Derived.Deep.Cut
import Derived.Test.YtghhphhnalfjaaaM01
import Derived.Test.YtghhphhnalfjaaaM03
namespace Go.Proofs.Ytghhphhnalfjaaa
open Go.ChangeShapes Go.WideShapes Go.ChangeAt Go.RowKit Go.Deep Go.Joins

set_option linter.unusedVariables false

set_option maxRecDepth 100000


def FitMsg (m : Mg) : Prop := FitEnt m.e ∧ I64 m.kd ∧ I64 m.ds ∧ I64 m.vw ∧ I64 m.s ∧ I64 m.rc ∧ I64 m.rv

def FitPost (l : List Mg) : Prop := ∀ m ∈ l, FitMsg m

theorem list15 {α : Type} {cs : List α} (h : cs.length = 15) : ∃ v0 v1 v2 v3 v4 v5 v6 v7 v8 v9 v10 v11 v12 v13 v14, cs = [v0, v1, v2, v3, v4, v5, v6, v7, v8, v9, v10, v11, v12, v13, v14] := by
  match cs, h with
  | [v0, v1, v2, v3, v4, v5, v6, v7, v8, v9, v10, v11, v12, v13, v14], _ => exact ⟨v0, v1, v2, v3, v4, v5, v6, v7, v8, v9, v10, v11, v12, v13, v14, rfl⟩

theorem msg_cells {H : Type} {enc : TypeId × Value → H} {W : World} {n : Nat} {cs : List Value} {y : DataW H × List MemPlace} (h : DataW.trod enc Try.prog W 0 (fun _ => true) true n 89 cs = some y) :
    ∃ m : Mg, cs = mgC m ∧ FitMsg m := by
  have ce : Try.prog.cellsOf 89 = 15 := by kernel_rfl
  have c1 : Try.prog.cellsOf 2 = 1 := by kernel_rfl
  have c2 : Try.prog.cellsOf 86 = 9 := by kernel_rfl
  have c3 : Try.prog.cellsOf 87 = 2 := by kernel_rfl
  obtain ⟨xs, m, _, -, hl, hlen, hf⟩ := DataW.trod_struct Try.underlying89 h
  obtain ⟨v0, v1, v2, v3, v4, v5, v6, v7, v8, v9, v10, v11, v12, v13, v14, rfl⟩ := list15 (hl.trans ce)
  obtain ⟨y0, y1, y2, y3, y4, y5, rfl⟩ := list6 (show xs.length = 6 from hlen)
  have t0 := hf 0 _ rfl
  have t1 := hf 1 _ rfl
  have t2 := hf 2 _ rfl
  have t3 := hf 3 _ rfl
  have t4 := hf 4 _ rfl
  have t5 := hf 5 _ rfl
  simp [c1, c2, c3] at t0 t1 t2 t3 t4 t5
  obtain ⟨kd, e0, _, z0⟩ := DataW.trod_int Try.underlying2 t0
  obtain ⟨ds, e1, _, z1⟩ := DataW.trod_int Try.underlying2 t1
  obtain ⟨vw, e2, _, z2⟩ := DataW.trod_int Try.underlying2 t2
  obtain ⟨en, e3, fe⟩ := ent_cells t3
  obtain ⟨s, e4, _, z4⟩ := DataW.trod_int Try.underlying2 t4
  have e5 : ∃ rc rv : Int, v13 = .int .i64 rc ∧ v14 = .int .i64 rv ∧ I64 rc ∧ I64 rv := by
    obtain ⟨ys, m5, _, -, hl5, hlen5, hf5⟩ := DataW.trod_struct Try.underlying87 t5
    obtain ⟨u0, u1, rfl⟩ := list2r (show ys.length = 2 from hlen5)
    have q0 := hf5 0 _ rfl
    have q1 := hf5 1 _ rfl
    simp [c1] at q0 q1
    obtain ⟨rc, r0, _, w0⟩ := DataW.trod_int Try.underlying2 q0
    obtain ⟨rv, r1, _, w1⟩ := DataW.trod_int Try.underlying2 q1
    simp at r0 r1
    exact ⟨rc, rv, r0, r1, lit_i64o w0, lit_i64o w1⟩
  obtain ⟨rc, rv, rfl, rfl, z5, z6⟩ := e5
  simp only [entC, List.cons.injEq, and_true] at e3
  obtain ⟨rfl, rfl, rfl, rfl, rfl, rfl, rfl, rfl, rfl⟩ := e3
  simp at e0 e1 e2 e4
  subst e0 e1 e2 e4
  exact ⟨⟨kd, ds, vw, en, s, rc, rv⟩, rfl, fe, lit_i64o z0, lit_i64o z1, lit_i64o z2, lit_i64o z4, z5, z6⟩

set_option maxHeartbeats 1600000 in
theorem szMsg_any (kd ds vw sq cl tg k : Int) (nm ot : ByteArray) (at_ va ep s rc rv : Int) (left : Int) (w : World) (hn : nm.size ≤ maxLen) (ho : ot.size ≤ maxLen) (h0 : 0 ≤ left) (hl : left ≤ 1048576) :
    Calls Try.prog 57 #[.agg #[.int .i64 kd, .int .i64 ds, .int .i64 vw, .int .i64 sq, .int .i64 cl, .int .i64 tg, .int .i64 k, .string nm, .string ot, .int .i64 at_, .int .i64 va, .int .i64 ep, .int .i64 s, .int .i64 rc, .int .i64 rv], .int .i64 left] w fun e w' => ∃ q : Int, e = .returned (.int .i64 q) ∧ (q = -1 ∨ (0 ≤ q ∧ q ≤ left ∧ nm.size ≤ 1048576 ∧ ot.size ≤ 1048576)) ∧ Below w.heap.size w w' := by
  obtain ⟨W0, hW0, k0, d0, z0⟩ := box1 w #[.int .i64 kd, .int .i64 ds, .int .i64 vw, .int .i64 sq, .int .i64 cl, .int .i64 tg, .int .i64 k, .string nm, .string ot, .int .i64 at_, .int .i64 va, .int .i64 ep, .int .i64 s, .int .i64 rc, .int .i64 rv] 89
  have HW0 : Hid (W0 = _) := hW0
  have p3 := at_cell k0 3
  have p4 := at_cell k0 4
  have p5 := at_cell k0 5
  have p6 := at_cell k0 6
  have p7 := at_cell k0 7
  have p8 := at_cell k0 8
  have p9 := at_cell k0 9
  have p10 := at_cell k0 10
  have p11 := at_cell k0 11
  clear hW0 k0 z0
  go_enter Try.func57, Try.ntmps57
  go_wp2_with fail
  rw [← HW0.out]
  refine (szEntry_any sq cl tg k nm ot at_ va ep left _ hn ho h0 hl).mono ?_
  rintro e w1 ⟨q, rfl, hq, b1⟩
  replace d0 := bw_call d0 b1
  clear p3 p4 p5 p6 p7 p8 p9 p10 p11 HW0
  rcases hq with rfl | ⟨hq0, hq1, hq2, hq3⟩
  · go_wp2_with fail
    go_ret
    exact ⟨-1, rfl, .inl rfl, d0⟩
  · go_wp2_with fail
    go_ret
    exact ⟨q, rfl, .inr ⟨hq0, hq1, hq2, hq3⟩, d0⟩

theorem putR_set (x0 x1 x2 x3 x4 x5 x6 x7 x8 x9 x10 x11 x12 x13 x14 z13 z14 : Value) : (((#[x0, x1, x2, x3, x4, x5, x6, x7, x8, x9, x10, x11, x12, x13, x14] : Array Value).setIfInBounds 13 z13).setIfInBounds 14 z14) = #[x0, x1, x2, x3, x4, x5, x6, x7, x8, x9, x10, x11, x12, z13, z14] := by
  apply Array.toList_inj.1
  simp only [Array.toList_setIfInBounds]
  rfl

set_option maxHeartbeats 1600000 in
theorem putR {w W : World} {b : Nat} {x0 x1 x2 x3 x4 x5 x6 x7 x8 x9 x10 x11 x12 x13 x14 : Value} {t : TypeId} (h : w.heap.size ≤ b) (k : W.heap[b]? = some (.cells #[x0, x1, x2, x3, x4, x5, x6, x7, x8, x9, x10, x11, x12, x13, x14] t (0, 0))) (d : Below w.heap.size w W) (z13 z14 : Value) :
    ((W.setCell ⟨b, 13, none⟩ (z13)).setCell ⟨b, 14, none⟩ (z14)).heap[b]? = some (.cells #[x0, x1, x2, x3, x4, x5, x6, x7, x8, x9, x10, x11, x12, z13, z14] t (0, 0)) ∧ Below w.heap.size w ((W.setCell ⟨b, 13, none⟩ (z13)).setCell ⟨b, 14, none⟩ (z14)) ∧ Upto b W ((W.setCell ⟨b, 13, none⟩ (z13)).setCell ⟨b, 14, none⟩ (z14)) := by
  refine ⟨?_, (bw_set (bw_set d h _) h _), (((Upto.refl b W).setCell ⟨b, 13, none⟩ (.inl rfl) _).setCell ⟨b, 14, none⟩ (.inl rfl) _)⟩
  have e := k
  replace e := set_at e 13 z13
  replace e := set_at e 14 z14
  rw [putR_set] at e
  exact e

set_option maxHeartbeats 6400000 in
theorem toMsg_any (kd ds vw sq cl tg k : Int) (nm ot : ByteArray) (at_ va ep s rc rv : Int) (w : World) :
    Calls Try.prog 58 #[.agg #[.int .i64 kd, .int .i64 ds, .int .i64 vw, .int .i64 sq, .int .i64 cl, .int .i64 tg, .int .i64 k, .string nm, .string ot, .int .i64 at_, .int .i64 va, .int .i64 ep, .int .i64 s, .int .i64 rc, .int .i64 rv]] w fun e w' => e = .returned (.agg #[.int .i64 kd, .int .i64 ds, .int .i64 vw, .int .i64 sq, .int .i64 cl, .int .i64 tg, .int .i64 k, .string nm, .string ot, .int .i64 at_, .int .i64 va, .int .i64 ep, .int .i64 s, .int .i64 rc, .int .i64 rv]) ∧ Below w.heap.size w w' := by
  obtain ⟨W1, hW1, k0, k1, k2, d0, z0⟩ := box3 w #[.int .i64 kd, .int .i64 ds, .int .i64 vw, .int .i64 sq, .int .i64 cl, .int .i64 tg, .int .i64 k, .string nm, .string ot, .int .i64 at_, .int .i64 va, .int .i64 ep, .int .i64 s, .int .i64 rc, .int .i64 rv] #[.int .i64 0, .int .i64 0, .int .i64 0, .int .i64 0, .int .i64 0, .int .i64 0, .int .i64 0, .string ⟨#[]⟩, .string ⟨#[]⟩, .int .i64 0, .int .i64 0, .int .i64 0, .int .i64 0, .int .i64 0, .int .i64 0] #[.int .i64 kd, .int .i64 ds, .int .i64 vw, .int .i64 0, .int .i64 0, .int .i64 0, .int .i64 0, .string ⟨#[]⟩, .string ⟨#[]⟩, .int .i64 0, .int .i64 0, .int .i64 0, .int .i64 0, .int .i64 0, .int .i64 0] 89 38 38
  have HW1 : Hid (W1 = _) := hW1
  have z1 : w.heap.size + 1 + 1 + 1 ≤ W1.heap.size := by omega
  clear hW1 z0
  have p0 := at_cell k0 0
  have p1 := at_cell k0 1
  have p2 := at_cell k0 2
  have p3 := at_cell k0 3
  have p4 := at_cell k0 4
  have p5 := at_cell k0 5
  have p6 := at_cell k0 6
  have p7 := at_cell k0 7
  have p8 := at_cell k0 8
  have p9 := at_cell k0 9
  have p10 := at_cell k0 10
  have p11 := at_cell k0 11
  go_enter Try.func58, Try.ntmps58
  go_wp2_with fail
  rw [← HW1.out]
  clear HW1 p0 p1 p2 p3 p4 p5 p6 p7 p8 p9 p10 p11
  refine (toEntry_any sq cl tg k nm ot at_ va ep _).mono ?_
  rintro e w2 ⟨rfl, b2⟩
  replace k0 := (b2.block _ (by omega)).trans k0
  replace k1 := (b2.block _ (by omega)).trans k1
  replace k2 := (b2.block _ (by omega)).trans k2
  replace d0 := bw_call d0 b2
  clear b2
  have c3 := at_cell k2 3
  have c4 := at_cell k2 4
  have c5 := at_cell k2 5
  have c6 := at_cell k2 6
  have c7 := at_cell k2 7
  have c8 := at_cell k2 8
  have c9 := at_cell k2 9
  have c10 := at_cell k2 10
  have c11 := at_cell k2 11
  have f3 := at_open k2 3
  have f4 := at_open k2 4
  have f5 := at_open k2 5
  have f6 := at_open k2 6
  have f7 := at_open k2 7
  have f8 := at_open k2 8
  have f9 := at_open k2 9
  have f10 := at_open k2 10
  have f11 := at_open k2 11
  obtain ⟨s1, s2, s3⟩ := putE (b := w.heap.size + 1 + 1) (by omega) k2 d0 (.int .i64 sq) (.int .i64 cl) (.int .i64 tg) (.int .i64 k) (.string nm) (.string ot) (.int .i64 at_) (.int .i64 va) (.int .i64 ep)
  obtain ⟨W3, hW3⟩ : ∃ W3, W3 = (((((((((w2.setCell ⟨w.heap.size + 1 + 1, 3, none⟩ (.int .i64 sq)).setCell ⟨w.heap.size + 1 + 1, 4, none⟩ (.int .i64 cl)).setCell ⟨w.heap.size + 1 + 1, 5, none⟩ (.int .i64 tg)).setCell ⟨w.heap.size + 1 + 1, 6, none⟩ (.int .i64 k)).setCell ⟨w.heap.size + 1 + 1, 7, none⟩ (.string nm)).setCell ⟨w.heap.size + 1 + 1, 8, none⟩ (.string ot)).setCell ⟨w.heap.size + 1 + 1, 9, none⟩ (.int .i64 at_)).setCell ⟨w.heap.size + 1 + 1, 10, none⟩ (.int .i64 va)).setCell ⟨w.heap.size + 1 + 1, 11, none⟩ (.int .i64 ep)) := ⟨_, rfl⟩
  rw [← hW3] at s1 s2 s3
  have HW3 : Hid (W3 = _) := hW3
  clear hW3
  go_upto_region 6 with fail
  rw [← HW3.out]
  replace k0 := (s3.block w.heap.size (heap_lt k0) (by omega)).trans k0
  replace k1 := (s3.block (w.heap.size + 1) (heap_lt k1) (by omega)).trans k1
  clear HW3 c3 c4 c5 c6 c7 c8 c9 c10 c11 f3 f4 f5 f6 f7 f8 f9 f10 f11 k2 d0 s3
  have p12 := at_cell k0 12
  have c12 := at_cell s1 12
  have f12 := at_open s1 12
  obtain ⟨t1, t2, t3⟩ := putS (b := w.heap.size + 1 + 1) (by omega) s1 s2 (.int .i64 s)
  obtain ⟨W4, hW4⟩ : ∃ W4, W4 = W3.setCell ⟨w.heap.size + 1 + 1, 12, none⟩ (.int .i64 s) := ⟨_, rfl⟩
  rw [← hW4] at t1 t2 t3
  have HW4 : Hid (W4 = _) := hW4
  clear hW4
  go_upto_region 7 with fail
  rw [← HW4.out]
  replace k0 := (t3.block w.heap.size (heap_lt k0) (by omega)).trans k0
  replace k1 := (t3.block (w.heap.size + 1) (heap_lt k1) (by omega)).trans k1
  clear HW4 p12 c12 f12 s1 s2 t3
  have p13 := at_cell k0 13
  have p14 := at_cell k0 14
  go_wp2_with fail
  refine (toReply_any rc rv _).mono ?_
  rintro e w5 ⟨rfl, b5⟩
  replace k1 := (b5.block _ (heap_lt k1)).trans k1
  replace t1 := (b5.block _ (heap_lt t1)).trans t1
  replace t2 := bw_call t2 b5
  clear b5 p13 p14 k0
  have c13 := at_cell t1 13
  have c14 := at_cell t1 14
  have f13 := at_open t1 13
  have f14 := at_open t1 14
  obtain ⟨u1, u2, u3⟩ := putR (b := w.heap.size + 1 + 1) (by omega) t1 t2 (.int .i64 rc) (.int .i64 rv)
  obtain ⟨W6, hW6⟩ : ∃ W6, W6 = (w5.setCell ⟨w.heap.size + 1 + 1, 13, none⟩ (.int .i64 rc)).setCell ⟨w.heap.size + 1 + 1, 14, none⟩ (.int .i64 rv) := ⟨_, rfl⟩
  rw [← hW6] at u1 u2 u3
  have HW6 : Hid (W6 = _) := hW6
  clear hW6
  go_upto_region 8 with fail
  rw [← HW6.out]
  replace k1 := (u3.block (w.heap.size + 1) (heap_lt k1) (by omega)).trans k1
  clear HW6 c13 c14 f13 f14 t1 t2 u3
  have q0 := at_cell u1 0
  have q1 := at_cell u1 1
  have q2 := at_cell u1 2
  have q3 := at_cell u1 3
  have q4 := at_cell u1 4
  have q5 := at_cell u1 5
  have q6 := at_cell u1 6
  have q7 := at_cell u1 7
  have q8 := at_cell u1 8
  have q9 := at_cell u1 9
  have q10 := at_cell u1 10
  have q11 := at_cell u1 11
  have q12 := at_cell u1 12
  have q13 := at_cell u1 13
  have q14 := at_cell u1 14
  have g0 := at_open k1 0
  have g1 := at_open k1 1
  have g2 := at_open k1 2
  have g3 := at_open k1 3
  have g4 := at_open k1 4
  have g5 := at_open k1 5
  have g6 := at_open k1 6
  have g7 := at_open k1 7
  have g8 := at_open k1 8
  have g9 := at_open k1 9
  have g10 := at_open k1 10
  have g11 := at_open k1 11
  have g12 := at_open k1 12
  have g13 := at_open k1 13
  have g14 := at_open k1 14
  have r0 := at_cell k1 0
  have r1 := at_cell k1 1
  have r2 := at_cell k1 2
  have r3 := at_cell k1 3
  have r4 := at_cell k1 4
  have r5 := at_cell k1 5
  have r6 := at_cell k1 6
  have r7 := at_cell k1 7
  have r8 := at_cell k1 8
  have r9 := at_cell k1 9
  have r10 := at_cell k1 10
  have r11 := at_cell k1 11
  have r12 := at_cell k1 12
  have r13 := at_cell k1 13
  have r14 := at_cell k1 14
  have HS : Hid _ := putF (b := w.heap.size + 1) (by omega) k1 u2 (.int .i64 kd) (.int .i64 ds) (.int .i64 vw) (.int .i64 sq) (.int .i64 cl) (.int .i64 tg) (.int .i64 k) (.string nm) (.string ot) (.int .i64 at_) (.int .i64 va) (.int .i64 ep) (.int .i64 s) (.int .i64 rc) (.int .i64 rv)
  clear k1 u1 u2 z1
  go_wp2_with fail
  exact bodyPost_ret (v := .agg #[.int .i64 kd, .int .i64 ds, .int .i64 vw, .int .i64 sq, .int .i64 cl, .int .i64 tg, .int .i64 k, .string nm, .string ot, .int .i64 at_, .int .i64 va, .int .i64 ep, .int .i64 s, .int .i64 rc, .int .i64 rv]) (by simp [results, Try.results58, go_sem, at_cell HS.out.1]) rfl ⟨rfl, HS.out.2.1⟩
end Go.Proofs.Ytghhphhnalfjaaa

namespace Go.Proofs.Ytghhphhnalfjaaa
open Go.RowKit

set_option linter.unusedVariables false

set_option maxRecDepth 100000


set_option maxHeartbeats 800000 in
theorem eqReply_same (c v : Int) (w : World) :
    Calls Try.prog 61 #[.agg #[.int .i64 c, .int .i64 v], .agg #[.int .i64 c, .int .i64 v]] w fun e w' => e = .returned (.bool true) ∧ Below w.heap.size w w' := by
  obtain ⟨W0, hW0, kA, kB, d0, z0⟩ := box2 w #[.int .i64 c, .int .i64 v] #[.int .i64 c, .int .i64 v] 36 36
  have HW0 : Hid (W0 = _) := hW0
  have a0 := at_cell kA 0
  have a1 := at_cell kA 1
  have b0 := at_cell kB 0
  have b1 := at_cell kB 1
  have hs1 : (c != c) = false := by simp
  have hs2 : (v != v) = false := by simp
  clear hW0 z0
  go_enter Try.func61, Try.ntmps61
  go_upto_region 1 with fail
  rw [← HW0.out]
  clear HW0
  go_wp2_with fail
  go_ret
  exact ⟨rfl, d0⟩
end Go.Proofs.Ytghhphhnalfjaaa

namespace Go.Proofs.Ytghhphhnalfjaaa
open Go.ChangeShapes Go.WideShapes Go.ChangeAt Go.RowKit Go.Deep Go.Joins

set_option linter.unusedVariables false

set_option maxRecDepth 100000


theorem mg_cells {B : Nat} {w : World} {o : Option Addr} {l : List Mg} (hc : ∀ i x, l[i]? = some x → ∃ g off, o = some ⟨g, off, none⟩ ∧ g < B ∧ ∀ j u, (mgC x)[j]? = some u → w.cell? ⟨g, off + i * 15 + j, none⟩ = some u) (i : Nat) (hi : i < l.length) :
    ∃ g off, o = some ⟨g, off, none⟩ ∧ g < B ∧ w.cell? ⟨g, off + i * 15, none⟩ = some (.int .i64 l[i].kd) ∧ w.cell? ⟨g, off + i * 15 + 1, none⟩ = some (.int .i64 l[i].ds) ∧ w.cell? ⟨g, off + i * 15 + 2, none⟩ = some (.int .i64 l[i].vw) ∧ w.cell? ⟨g, off + i * 15 + 3, none⟩ = some (.int .i64 l[i].e.sq) ∧ w.cell? ⟨g, off + i * 15 + 4, none⟩ = some (.int .i64 l[i].e.cl) ∧ w.cell? ⟨g, off + i * 15 + 5, none⟩ = some (.int .i64 l[i].e.tg) ∧ w.cell? ⟨g, off + i * 15 + 6, none⟩ = some (.int .i64 l[i].e.o.k) ∧ w.cell? ⟨g, off + i * 15 + 7, none⟩ = some (.string l[i].e.o.nm) ∧ w.cell? ⟨g, off + i * 15 + 8, none⟩ = some (.string l[i].e.o.ot) ∧ w.cell? ⟨g, off + i * 15 + 9, none⟩ = some (.int .i64 l[i].e.o.at_) ∧ w.cell? ⟨g, off + i * 15 + 10, none⟩ = some (.int .i64 l[i].e.o.va) ∧ w.cell? ⟨g, off + i * 15 + 11, none⟩ = some (.int .i64 l[i].e.o.ep) ∧ w.cell? ⟨g, off + i * 15 + 12, none⟩ = some (.int .i64 l[i].s) ∧ w.cell? ⟨g, off + i * 15 + 13, none⟩ = some (.int .i64 l[i].rc) ∧ w.cell? ⟨g, off + i * 15 + 14, none⟩ = some (.int .i64 l[i].rv) := by
  obtain ⟨g, off, e, hg, h⟩ := hc i _ (List.getElem?_eq_getElem hi)
  exact ⟨g, off, e, hg, h 0 _ rfl, h 1 _ rfl, h 2 _ rfl, h 3 _ rfl, h 4 _ rfl, h 5 _ rfl, h 6 _ rfl, h 7 _ rfl, h 8 _ rfl, h 9 _ rfl, h 10 _ rfl, h 11 _ rfl, h 12 _ rfl, h 13 _ rfl, h 14 _ rfl⟩

theorem Try.infoMsg : (Try.prog.info? 38).map (fun i => (i.zero, i.size, i.bytes)) = some (some (.agg #[.int .i64 0, .int .i64 0, .int .i64 0, .int .i64 0, .int .i64 0, .int .i64 0, .int .i64 0, .string ByteArray.empty, .string ByteArray.empty, .int .i64 0, .int .i64 0, .int .i64 0, .int .i64 0, .int .i64 0, .int .i64 0]), 15, 136) := by kernel_rfl

/-- make([]impl.Msg, n): a row of zero letters, at the end of memory. -/
theorem made_msgs (n : Nat) (hn : n ≤ 1048576) : ∃ M : Array Value, (∀ W : World, (Instr.makeSlice 24 (.int .i64 (n : Int)) (.int .i64 (n : Int))).run Try.prog W = .ok (.slice (some ⟨W.heap.size, 0, none⟩) n n) (W.alloc (.cells M 38))) ∧
    ∀ (W : World) (base : Nat), base ≤ W.heap.size → (W.alloc (.cells M 38)).ownsRow base 38 15 (.slice (some ⟨W.heap.size, 0, none⟩) n n) (List.replicate n Mg.zero).length ((List.replicate n Mg.zero).flatMap mgC) := by
  obtain ⟨i0, hi, hz0, hz1, hz2⟩ := info_parts Try.infoMsg
  have e := toList_made (cs := mgC) mgC_len (by omega) Mg.zero (Value.agg #[.int .i64 0, .int .i64 0, .int .i64 0, .int .i64 0, .int .i64 0, .int .i64 0, .int .i64 0, .string ByteArray.empty, .string ByteArray.empty, .int .i64 0, .int .i64 0, .int .i64 0, .int .i64 0, .int .i64 0, .int .i64 0]).cells rfl n
  refine ⟨madeCells (Value.agg #[.int .i64 0, .int .i64 0, .int .i64 0, .int .i64 0, .int .i64 0, .int .i64 0, .int .i64 0, .string ByteArray.empty, .string ByteArray.empty, .int .i64 0, .int .i64 0, .int .i64 0, .int .i64 0, .int .i64 0, .int .i64 0]).cells (n * 15), fun W => ?_, fun W base hb => ?_⟩
  · have h := run_make (P := Try.prog) W 24 38 i0 (.agg #[.int .i64 0, .int .i64 0, .int .i64 0, .int .i64 0, .int .i64 0, .int .i64 0, .int .i64 0, .string ByteArray.empty, .string ByteArray.empty, .int .i64 0, .int .i64 0, .int .i64 0, .int .i64 0, .int .i64 0, .int .i64 0]) Try.underlying24 hi hz0 .i64 .i64 (n : Int) (n : Int) (by omega) (by omega) (by rw [hz2]; omega) (by omega)
    rw [hz1, Int.toNat_natCast] at h
    simpa using h
  · have h := World.ownsRow_lit (base := base) (size := 15) (e := 38) W (madeCells (Value.agg #[.int .i64 0, .int .i64 0, .int .i64 0, .int .i64 0, .int .i64 0, .int .i64 0, .int .i64 0, .string ByteArray.empty, .string ByteArray.empty, .int .i64 0, .int .i64 0, .int .i64 0, .int .i64 0, .int .i64 0, .int .i64 0]).cells (n * 15)) n hb (by unfold maxLen; omega) (by rw [size_madeCells])
    rw [e] at h
    rwa [List.length_replicate]

/-- A whole letter is written. -/
theorem own_msg {w : World} {base g n cap : Nat} {xs : List Mg} (h : w.ownsRow base 38 15 (.slice (some ⟨g, 0, none⟩) n cap) xs.length (xs.flatMap mgC)) (i : Nat) (hi : i < xs.length) (y : Mg) :
    (((((((((((((((w.setCell ⟨g, i * 15, none⟩ (.int .i64 y.kd)).setCell ⟨g, i * 15 + 1, none⟩ (.int .i64 y.ds)).setCell ⟨g, i * 15 + 2, none⟩ (.int .i64 y.vw)).setCell ⟨g, i * 15 + 3, none⟩ (.int .i64 y.e.sq)).setCell ⟨g, i * 15 + 4, none⟩ (.int .i64 y.e.cl)).setCell ⟨g, i * 15 + 5, none⟩ (.int .i64 y.e.tg)).setCell ⟨g, i * 15 + 6, none⟩ (.int .i64 y.e.o.k)).setCell ⟨g, i * 15 + 7, none⟩ (.string y.e.o.nm)).setCell ⟨g, i * 15 + 8, none⟩ (.string y.e.o.ot)).setCell ⟨g, i * 15 + 9, none⟩ (.int .i64 y.e.o.at_)).setCell ⟨g, i * 15 + 10, none⟩ (.int .i64 y.e.o.va)).setCell ⟨g, i * 15 + 11, none⟩ (.int .i64 y.e.o.ep)).setCell ⟨g, i * 15 + 12, none⟩ (.int .i64 y.s)).setCell ⟨g, i * 15 + 13, none⟩ (.int .i64 y.rc)).setCell ⟨g, i * 15 + 14, none⟩ (.int .i64 y.rv)).ownsRow base 38 15 (.slice (some ⟨g, 0, none⟩) n cap) (xs.set i y).length ((xs.set i y).flatMap mgC) := by
  obtain ⟨x, hx⟩ : ∃ x, xs[i] = x := ⟨_, rfl⟩
  have hxi : xs[i]? = some x := by rw [List.getElem?_eq_getElem hi, hx]
  have h0 := own_put mgC_len h i 0 x ⟨y.kd, x.ds, x.vw, ⟨x.e.sq, x.e.cl, x.e.tg, ⟨x.e.o.k, x.e.o.nm, x.e.o.ot, x.e.o.at_, x.e.o.va, x.e.o.ep⟩⟩, x.s, x.rc, x.rv⟩ (.int .i64 y.kd) hxi (by omega) rfl
  have h1 := own_put mgC_len h0 i 1 ⟨y.kd, x.ds, x.vw, ⟨x.e.sq, x.e.cl, x.e.tg, ⟨x.e.o.k, x.e.o.nm, x.e.o.ot, x.e.o.at_, x.e.o.va, x.e.o.ep⟩⟩, x.s, x.rc, x.rv⟩ ⟨y.kd, y.ds, x.vw, ⟨x.e.sq, x.e.cl, x.e.tg, ⟨x.e.o.k, x.e.o.nm, x.e.o.ot, x.e.o.at_, x.e.o.va, x.e.o.ep⟩⟩, x.s, x.rc, x.rv⟩ (.int .i64 y.ds) (by simp [hi]) (by omega) rfl
  have h2 := own_put mgC_len h1 i 2 ⟨y.kd, y.ds, x.vw, ⟨x.e.sq, x.e.cl, x.e.tg, ⟨x.e.o.k, x.e.o.nm, x.e.o.ot, x.e.o.at_, x.e.o.va, x.e.o.ep⟩⟩, x.s, x.rc, x.rv⟩ ⟨y.kd, y.ds, y.vw, ⟨x.e.sq, x.e.cl, x.e.tg, ⟨x.e.o.k, x.e.o.nm, x.e.o.ot, x.e.o.at_, x.e.o.va, x.e.o.ep⟩⟩, x.s, x.rc, x.rv⟩ (.int .i64 y.vw) (by simp [hi]) (by omega) rfl
  have h3 := own_put mgC_len h2 i 3 ⟨y.kd, y.ds, y.vw, ⟨x.e.sq, x.e.cl, x.e.tg, ⟨x.e.o.k, x.e.o.nm, x.e.o.ot, x.e.o.at_, x.e.o.va, x.e.o.ep⟩⟩, x.s, x.rc, x.rv⟩ ⟨y.kd, y.ds, y.vw, ⟨y.e.sq, x.e.cl, x.e.tg, ⟨x.e.o.k, x.e.o.nm, x.e.o.ot, x.e.o.at_, x.e.o.va, x.e.o.ep⟩⟩, x.s, x.rc, x.rv⟩ (.int .i64 y.e.sq) (by simp [hi]) (by omega) rfl
  have h4 := own_put mgC_len h3 i 4 ⟨y.kd, y.ds, y.vw, ⟨y.e.sq, x.e.cl, x.e.tg, ⟨x.e.o.k, x.e.o.nm, x.e.o.ot, x.e.o.at_, x.e.o.va, x.e.o.ep⟩⟩, x.s, x.rc, x.rv⟩ ⟨y.kd, y.ds, y.vw, ⟨y.e.sq, y.e.cl, x.e.tg, ⟨x.e.o.k, x.e.o.nm, x.e.o.ot, x.e.o.at_, x.e.o.va, x.e.o.ep⟩⟩, x.s, x.rc, x.rv⟩ (.int .i64 y.e.cl) (by simp [hi]) (by omega) rfl
  have h5 := own_put mgC_len h4 i 5 ⟨y.kd, y.ds, y.vw, ⟨y.e.sq, y.e.cl, x.e.tg, ⟨x.e.o.k, x.e.o.nm, x.e.o.ot, x.e.o.at_, x.e.o.va, x.e.o.ep⟩⟩, x.s, x.rc, x.rv⟩ ⟨y.kd, y.ds, y.vw, ⟨y.e.sq, y.e.cl, y.e.tg, ⟨x.e.o.k, x.e.o.nm, x.e.o.ot, x.e.o.at_, x.e.o.va, x.e.o.ep⟩⟩, x.s, x.rc, x.rv⟩ (.int .i64 y.e.tg) (by simp [hi]) (by omega) rfl
  have h6 := own_put mgC_len h5 i 6 ⟨y.kd, y.ds, y.vw, ⟨y.e.sq, y.e.cl, y.e.tg, ⟨x.e.o.k, x.e.o.nm, x.e.o.ot, x.e.o.at_, x.e.o.va, x.e.o.ep⟩⟩, x.s, x.rc, x.rv⟩ ⟨y.kd, y.ds, y.vw, ⟨y.e.sq, y.e.cl, y.e.tg, ⟨y.e.o.k, x.e.o.nm, x.e.o.ot, x.e.o.at_, x.e.o.va, x.e.o.ep⟩⟩, x.s, x.rc, x.rv⟩ (.int .i64 y.e.o.k) (by simp [hi]) (by omega) rfl
  have h7 := own_put mgC_len h6 i 7 ⟨y.kd, y.ds, y.vw, ⟨y.e.sq, y.e.cl, y.e.tg, ⟨y.e.o.k, x.e.o.nm, x.e.o.ot, x.e.o.at_, x.e.o.va, x.e.o.ep⟩⟩, x.s, x.rc, x.rv⟩ ⟨y.kd, y.ds, y.vw, ⟨y.e.sq, y.e.cl, y.e.tg, ⟨y.e.o.k, y.e.o.nm, x.e.o.ot, x.e.o.at_, x.e.o.va, x.e.o.ep⟩⟩, x.s, x.rc, x.rv⟩ (.string y.e.o.nm) (by simp [hi]) (by omega) rfl
  have h8 := own_put mgC_len h7 i 8 ⟨y.kd, y.ds, y.vw, ⟨y.e.sq, y.e.cl, y.e.tg, ⟨y.e.o.k, y.e.o.nm, x.e.o.ot, x.e.o.at_, x.e.o.va, x.e.o.ep⟩⟩, x.s, x.rc, x.rv⟩ ⟨y.kd, y.ds, y.vw, ⟨y.e.sq, y.e.cl, y.e.tg, ⟨y.e.o.k, y.e.o.nm, y.e.o.ot, x.e.o.at_, x.e.o.va, x.e.o.ep⟩⟩, x.s, x.rc, x.rv⟩ (.string y.e.o.ot) (by simp [hi]) (by omega) rfl
  have h9 := own_put mgC_len h8 i 9 ⟨y.kd, y.ds, y.vw, ⟨y.e.sq, y.e.cl, y.e.tg, ⟨y.e.o.k, y.e.o.nm, y.e.o.ot, x.e.o.at_, x.e.o.va, x.e.o.ep⟩⟩, x.s, x.rc, x.rv⟩ ⟨y.kd, y.ds, y.vw, ⟨y.e.sq, y.e.cl, y.e.tg, ⟨y.e.o.k, y.e.o.nm, y.e.o.ot, y.e.o.at_, x.e.o.va, x.e.o.ep⟩⟩, x.s, x.rc, x.rv⟩ (.int .i64 y.e.o.at_) (by simp [hi]) (by omega) rfl
  have h10 := own_put mgC_len h9 i 10 ⟨y.kd, y.ds, y.vw, ⟨y.e.sq, y.e.cl, y.e.tg, ⟨y.e.o.k, y.e.o.nm, y.e.o.ot, y.e.o.at_, x.e.o.va, x.e.o.ep⟩⟩, x.s, x.rc, x.rv⟩ ⟨y.kd, y.ds, y.vw, ⟨y.e.sq, y.e.cl, y.e.tg, ⟨y.e.o.k, y.e.o.nm, y.e.o.ot, y.e.o.at_, y.e.o.va, x.e.o.ep⟩⟩, x.s, x.rc, x.rv⟩ (.int .i64 y.e.o.va) (by simp [hi]) (by omega) rfl
  have h11 := own_put mgC_len h10 i 11 ⟨y.kd, y.ds, y.vw, ⟨y.e.sq, y.e.cl, y.e.tg, ⟨y.e.o.k, y.e.o.nm, y.e.o.ot, y.e.o.at_, y.e.o.va, x.e.o.ep⟩⟩, x.s, x.rc, x.rv⟩ ⟨y.kd, y.ds, y.vw, ⟨y.e.sq, y.e.cl, y.e.tg, ⟨y.e.o.k, y.e.o.nm, y.e.o.ot, y.e.o.at_, y.e.o.va, y.e.o.ep⟩⟩, x.s, x.rc, x.rv⟩ (.int .i64 y.e.o.ep) (by simp [hi]) (by omega) rfl
  have h12 := own_put mgC_len h11 i 12 ⟨y.kd, y.ds, y.vw, ⟨y.e.sq, y.e.cl, y.e.tg, ⟨y.e.o.k, y.e.o.nm, y.e.o.ot, y.e.o.at_, y.e.o.va, y.e.o.ep⟩⟩, x.s, x.rc, x.rv⟩ ⟨y.kd, y.ds, y.vw, ⟨y.e.sq, y.e.cl, y.e.tg, ⟨y.e.o.k, y.e.o.nm, y.e.o.ot, y.e.o.at_, y.e.o.va, y.e.o.ep⟩⟩, y.s, x.rc, x.rv⟩ (.int .i64 y.s) (by simp [hi]) (by omega) rfl
  have h13 := own_put mgC_len h12 i 13 ⟨y.kd, y.ds, y.vw, ⟨y.e.sq, y.e.cl, y.e.tg, ⟨y.e.o.k, y.e.o.nm, y.e.o.ot, y.e.o.at_, y.e.o.va, y.e.o.ep⟩⟩, y.s, x.rc, x.rv⟩ ⟨y.kd, y.ds, y.vw, ⟨y.e.sq, y.e.cl, y.e.tg, ⟨y.e.o.k, y.e.o.nm, y.e.o.ot, y.e.o.at_, y.e.o.va, y.e.o.ep⟩⟩, y.s, y.rc, x.rv⟩ (.int .i64 y.rc) (by simp [hi]) (by omega) rfl
  have h14 := own_put mgC_len h13 i 14 ⟨y.kd, y.ds, y.vw, ⟨y.e.sq, y.e.cl, y.e.tg, ⟨y.e.o.k, y.e.o.nm, y.e.o.ot, y.e.o.at_, y.e.o.va, y.e.o.ep⟩⟩, y.s, y.rc, x.rv⟩ y (.int .i64 y.rv) (by simp [hi]) (by omega) rfl
  rw [List.set_set, List.set_set, List.set_set, List.set_set, List.set_set, List.set_set, List.set_set, List.set_set, List.set_set, List.set_set, List.set_set, List.set_set, List.set_set, List.set_set] at h14
  exact h14

theorem own_fifteen {w : World} {base g n cap : Nat} {xs : List Mg} (h : w.ownsRow base 38 15 (.slice (some ⟨g, 0, none⟩) n cap) xs.length (xs.flatMap mgC)) (i : Nat) (hi : i < xs.length) :
    (w.cell? ⟨g, i * 15, none⟩ = some (.int .i64 xs[i].kd) ∧ w.cell? ⟨g, i * 15 + 1, none⟩ = some (.int .i64 xs[i].ds) ∧ w.cell? ⟨g, i * 15 + 2, none⟩ = some (.int .i64 xs[i].vw) ∧ w.cell? ⟨g, i * 15 + 3, none⟩ = some (.int .i64 xs[i].e.sq) ∧ w.cell? ⟨g, i * 15 + 4, none⟩ = some (.int .i64 xs[i].e.cl) ∧ w.cell? ⟨g, i * 15 + 5, none⟩ = some (.int .i64 xs[i].e.tg) ∧ w.cell? ⟨g, i * 15 + 6, none⟩ = some (.int .i64 xs[i].e.o.k) ∧ w.cell? ⟨g, i * 15 + 7, none⟩ = some (.string xs[i].e.o.nm) ∧ w.cell? ⟨g, i * 15 + 8, none⟩ = some (.string xs[i].e.o.ot) ∧ w.cell? ⟨g, i * 15 + 9, none⟩ = some (.int .i64 xs[i].e.o.at_) ∧ w.cell? ⟨g, i * 15 + 10, none⟩ = some (.int .i64 xs[i].e.o.va) ∧ w.cell? ⟨g, i * 15 + 11, none⟩ = some (.int .i64 xs[i].e.o.ep) ∧ w.cell? ⟨g, i * 15 + 12, none⟩ = some (.int .i64 xs[i].s) ∧ w.cell? ⟨g, i * 15 + 13, none⟩ = some (.int .i64 xs[i].rc) ∧ w.cell? ⟨g, i * 15 + 14, none⟩ = some (.int .i64 xs[i].rv)) ∧ w.frozen? ⟨g, i * 15, none⟩ = false ∧ w.frozen? ⟨g, i * 15 + 1, none⟩ = false ∧ w.frozen? ⟨g, i * 15 + 2, none⟩ = false ∧ w.frozen? ⟨g, i * 15 + 3, none⟩ = false ∧ w.frozen? ⟨g, i * 15 + 4, none⟩ = false ∧ w.frozen? ⟨g, i * 15 + 5, none⟩ = false ∧ w.frozen? ⟨g, i * 15 + 6, none⟩ = false ∧ w.frozen? ⟨g, i * 15 + 7, none⟩ = false ∧ w.frozen? ⟨g, i * 15 + 8, none⟩ = false ∧ w.frozen? ⟨g, i * 15 + 9, none⟩ = false ∧ w.frozen? ⟨g, i * 15 + 10, none⟩ = false ∧ w.frozen? ⟨g, i * 15 + 11, none⟩ = false ∧ w.frozen? ⟨g, i * 15 + 12, none⟩ = false ∧ w.frozen? ⟨g, i * 15 + 13, none⟩ = false ∧ w.frozen? ⟨g, i * 15 + 14, none⟩ = false := by
  obtain ⟨a0, b0⟩ := own_cell mgC_len h i 0 _ (List.getElem?_eq_getElem hi) (by omega)
  obtain ⟨a1, b1⟩ := own_cell mgC_len h i 1 _ (List.getElem?_eq_getElem hi) (by omega)
  obtain ⟨a2, b2⟩ := own_cell mgC_len h i 2 _ (List.getElem?_eq_getElem hi) (by omega)
  obtain ⟨a3, b3⟩ := own_cell mgC_len h i 3 _ (List.getElem?_eq_getElem hi) (by omega)
  obtain ⟨a4, b4⟩ := own_cell mgC_len h i 4 _ (List.getElem?_eq_getElem hi) (by omega)
  obtain ⟨a5, b5⟩ := own_cell mgC_len h i 5 _ (List.getElem?_eq_getElem hi) (by omega)
  obtain ⟨a6, b6⟩ := own_cell mgC_len h i 6 _ (List.getElem?_eq_getElem hi) (by omega)
  obtain ⟨a7, b7⟩ := own_cell mgC_len h i 7 _ (List.getElem?_eq_getElem hi) (by omega)
  obtain ⟨a8, b8⟩ := own_cell mgC_len h i 8 _ (List.getElem?_eq_getElem hi) (by omega)
  obtain ⟨a9, b9⟩ := own_cell mgC_len h i 9 _ (List.getElem?_eq_getElem hi) (by omega)
  obtain ⟨a10, b10⟩ := own_cell mgC_len h i 10 _ (List.getElem?_eq_getElem hi) (by omega)
  obtain ⟨a11, b11⟩ := own_cell mgC_len h i 11 _ (List.getElem?_eq_getElem hi) (by omega)
  obtain ⟨a12, b12⟩ := own_cell mgC_len h i 12 _ (List.getElem?_eq_getElem hi) (by omega)
  obtain ⟨a13, b13⟩ := own_cell mgC_len h i 13 _ (List.getElem?_eq_getElem hi) (by omega)
  obtain ⟨a14, b14⟩ := own_cell mgC_len h i 14 _ (List.getElem?_eq_getElem hi) (by omega)
  exact ⟨⟨a0, a1, a2, a3, a4, a5, a6, a7, a8, a9, a10, a11, a12, a13, a14⟩, b0, b1, b2, b3, b4, b5, b6, b7, b8, b9, b10, b11, b12, b13, b14⟩

set_option maxHeartbeats 3200000 in
theorem szMsgs_any (v : Value) (l : List Mg) (left : Int) (w : World) (h0 : 0 ≤ left) (hl : left ≤ 1048576) (hf : FitPost l) (r : ReadsR 15 mgC w.heap.size w v l) :
    Calls Try.prog 22 #[v, .int .i64 left] w fun e w' => ∃ q : Int, e = .returned (.int .i64 q) ∧ (q = -1 ∨ (0 ≤ q ∧ q ≤ left ∧ l.length ≤ 1048576)) ∧ Below w.heap.size w w' := by
  have HF : Hid _ := hf
  obtain ⟨o, cap, rfl, hm, hc, -⟩ := r
  have HC : Hid _ := mg_cells hc
  unfold maxLen at hm
  clear hc hf
  by_cases hbig : left < (l.length : Int)
  · have h1 : left - (l.length : Int) < 0 := by omega
    go_enter Try.func22, Try.ntmps22
    go_wp2_with fail
    go_ret
    exact ⟨-1, rfl, .inl rfl, Below.refl _ _⟩
  · have h1 : 0 ≤ left - (l.length : Int) := by omega
    go_enter Try.func22, Try.ntmps22
    go_wp2_with fail
    go_loopw [1, 5] (fun q i wr => ∃ (k : Nat) (p : Int), k ≤ l.length ∧ i = .int .i64 k ∧ q = .int .i64 p ∧ (0 ≤ p ∧ p ≤ left) ∧ Below w.heap.size w wr) (fun _ i _ => l.length - (intOf i).toNat)
    case atStart => exact ⟨0, left - (l.length : Int), Nat.zero_le _, rfl, rfl, by omega, Below.refl _ _⟩
    case round =>
      obtain ⟨kk, p, hk, rfl, rfl, hlq, hb⟩ := hrel
      by_cases hlt : kk < l.length
      · obtain ⟨g, off, rfl, hg, a0, a1, a2, a3, a4, a5, a6, a7, a8, a9, a10, a11, a12, a13, a14⟩ := HC.out kk hlt
        have hfe := (HF.out l[kk] (List.getElem_mem hlt)).1
        generalize l[kk] = x at a0 a1 a2 a3 a4 a5 a6 a7 a8 a9 a10 a11 a12 a13 a14 hfe
        obtain ⟨kd, ds, vw, ⟨sq, cl, tg, ⟨k, nm, ot, at_, va, ep⟩⟩, s, rc, rv⟩ := x
        simp only at a0 a1 a2 a3 a4 a5 a6 a7 a8 a9 a10 a11 a12 a13 a14
        obtain ⟨⟨hn, ho⟩, -⟩ := hfe
        simp only at hn ho
        replace a0 := (hb.cell (p := ⟨g, off + kk * 15, none⟩) hg).trans a0
        replace a1 := (hb.cell (p := ⟨g, off + kk * 15 + 1, none⟩) hg).trans a1
        replace a2 := (hb.cell (p := ⟨g, off + kk * 15 + 2, none⟩) hg).trans a2
        replace a3 := (hb.cell (p := ⟨g, off + kk * 15 + 3, none⟩) hg).trans a3
        replace a4 := (hb.cell (p := ⟨g, off + kk * 15 + 4, none⟩) hg).trans a4
        replace a5 := (hb.cell (p := ⟨g, off + kk * 15 + 5, none⟩) hg).trans a5
        replace a6 := (hb.cell (p := ⟨g, off + kk * 15 + 6, none⟩) hg).trans a6
        replace a7 := (hb.cell (p := ⟨g, off + kk * 15 + 7, none⟩) hg).trans a7
        replace a8 := (hb.cell (p := ⟨g, off + kk * 15 + 8, none⟩) hg).trans a8
        replace a9 := (hb.cell (p := ⟨g, off + kk * 15 + 9, none⟩) hg).trans a9
        replace a10 := (hb.cell (p := ⟨g, off + kk * 15 + 10, none⟩) hg).trans a10
        replace a11 := (hb.cell (p := ⟨g, off + kk * 15 + 11, none⟩) hg).trans a11
        replace a12 := (hb.cell (p := ⟨g, off + kk * 15 + 12, none⟩) hg).trans a12
        replace a13 := (hb.cell (p := ⟨g, off + kk * 15 + 13, none⟩) hg).trans a13
        replace a14 := (hb.cell (p := ⟨g, off + kk * 15 + 14, none⟩) hg).trans a14
        clear HC HF
        go_wp2_with fail
        refine (szMsg_any kd ds vw sq cl tg k nm ot at_ va ep s rc rv p _ hn ho hlq.1 (by omega)).mono ?_
        rintro e w1 ⟨q, rfl, hq, b1⟩
        replace hb := bw_call hb b1
        clear a0 a1 a2 a3 a4 a5 a6 a7 a8 a9 a10 a11 a12 a13 a14 b1
        rcases hq with rfl | ⟨hq0, hq1, -, -⟩
        · go_wp2_with fail
          go_ret
          exact ⟨-1, rfl, .inl rfl, hb⟩
        · go_wp2_with fail
          go_roundw
          case rel => exact ⟨kk + 1, q, by omega, by go_num, rfl, by omega, hb⟩
          case measure => simp [intOf]; omega
      · clear HC HF
        go_wp2_with fail
        go_ret
        exact ⟨p, rfl, .inr ⟨hlq.1, hlq.2, by omega⟩, hb⟩

set_option maxHeartbeats 6400000 in
theorem toMsgs_any (v : Value) (bs : List Mg) (w : World) (hn : bs.length ≤ 1048576) (r : ReadsR 15 mgC w.heap.size w v bs) :
    Calls Try.prog 23 #[v] w fun e w' => e = .returned (.slice (some ⟨w.heap.size, 0, none⟩) bs.length bs.length) ∧ w'.ownsRow w.heap.size 38 15 (.slice (some ⟨w.heap.size, 0, none⟩) bs.length bs.length) bs.length (bs.flatMap mgC) ∧ Below w.heap.size w w' := by
  obtain ⟨o, cap, rfl, hm, hc, -⟩ := r
  have HC : Hid _ := mg_cells hc
  obtain ⟨M, hmk, hown⟩ := made_msgs bs.length hn
  have own0 := hown w w.heap.size (Nat.le_refl _)
  have bd0 : Below w.heap.size w (w.alloc (.cells M 38)) := bw_alloc (Below.refl _ _)
  clear hown hc hm
  go_enter Try.func23, Try.ntmps23
  go_wp2_with fail
  generalize w.alloc (.cells M 38) = W0 at own0 bd0 ⊢
  generalize hzs : List.replicate bs.length Mg.zero = zs at own0
  have hzl : zs.length = bs.length := by rw [← hzs]; simp
  clear hmk hzs
  go_loopw [4] (fun i wr => ∃ j : Nat, j ≤ bs.length ∧ i = .int .i64 j ∧ wr.ownsRow w.heap.size 38 15 (.slice (some ⟨w.heap.size, 0, none⟩) bs.length bs.length) (bs.take j ++ zs.drop j).length ((bs.take j ++ zs.drop j).flatMap mgC) ∧ Below w.heap.size w wr ∧ w.heap.size < wr.heap.size) (fun i _ => bs.length - (intOf i).toNat)
  case atStart => exact ⟨0, Nat.zero_le _, rfl, by simpa using own0, bd0, (own0.lt _ rfl).2⟩
  case round =>
    obtain ⟨j, hj, rfl, own, hb, hsz⟩ := hrel
    by_cases hlt : j < bs.length
    · obtain ⟨g, off, rfl, hg, a0, a1, a2, a3, a4, a5, a6, a7, a8, a9, a10, a11, a12, a13, a14⟩ := HC.out j hlt
      have hset : (bs.take j ++ zs.drop j).set j bs[j] = bs.take (j + 1) ++ zs.drop (j + 1) := by
        rw [List.set_append_right _ _ (by rw [List.length_take]; omega), List.length_take, Nat.min_eq_left (by omega), Nat.sub_self, List.drop_eq_getElem_cons (show j < zs.length by omega), List.set_cons_zero, List.take_succ_eq_append_getElem hlt, List.append_assoc]
        rfl
      obtain ⟨x, hx⟩ : ∃ x, bs[j] = x := ⟨_, rfl⟩
      rw [hx] at a0 a1 a2 a3 a4 a5 a6 a7 a8 a9 a10 a11 a12 a13 a14 hset
      clear hx HC
      obtain ⟨kd, ds, vw, ⟨sq, cl, tg, ⟨k, nm, ot, at_, va, ep⟩⟩, s, rc, rv⟩ := x
      simp only at a0 a1 a2 a3 a4 a5 a6 a7 a8 a9 a10 a11 a12 a13 a14
      replace a0 := (hb.cell (p := ⟨g, off + j * 15, none⟩) hg).trans a0
      replace a1 := (hb.cell (p := ⟨g, off + j * 15 + 1, none⟩) hg).trans a1
      replace a2 := (hb.cell (p := ⟨g, off + j * 15 + 2, none⟩) hg).trans a2
      replace a3 := (hb.cell (p := ⟨g, off + j * 15 + 3, none⟩) hg).trans a3
      replace a4 := (hb.cell (p := ⟨g, off + j * 15 + 4, none⟩) hg).trans a4
      replace a5 := (hb.cell (p := ⟨g, off + j * 15 + 5, none⟩) hg).trans a5
      replace a6 := (hb.cell (p := ⟨g, off + j * 15 + 6, none⟩) hg).trans a6
      replace a7 := (hb.cell (p := ⟨g, off + j * 15 + 7, none⟩) hg).trans a7
      replace a8 := (hb.cell (p := ⟨g, off + j * 15 + 8, none⟩) hg).trans a8
      replace a9 := (hb.cell (p := ⟨g, off + j * 15 + 9, none⟩) hg).trans a9
      replace a10 := (hb.cell (p := ⟨g, off + j * 15 + 10, none⟩) hg).trans a10
      replace a11 := (hb.cell (p := ⟨g, off + j * 15 + 11, none⟩) hg).trans a11
      replace a12 := (hb.cell (p := ⟨g, off + j * 15 + 12, none⟩) hg).trans a12
      replace a13 := (hb.cell (p := ⟨g, off + j * 15 + 13, none⟩) hg).trans a13
      replace a14 := (hb.cell (p := ⟨g, off + j * 15 + 14, none⟩) hg).trans a14
      have HO : Hid (wr.ownsRow w.heap.size 38 15 (.slice (some ⟨w.heap.size, 0, none⟩) bs.length bs.length) (bs.take j ++ zs.drop j).length ((bs.take j ++ zs.drop j).flatMap mgC)) := own
      clear own
      go_wp2_with fail
      refine (toMsg_any kd ds vw sq cl tg k nm ot at_ va ep s rc rv _).mono ?_
      rintro e w5 ⟨rfl, b5⟩
      have own5 := owns_below HO.out b5
      have hjl : j < (bs.take j ++ zs.drop j).length := by simp; omega
      obtain ⟨⟨t0, t1, t2, t3, t4, t5, t6, t7, t8, t9, t10, t11, t12, t13, t14⟩, u0, u1, u2, u3, u4, u5, u6, u7, u8, u9, u10, u11, u12, u13, u14⟩ := own_fifteen own5 j hjl
      have HST := own_msg own5 j hjl ⟨kd, ds, vw, ⟨sq, cl, tg, ⟨k, nm, ot, at_, va, ep⟩⟩, s, rc, rv⟩
      rw [hset] at HST
      simp only at HST
      have hs5 : w.heap.size < w5.heap.size := Nat.lt_of_lt_of_le hsz b5.size
      have uu : Upto w.heap.size w5 (((((((((((((((w5.setCell ⟨w.heap.size, j * 15, none⟩ (.int .i64 kd)).setCell ⟨w.heap.size, j * 15 + 1, none⟩ (.int .i64 ds)).setCell ⟨w.heap.size, j * 15 + 2, none⟩ (.int .i64 vw)).setCell ⟨w.heap.size, j * 15 + 3, none⟩ (.int .i64 sq)).setCell ⟨w.heap.size, j * 15 + 4, none⟩ (.int .i64 cl)).setCell ⟨w.heap.size, j * 15 + 5, none⟩ (.int .i64 tg)).setCell ⟨w.heap.size, j * 15 + 6, none⟩ (.int .i64 k)).setCell ⟨w.heap.size, j * 15 + 7, none⟩ (.string nm)).setCell ⟨w.heap.size, j * 15 + 8, none⟩ (.string ot)).setCell ⟨w.heap.size, j * 15 + 9, none⟩ (.int .i64 at_)).setCell ⟨w.heap.size, j * 15 + 10, none⟩ (.int .i64 va)).setCell ⟨w.heap.size, j * 15 + 11, none⟩ (.int .i64 ep)).setCell ⟨w.heap.size, j * 15 + 12, none⟩ (.int .i64 s)).setCell ⟨w.heap.size, j * 15 + 13, none⟩ (.int .i64 rc)).setCell ⟨w.heap.size, j * 15 + 14, none⟩ (.int .i64 rv)) := ((((((((((((((((Upto.refl _ _).setCell ⟨w.heap.size, j * 15, none⟩ (.inl rfl) _).setCell ⟨w.heap.size, j * 15 + 1, none⟩ (.inl rfl) _).setCell ⟨w.heap.size, j * 15 + 2, none⟩ (.inl rfl) _).setCell ⟨w.heap.size, j * 15 + 3, none⟩ (.inl rfl) _).setCell ⟨w.heap.size, j * 15 + 4, none⟩ (.inl rfl) _).setCell ⟨w.heap.size, j * 15 + 5, none⟩ (.inl rfl) _).setCell ⟨w.heap.size, j * 15 + 6, none⟩ (.inl rfl) _).setCell ⟨w.heap.size, j * 15 + 7, none⟩ (.inl rfl) _).setCell ⟨w.heap.size, j * 15 + 8, none⟩ (.inl rfl) _).setCell ⟨w.heap.size, j * 15 + 9, none⟩ (.inl rfl) _).setCell ⟨w.heap.size, j * 15 + 10, none⟩ (.inl rfl) _).setCell ⟨w.heap.size, j * 15 + 11, none⟩ (.inl rfl) _).setCell ⟨w.heap.size, j * 15 + 12, none⟩ (.inl rfl) _).setCell ⟨w.heap.size, j * 15 + 13, none⟩ (.inl rfl) _).setCell ⟨w.heap.size, j * 15 + 14, none⟩ (.inl rfl) _)
      have hbf := (bw_call hb b5).trans (uu.toBelow (Nat.le_of_lt hs5) (Nat.le_refl _))
      have HF : Hid _ := And.intro HST (And.intro hbf (Nat.lt_of_lt_of_le hs5 uu.size))
      generalize (bs.take j ++ zs.drop j)[j] = y at t0 t1 t2 t3 t4 t5 t6 t7 t8 t9 t10 t11 t12 t13 t14
      clear HST hbf uu own5 b5 HO hset hb hs5 a0 a1 a2 a3 a4 a5 a6 a7 a8 a9 a10 a11 a12 a13 a14
      go_wp2_with fail
      go_roundw
      case rel => exact ⟨j + 1, by omega, by go_num, HF.out⟩
      case measure => simp [intOf]; omega
    · have hjj : j = bs.length := by omega
      have HF : Hid (wr.ownsRow w.heap.size 38 15 (.slice (some ⟨w.heap.size, 0, none⟩) bs.length bs.length) bs.length (bs.flatMap mgC)) := by
        rw [hjj, List.take_length, List.drop_of_length_le (by omega), List.append_nil] at own
        exact own
      clear own
      go_wp2_with fail
      go_ret
      exact ⟨rfl, HF.out, hb⟩
end Go.Proofs.Ytghhphhnalfjaaa

namespace Go.Proofs.Ytghhphhnalfjaaa
open Go.ChangeShapes Go.WideShapes Go.ChangeAt Go.RowKit Go.Deep Go.Joins

set_option linter.unusedVariables false

set_option maxRecDepth 100000


theorem open_msgs {H : Type} {enc : TypeId × Value → H} {W : World} {base : Nat} {v : Value} {d : DataW H} {p : List MemPlace} (hv : Value.okWide Try.prog W .any base 45 v) (h : DataW.Trod enc Try.prog W 0 (fun _ => true) true 45 v d p) :
    ∃ bs : List Mg, ReadsR 15 mgC W.heap.size W v bs ∧ FitPost bs := by
  obtain ⟨o, len, cap, rfl⟩ := okWide_slice Try.underlying45 hv
  obtain ⟨n, hn⟩ := h
  rcases open_slice Try.underlying45 hn with ⟨hcs, _⟩ | ⟨a, len', cap', m, k, D, Pl, hcs, _, hl, hm, hmm, _, hx⟩
  · simp [Value.cells] at hcs
    obtain ⟨rfl, rfl, rfl⟩ := hcs
    exact ⟨[], ReadsR.nil _ _ _ _, fun b hb => by cases hb⟩
  · simp [Value.cells] at hcs
    obtain ⟨rfl, rfl, rfl⟩ := hcs
    have hlm : len ≤ m := by rw [hmm]; split <;> omega
    have ce : Try.prog.cellsOf 89 = 15 := by kernel_rfl
    have each : ∀ i, i < len → ∃ b : Mg, (∀ j u, (mgC b)[j]? = some u → W.cell? (a.add (i * 15 + j)) = some u) ∧ FitMsg b := by
      intro i hi
      obtain ⟨cs', h1, h2⟩ := hx i (by omega)
      rw [ce] at h1
      obtain ⟨_, hlen, hcell⟩ := World.cells?_some h1
      obtain ⟨b, rfl, hfit⟩ := msg_cells h2
      refine ⟨b, fun j u hj => ?_, hfit⟩
      have hj5 : j < 15 := by have := (List.getElem?_eq_some_iff.1 hj).1; rwa [mgC_len] at this
      have q := hcell j hj5
      rw [add_add] at q
      rw [q]
      exact hj
    have hin : Inhabited Mg := ⟨Mg.zero⟩
    obtain ⟨r, hr⟩ := choose_lt each
    refine ⟨(List.range len).map r, ⟨some a, cap, by simp, by simp; omega, fun i x hi => ?_, by simp; omega⟩, fun x hx => ?_⟩
    · have hil : i < len := by have := (List.getElem?_eq_some_iff.1 hi).1; simpa using this
      have ex : r i = x := by
        rw [List.getElem?_map, List.getElem?_range hil] at hi
        simpa using hi
      have h0 := (hr i hil).1
      rw [ex] at h0
      obtain ⟨b, off, spot⟩ := a
      have hspot : spot = none := by simpa [Addr.add] using World.cell?_spot ((hr 0 (by omega)).1 0 _ rfl)
      subst hspot
      have e : ∀ z, (⟨b, off, none⟩ : Addr).add z = ⟨b, off + z, none⟩ := fun z => by unfold Addr.add; split <;> simp_all
      have hb : b < W.heap.size := by
        have q := h0 0 _ rfl
        rw [e] at q
        rcases Nat.lt_or_ge b W.heap.size with g | g
        · exact g
        · simp [World.cell?, Array.getElem?_eq_none g] at q
      refine ⟨b, off, rfl, hb, fun j u hj => ?_⟩
      have q := h0 j u hj
      rw [e] at q
      rw [Nat.add_assoc]
      exact q
    · obtain ⟨i, hi, rfl⟩ := List.mem_map.1 hx
      exact (hr i (List.mem_range.1 hi)).2

set_option maxHeartbeats 1600000 in
theorem eqMsg_same (kd ds vw sq cl tg k : Int) (nm ot : ByteArray) (at_ va ep s rc rv : Int) (w : World) :
    Calls Try.prog 27 #[.agg #[.int .i64 kd, .int .i64 ds, .int .i64 vw, .int .i64 sq, .int .i64 cl, .int .i64 tg, .int .i64 k, .string nm, .string ot, .int .i64 at_, .int .i64 va, .int .i64 ep, .int .i64 s, .int .i64 rc, .int .i64 rv], .agg #[.int .i64 kd, .int .i64 ds, .int .i64 vw, .int .i64 sq, .int .i64 cl, .int .i64 tg, .int .i64 k, .string nm, .string ot, .int .i64 at_, .int .i64 va, .int .i64 ep, .int .i64 s, .int .i64 rc, .int .i64 rv]] w fun e w' => e = .returned (.bool true) ∧ Below w.heap.size w w' := by
  obtain ⟨W0, hW0, k0, k1, d0, z0⟩ := box2 w #[.int .i64 kd, .int .i64 ds, .int .i64 vw, .int .i64 sq, .int .i64 cl, .int .i64 tg, .int .i64 k, .string nm, .string ot, .int .i64 at_, .int .i64 va, .int .i64 ep, .int .i64 s, .int .i64 rc, .int .i64 rv] #[.int .i64 kd, .int .i64 ds, .int .i64 vw, .int .i64 sq, .int .i64 cl, .int .i64 tg, .int .i64 k, .string nm, .string ot, .int .i64 at_, .int .i64 va, .int .i64 ep, .int .i64 s, .int .i64 rc, .int .i64 rv] 38 38
  have HW0 : Hid (W0 = _) := hW0
  have p0 := at_cell k0 0
  have p1 := at_cell k0 1
  have p2 := at_cell k0 2
  have p3 := at_cell k0 3
  have p4 := at_cell k0 4
  have p5 := at_cell k0 5
  have p6 := at_cell k0 6
  have p7 := at_cell k0 7
  have p8 := at_cell k0 8
  have p9 := at_cell k0 9
  have p10 := at_cell k0 10
  have p11 := at_cell k0 11
  have p12 := at_cell k0 12
  have p13 := at_cell k0 13
  have p14 := at_cell k0 14
  have q0 := at_cell k1 0
  have q1 := at_cell k1 1
  have q2 := at_cell k1 2
  have q3 := at_cell k1 3
  have q4 := at_cell k1 4
  have q5 := at_cell k1 5
  have q6 := at_cell k1 6
  have q7 := at_cell k1 7
  have q8 := at_cell k1 8
  have q9 := at_cell k1 9
  have q10 := at_cell k1 10
  have q11 := at_cell k1 11
  have q12 := at_cell k1 12
  have q13 := at_cell k1 13
  have q14 := at_cell k1 14
  have e1 : (kd != kd) = false := by simp
  have e2 : (ds != ds) = false := by simp
  have e3 : (vw != vw) = false := by simp
  have e4 : (s != s) = false := by simp
  clear hW0 z0
  go_enter Try.func27, Try.ntmps27
  go_upto_region 1 with fail
  rw [← HW0.out]
  clear HW0
  go_wp2_with fail
  refine (eqEntry_same sq cl tg k nm ot at_ va ep _).mono ?_
  rintro e w1 ⟨rfl, b1⟩
  replace k0 := (b1.block _ (heap_lt k0)).trans k0
  replace k1 := (b1.block _ (heap_lt k1)).trans k1
  replace d0 := bw_call d0 b1
  clear p0 p1 p2 p3 p4 p5 p6 p7 p8 p9 p10 p11 p12 p13 p14 q0 q1 q2 q3 q4 q5 q6 q7 q8 q9 q10 q11 q12 q13 q14
  have p0 := at_cell k0 0
  have p1 := at_cell k0 1
  have p2 := at_cell k0 2
  have p3 := at_cell k0 3
  have p4 := at_cell k0 4
  have p5 := at_cell k0 5
  have p6 := at_cell k0 6
  have p7 := at_cell k0 7
  have p8 := at_cell k0 8
  have p9 := at_cell k0 9
  have p10 := at_cell k0 10
  have p11 := at_cell k0 11
  have p12 := at_cell k0 12
  have p13 := at_cell k0 13
  have p14 := at_cell k0 14
  have q0 := at_cell k1 0
  have q1 := at_cell k1 1
  have q2 := at_cell k1 2
  have q3 := at_cell k1 3
  have q4 := at_cell k1 4
  have q5 := at_cell k1 5
  have q6 := at_cell k1 6
  have q7 := at_cell k1 7
  have q8 := at_cell k1 8
  have q9 := at_cell k1 9
  have q10 := at_cell k1 10
  have q11 := at_cell k1 11
  have q12 := at_cell k1 12
  have q13 := at_cell k1 13
  have q14 := at_cell k1 14
  go_wp2_with fail
  refine (eqReply_same rc rv _).mono ?_
  rintro e w2 ⟨rfl, b2⟩
  replace d0 := bw_call d0 b2
  clear p0 p1 p2 p3 p4 p5 p6 p7 p8 p9 p10 p11 p12 p13 p14 q0 q1 q2 q3 q4 q5 q6 q7 q8 q9 q10 q11 q12 q13 q14
  go_wp2_with fail
  go_ret
  exact ⟨rfl, d0⟩

set_option maxHeartbeats 3200000 in
theorem eqMsgs_same (v v' : Value) (bs : List Mg) (w : World) (r : ReadsR 15 mgC w.heap.size w v bs) (r' : ReadsR 15 mgC w.heap.size w v' bs) :
    Calls Try.prog 24 #[v, v'] w fun e w' => e = .returned (.bool true) ∧ Below w.heap.size w w' := by
  obtain ⟨o1, cap1, rfl, m1, c1, -⟩ := r
  obtain ⟨o2, cap2, rfl, m2, c2, -⟩ := r'
  have C1 : Hid _ := mg_cells c1
  have C2 : Hid _ := mg_cells c2
  unfold maxLen at m1
  clear c1 c2 m2
  go_enter Try.func24, Try.ntmps24
  go_wp2
  go_loopw [5] (fun i wr => ∃ k : Nat, k ≤ bs.length ∧ i = .int .i64 k ∧ Below w.heap.size w wr) (fun i _ => bs.length - (intOf i).toNat)
  case atStart => exact ⟨0, Nat.zero_le _, rfl, Below.refl _ _⟩
  case round =>
    obtain ⟨kk, hk, rfl, hb⟩ := hrel
    by_cases hlt : kk < bs.length
    · obtain ⟨g1, of1, rfl, q1, a0, a1, a2, a3, a4, a5, a6, a7, a8, a9, a10, a11, a12, a13, a14⟩ := C1.out kk hlt
      obtain ⟨g2, of2, rfl, q2, b0, b1, b2, b3, b4, b5, b6, b7, b8, b9, b10, b11, b12, b13, b14⟩ := C2.out kk hlt
      generalize bs[kk] = x at a0 a1 a2 a3 a4 a5 a6 a7 a8 a9 a10 a11 a12 a13 a14 b0 b1 b2 b3 b4 b5 b6 b7 b8 b9 b10 b11 b12 b13 b14
      obtain ⟨kd, ds, vw, ⟨sq, cl, tg, ⟨k, nm, ot, at_, va, ep⟩⟩, s, rc, rv⟩ := x
      simp only at a0 a1 a2 a3 a4 a5 a6 a7 a8 a9 a10 a11 a12 a13 a14 b0 b1 b2 b3 b4 b5 b6 b7 b8 b9 b10 b11 b12 b13 b14
      have hne := BelowOf.any wr
      have l1 : g1 < wr.heap.size := Nat.lt_of_lt_of_le q1 hb.size
      have l2 : g2 < wr.heap.size := Nat.lt_of_lt_of_le q2 hb.size
      have HEQ : ∀ q : BelowOf wr, Calls Try.prog 27 #[.agg #[.int .i64 kd, .int .i64 ds, .int .i64 vw, .int .i64 sq, .int .i64 cl, .int .i64 tg, .int .i64 k, .string nm, .string ot, .int .i64 at_, .int .i64 va, .int .i64 ep, .int .i64 s, .int .i64 rc, .int .i64 rv], .agg #[.int .i64 kd, .int .i64 ds, .int .i64 vw, .int .i64 sq, .int .i64 cl, .int .i64 tg, .int .i64 k, .string nm, .string ot, .int .i64 at_, .int .i64 va, .int .i64 ep, .int .i64 s, .int .i64 rc, .int .i64 rv]] q.w' fun e w' => e = .returned (.bool true) ∧ Below q.w'.heap.size q.w' w' := fun q => eqMsg_same kd ds vw sq cl tg k nm ot at_ va ep s rc rv q.w'
      have d0 := BelowOf.cell ((hb.cell (p := ⟨g1, of1 + kk * 15, none⟩) q1).trans a0) l1
      have f0 := BelowOf.cell ((hb.cell (p := ⟨g2, of2 + kk * 15, none⟩) q2).trans b0) l2
      have d1 := BelowOf.cell ((hb.cell (p := ⟨g1, of1 + kk * 15 + 1, none⟩) q1).trans a1) l1
      have f1 := BelowOf.cell ((hb.cell (p := ⟨g2, of2 + kk * 15 + 1, none⟩) q2).trans b1) l2
      have d2 := BelowOf.cell ((hb.cell (p := ⟨g1, of1 + kk * 15 + 2, none⟩) q1).trans a2) l1
      have f2 := BelowOf.cell ((hb.cell (p := ⟨g2, of2 + kk * 15 + 2, none⟩) q2).trans b2) l2
      have d3 := BelowOf.cell ((hb.cell (p := ⟨g1, of1 + kk * 15 + 3, none⟩) q1).trans a3) l1
      have f3 := BelowOf.cell ((hb.cell (p := ⟨g2, of2 + kk * 15 + 3, none⟩) q2).trans b3) l2
      have d4 := BelowOf.cell ((hb.cell (p := ⟨g1, of1 + kk * 15 + 4, none⟩) q1).trans a4) l1
      have f4 := BelowOf.cell ((hb.cell (p := ⟨g2, of2 + kk * 15 + 4, none⟩) q2).trans b4) l2
      have d5 := BelowOf.cell ((hb.cell (p := ⟨g1, of1 + kk * 15 + 5, none⟩) q1).trans a5) l1
      have f5 := BelowOf.cell ((hb.cell (p := ⟨g2, of2 + kk * 15 + 5, none⟩) q2).trans b5) l2
      have d6 := BelowOf.cell ((hb.cell (p := ⟨g1, of1 + kk * 15 + 6, none⟩) q1).trans a6) l1
      have f6 := BelowOf.cell ((hb.cell (p := ⟨g2, of2 + kk * 15 + 6, none⟩) q2).trans b6) l2
      have d7 := BelowOf.cell ((hb.cell (p := ⟨g1, of1 + kk * 15 + 7, none⟩) q1).trans a7) l1
      have f7 := BelowOf.cell ((hb.cell (p := ⟨g2, of2 + kk * 15 + 7, none⟩) q2).trans b7) l2
      have d8 := BelowOf.cell ((hb.cell (p := ⟨g1, of1 + kk * 15 + 8, none⟩) q1).trans a8) l1
      have f8 := BelowOf.cell ((hb.cell (p := ⟨g2, of2 + kk * 15 + 8, none⟩) q2).trans b8) l2
      have d9 := BelowOf.cell ((hb.cell (p := ⟨g1, of1 + kk * 15 + 9, none⟩) q1).trans a9) l1
      have f9 := BelowOf.cell ((hb.cell (p := ⟨g2, of2 + kk * 15 + 9, none⟩) q2).trans b9) l2
      have d10 := BelowOf.cell ((hb.cell (p := ⟨g1, of1 + kk * 15 + 10, none⟩) q1).trans a10) l1
      have f10 := BelowOf.cell ((hb.cell (p := ⟨g2, of2 + kk * 15 + 10, none⟩) q2).trans b10) l2
      have d11 := BelowOf.cell ((hb.cell (p := ⟨g1, of1 + kk * 15 + 11, none⟩) q1).trans a11) l1
      have f11 := BelowOf.cell ((hb.cell (p := ⟨g2, of2 + kk * 15 + 11, none⟩) q2).trans b11) l2
      have d12 := BelowOf.cell ((hb.cell (p := ⟨g1, of1 + kk * 15 + 12, none⟩) q1).trans a12) l1
      have f12 := BelowOf.cell ((hb.cell (p := ⟨g2, of2 + kk * 15 + 12, none⟩) q2).trans b12) l2
      have d13 := BelowOf.cell ((hb.cell (p := ⟨g1, of1 + kk * 15 + 13, none⟩) q1).trans a13) l1
      have f13 := BelowOf.cell ((hb.cell (p := ⟨g2, of2 + kk * 15 + 13, none⟩) q2).trans b13) l2
      have d14 := BelowOf.cell ((hb.cell (p := ⟨g1, of1 + kk * 15 + 14, none⟩) q1).trans a14) l1
      have f14 := BelowOf.cell ((hb.cell (p := ⟨g2, of2 + kk * 15 + 14, none⟩) q2).trans b14) l2
      have g1' : (0 : Int) ≤ (kk : Int) := by omega
      have g2' : (kk : Int) < (bs.length : Int) := by omega
      clear a0 a1 a2 a3 a4 a5 a6 a7 a8 a9 a10 a11 a12 a13 a14 b0 b1 b2 b3 b4 b5 b6 b7 b8 b9 b10 b11 b12 b13 b14 C1 C2
      go_wp2_with fail
      refine wp_region_of (by kernel_rfl) (by kernel_rfl) ?_
      repeat (go_big_quiet_step ((first | (go_at_call 27; exact calls_of (HEQ _)) | rfl)))
      refine wpQuiet_nil ?_
      intro w5 hw5
      obtain ⟨⟨wx, cx⟩, hwx⟩ := hw5
      have b5 : Below wr.heap.size wr w5 := by rw [hwx]; exact cx
      have hb5 := hb.trans (b5.mono hb.size)
      clear hwx cx wx hne d0 d1 d2 d3 d4 d5 d6 d7 d8 d9 d10 d11 d12 d13 d14 f0 f1 f2 f3 f4 f5 f6 f7 f8 f9 f10 f11 f12 f13 f14 HEQ
      go_wp2_with fail
      go_roundw
      case rel => exact ⟨kk + 1, by omega, by go_num, hb5⟩
      case measure => simp [intOf]; omega
    · go_wp2
      go_ret
      exact ⟨rfl, hb⟩
end Go.Proofs.Ytghhphhnalfjaaa

