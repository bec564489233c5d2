/-
  The laws' helpers on letters: their size, copied; a letter as an argument, opened.
-/
import Derived.Test.YtnncbikmapjlfaaImMsg
import Derived.Test.YtnncbikmapjlfaaEntLaw
import Derived.Test.YtnncbikmapjlfaaArgsRep
namespace Go.Proofs.Ytnncbikmapjlfaa
open Go.ChangeShapes Go.WideShapes Go.ChangeAt Go.RowKit Go.Deep Go.Joins
set_option linter.unusedVariables false
set_option maxRecDepth 100000

def FitMsg (m : Mg) : Prop := FitEnt m.e ∧ I64 m.kd ∧ I64 m.ds ∧ I64 m.vw ∧ I64 m.s ∧ I64 m.rc ∧ I64 m.rv
def FitPost (l : List Mg) : Prop := ∀ m ∈ l, FitMsg m
theorem list15 {α : Type} {cs : List α} (h : cs.length = 15) : ∃ v0 v1 v2 v3 v4 v5 v6 v7 v8 v9 v10 v11 v12 v13 v14, cs = [v0, v1, v2, v3, v4, v5, v6, v7, v8, v9, v10, v11, v12, v13, v14] := by
  match cs, h with
  | [v0, v1, v2, v3, v4, v5, v6, v7, v8, v9, v10, v11, v12, v13, v14], _ => exact ⟨v0, v1, v2, v3, v4, v5, v6, v7, v8, v9, v10, v11, v12, v13, v14, rfl⟩
theorem msg_cells {H : Type} {enc : TypeId × Value → H} {W : World} {n : Nat} {cs : List Value} {y : DataW H × List MemPlace} (h : DataW.trod enc Try.prog W 0 (fun _ => true) true n 50 cs = some y) :
    ∃ m : Mg, cs = mgC m ∧ FitMsg m := by
  have ce : Try.prog.cellsOf 50 = 15 := by kernel_rfl
  have c1 : Try.prog.cellsOf 2 = 1 := by kernel_rfl
  have c2 : Try.prog.cellsOf 47 = 9 := by kernel_rfl
  have c3 : Try.prog.cellsOf 48 = 2 := by kernel_rfl
  obtain ⟨xs, m, _, -, hl, hlen, hf⟩ := DataW.trod_struct Try.underlying50 h
  obtain ⟨v0, v1, v2, v3, v4, v5, v6, v7, v8, v9, v10, v11, v12, v13, v14, rfl⟩ := list15 (hl.trans ce)
  obtain ⟨y0, y1, y2, y3, y4, y5, rfl⟩ := list6 (show xs.length = 6 from hlen)
  have t0 := hf 0 _ rfl
  have t1 := hf 1 _ rfl
  have t2 := hf 2 _ rfl
  have t3 := hf 3 _ rfl
  have t4 := hf 4 _ rfl
  have t5 := hf 5 _ rfl
  simp [c1, c2, c3] at t0 t1 t2 t3 t4 t5
  obtain ⟨kd, e0, _, z0⟩ := DataW.trod_int Try.underlying2 t0
  obtain ⟨ds, e1, _, z1⟩ := DataW.trod_int Try.underlying2 t1
  obtain ⟨vw, e2, _, z2⟩ := DataW.trod_int Try.underlying2 t2
  obtain ⟨en, e3, fe⟩ := ent_cells t3
  obtain ⟨s, e4, _, z4⟩ := DataW.trod_int Try.underlying2 t4
  have e5 : ∃ rc rv : Int, v13 = .int .i64 rc ∧ v14 = .int .i64 rv ∧ I64 rc ∧ I64 rv := by
    obtain ⟨ys, m5, _, -, hl5, hlen5, hf5⟩ := DataW.trod_struct Try.underlying48 t5
    obtain ⟨u0, u1, rfl⟩ := list2r (show ys.length = 2 from hlen5)
    have q0 := hf5 0 _ rfl
    have q1 := hf5 1 _ rfl
    simp [c1] at q0 q1
    obtain ⟨rc, r0, _, w0⟩ := DataW.trod_int Try.underlying2 q0
    obtain ⟨rv, r1, _, w1⟩ := DataW.trod_int Try.underlying2 q1
    simp at r0 r1
    exact ⟨rc, rv, r0, r1, lit_i64o w0, lit_i64o w1⟩
  obtain ⟨rc, rv, rfl, rfl, z5, z6⟩ := e5
  simp only [entC, List.cons.injEq, and_true] at e3
  obtain ⟨rfl, rfl, rfl, rfl, rfl, rfl, rfl, rfl, rfl⟩ := e3
  simp at e0 e1 e2 e4
  subst e0 e1 e2 e4
  exact ⟨⟨kd, ds, vw, en, s, rc, rv⟩, rfl, fe, lit_i64o z0, lit_i64o z1, lit_i64o z2, lit_i64o z4, z5, z6⟩

theorem open_msg {H : Type} {enc : TypeId × Value → H} {W : World} {base : Nat} {v : Value} {d : DataW H} {p : List MemPlace} (hv : Value.okWide Try.prog W .any base 50 v) (h : DataW.Trod enc Try.prog W 0 (fun _ => true) true 50 v d p) :
    ∃ (kd ds vw sq cl tg k : Int) (nm ot : ByteArray) (at_ va ep s rc rv : Int), v = .agg #[.int .i64 kd, .int .i64 ds, .int .i64 vw, .int .i64 sq, .int .i64 cl, .int .i64 tg, .int .i64 k, .string nm, .string ot, .int .i64 at_, .int .i64 va, .int .i64 ep, .int .i64 s, .int .i64 rc, .int .i64 rv] ∧ FitMsg ⟨kd, ds, vw, ⟨sq, cl, tg, ⟨k, nm, ot, at_, va, ep⟩⟩, s, rc, rv⟩ := by
  obtain ⟨cs, rfl, hsz⟩ := okWide_struct Try.underlying50 hv
  obtain ⟨fuel, hf⟩ := h
  obtain ⟨m, hm, hfit⟩ := msg_cells hf
  obtain ⟨kd, ds, vw, ⟨sq, cl, tg, ⟨k, nm, ot, at_, va, ep⟩⟩, s, rc, rv⟩ := m
  refine ⟨kd, ds, vw, sq, cl, tg, k, nm, ot, at_, va, ep, s, rc, rv, ?_, hfit⟩
  have e2 : cs.toList = mgC ⟨kd, ds, vw, ⟨sq, cl, tg, ⟨k, nm, ot, at_, va, ep⟩⟩, s, rc, rv⟩ := by simpa [Value.cells] using hm
  rw [show cs = (mgC ⟨kd, ds, vw, ⟨sq, cl, tg, ⟨k, nm, ot, at_, va, ep⟩⟩, s, rc, rv⟩).toArray by rw [← e2]]
  rfl

set_option maxHeartbeats 1600000 in
theorem szMsg_any (kd ds vw sq cl tg k : Int) (nm ot : ByteArray) (at_ va ep s rc rv : Int) (left : Int) (w : World) (hn : nm.size ≤ maxLen) (ho : ot.size ≤ maxLen) (h0 : 0 ≤ left) (hl : left ≤ 1048576) :
    Calls Try.prog 22 #[.agg #[.int .i64 kd, .int .i64 ds, .int .i64 vw, .int .i64 sq, .int .i64 cl, .int .i64 tg, .int .i64 k, .string nm, .string ot, .int .i64 at_, .int .i64 va, .int .i64 ep, .int .i64 s, .int .i64 rc, .int .i64 rv], .int .i64 left] w fun e w' => ∃ q : Int, e = .returned (.int .i64 q) ∧ (q = -1 ∨ (0 ≤ q ∧ q ≤ left ∧ nm.size ≤ 1048576 ∧ ot.size ≤ 1048576)) ∧ Below w.heap.size w w' := by
  obtain ⟨W0, hW0, k0, d0, z0⟩ := box1 w #[.int .i64 kd, .int .i64 ds, .int .i64 vw, .int .i64 sq, .int .i64 cl, .int .i64 tg, .int .i64 k, .string nm, .string ot, .int .i64 at_, .int .i64 va, .int .i64 ep, .int .i64 s, .int .i64 rc, .int .i64 rv] 50
  have HW0 : Hid (W0 = _) := hW0
  have p3 := at_cell k0 3
  have p4 := at_cell k0 4
  have p5 := at_cell k0 5
  have p6 := at_cell k0 6
  have p7 := at_cell k0 7
  have p8 := at_cell k0 8
  have p9 := at_cell k0 9
  have p10 := at_cell k0 10
  have p11 := at_cell k0 11
  clear hW0 k0 z0
  go_enter Try.func22, Try.ntmps22
  go_wp2_with fail
  rw [← HW0.out]
  refine (szEntry_any sq cl tg k nm ot at_ va ep left _ hn ho h0 hl).mono ?_
  rintro e w1 ⟨q, rfl, hq, b1⟩
  replace d0 := bw_call d0 b1
  clear p3 p4 p5 p6 p7 p8 p9 p10 p11 HW0
  rcases hq with rfl | ⟨hq0, hq1, hq2, hq3⟩
  · go_wp2_with fail
    go_ret
    exact ⟨-1, rfl, .inl rfl, d0⟩
  · go_wp2_with fail
    go_ret
    exact ⟨q, rfl, .inr ⟨hq0, hq1, hq2, hq3⟩, d0⟩

theorem putR_set (x0 x1 x2 x3 x4 x5 x6 x7 x8 x9 x10 x11 x12 x13 x14 z13 z14 : Value) : (((#[x0, x1, x2, x3, x4, x5, x6, x7, x8, x9, x10, x11, x12, x13, x14] : Array Value).setIfInBounds 13 z13).setIfInBounds 14 z14) = #[x0, x1, x2, x3, x4, x5, x6, x7, x8, x9, x10, x11, x12, z13, z14] := by
  apply Array.toList_inj.1
  simp only [Array.toList_setIfInBounds]
  rfl
set_option maxHeartbeats 1600000 in
theorem putR {w W : World} {b : Nat} {x0 x1 x2 x3 x4 x5 x6 x7 x8 x9 x10 x11 x12 x13 x14 : Value} {t : TypeId} (h : w.heap.size ≤ b) (k : W.heap[b]? = some (.cells #[x0, x1, x2, x3, x4, x5, x6, x7, x8, x9, x10, x11, x12, x13, x14] t (0, 0))) (d : Below w.heap.size w W) (z13 z14 : Value) :
    ((W.setCell ⟨b, 13, none⟩ (z13)).setCell ⟨b, 14, none⟩ (z14)).heap[b]? = some (.cells #[x0, x1, x2, x3, x4, x5, x6, x7, x8, x9, x10, x11, x12, z13, z14] t (0, 0)) ∧ Below w.heap.size w ((W.setCell ⟨b, 13, none⟩ (z13)).setCell ⟨b, 14, none⟩ (z14)) ∧ Upto b W ((W.setCell ⟨b, 13, none⟩ (z13)).setCell ⟨b, 14, none⟩ (z14)) := by
  refine ⟨?_, (bw_set (bw_set d h _) h _), (((Upto.refl b W).setCell ⟨b, 13, none⟩ (.inl rfl) _).setCell ⟨b, 14, none⟩ (.inl rfl) _)⟩
  have e := k
  replace e := set_at e 13 z13
  replace e := set_at e 14 z14
  rw [putR_set] at e
  exact e

set_option maxHeartbeats 6400000 in
theorem toMsg_any (kd ds vw sq cl tg k : Int) (nm ot : ByteArray) (at_ va ep s rc rv : Int) (w : World) :
    Calls Try.prog 23 #[.agg #[.int .i64 kd, .int .i64 ds, .int .i64 vw, .int .i64 sq, .int .i64 cl, .int .i64 tg, .int .i64 k, .string nm, .string ot, .int .i64 at_, .int .i64 va, .int .i64 ep, .int .i64 s, .int .i64 rc, .int .i64 rv]] w fun e w' => e = .returned (.agg #[.int .i64 kd, .int .i64 ds, .int .i64 vw, .int .i64 sq, .int .i64 cl, .int .i64 tg, .int .i64 k, .string nm, .string ot, .int .i64 at_, .int .i64 va, .int .i64 ep, .int .i64 s, .int .i64 rc, .int .i64 rv]) ∧ Below w.heap.size w w' := by
  obtain ⟨W1, hW1, k0, k1, k2, d0, z0⟩ := box3 w #[.int .i64 kd, .int .i64 ds, .int .i64 vw, .int .i64 sq, .int .i64 cl, .int .i64 tg, .int .i64 k, .string nm, .string ot, .int .i64 at_, .int .i64 va, .int .i64 ep, .int .i64 s, .int .i64 rc, .int .i64 rv] #[.int .i64 0, .int .i64 0, .int .i64 0, .int .i64 0, .int .i64 0, .int .i64 0, .int .i64 0, .string ⟨#[]⟩, .string ⟨#[]⟩, .int .i64 0, .int .i64 0, .int .i64 0, .int .i64 0, .int .i64 0, .int .i64 0] #[.int .i64 kd, .int .i64 ds, .int .i64 vw, .int .i64 0, .int .i64 0, .int .i64 0, .int .i64 0, .string ⟨#[]⟩, .string ⟨#[]⟩, .int .i64 0, .int .i64 0, .int .i64 0, .int .i64 0, .int .i64 0, .int .i64 0] 50 38 38
  have HW1 : Hid (W1 = _) := hW1
  have z1 : w.heap.size + 1 + 1 + 1 ≤ W1.heap.size := by omega
  clear hW1 z0
  have p0 := at_cell k0 0
  have p1 := at_cell k0 1
  have p2 := at_cell k0 2
  have p3 := at_cell k0 3
  have p4 := at_cell k0 4
  have p5 := at_cell k0 5
  have p6 := at_cell k0 6
  have p7 := at_cell k0 7
  have p8 := at_cell k0 8
  have p9 := at_cell k0 9
  have p10 := at_cell k0 10
  have p11 := at_cell k0 11
  go_enter Try.func23, Try.ntmps23
  go_wp2_with fail
  rw [← HW1.out]
  clear HW1 p0 p1 p2 p3 p4 p5 p6 p7 p8 p9 p10 p11
  refine (toEntry_any sq cl tg k nm ot at_ va ep _).mono ?_
  rintro e w2 ⟨rfl, b2⟩
  replace k0 := (b2.block _ (by omega)).trans k0
  replace k1 := (b2.block _ (by omega)).trans k1
  replace k2 := (b2.block _ (by omega)).trans k2
  replace d0 := bw_call d0 b2
  clear b2
  have c3 := at_cell k2 3
  have c4 := at_cell k2 4
  have c5 := at_cell k2 5
  have c6 := at_cell k2 6
  have c7 := at_cell k2 7
  have c8 := at_cell k2 8
  have c9 := at_cell k2 9
  have c10 := at_cell k2 10
  have c11 := at_cell k2 11
  have f3 := at_open k2 3
  have f4 := at_open k2 4
  have f5 := at_open k2 5
  have f6 := at_open k2 6
  have f7 := at_open k2 7
  have f8 := at_open k2 8
  have f9 := at_open k2 9
  have f10 := at_open k2 10
  have f11 := at_open k2 11
  obtain ⟨s1, s2, s3⟩ := putE (b := w.heap.size + 1 + 1) (by omega) k2 d0 (.int .i64 sq) (.int .i64 cl) (.int .i64 tg) (.int .i64 k) (.string nm) (.string ot) (.int .i64 at_) (.int .i64 va) (.int .i64 ep)
  obtain ⟨W3, hW3⟩ : ∃ W3, W3 = (((((((((w2.setCell ⟨w.heap.size + 1 + 1, 3, none⟩ (.int .i64 sq)).setCell ⟨w.heap.size + 1 + 1, 4, none⟩ (.int .i64 cl)).setCell ⟨w.heap.size + 1 + 1, 5, none⟩ (.int .i64 tg)).setCell ⟨w.heap.size + 1 + 1, 6, none⟩ (.int .i64 k)).setCell ⟨w.heap.size + 1 + 1, 7, none⟩ (.string nm)).setCell ⟨w.heap.size + 1 + 1, 8, none⟩ (.string ot)).setCell ⟨w.heap.size + 1 + 1, 9, none⟩ (.int .i64 at_)).setCell ⟨w.heap.size + 1 + 1, 10, none⟩ (.int .i64 va)).setCell ⟨w.heap.size + 1 + 1, 11, none⟩ (.int .i64 ep)) := ⟨_, rfl⟩
  rw [← hW3] at s1 s2 s3
  have HW3 : Hid (W3 = _) := hW3
  clear hW3
  go_upto_region 6 with fail
  rw [← HW3.out]
  replace k0 := (s3.block w.heap.size (heap_lt k0) (by omega)).trans k0
  replace k1 := (s3.block (w.heap.size + 1) (heap_lt k1) (by omega)).trans k1
  clear HW3 c3 c4 c5 c6 c7 c8 c9 c10 c11 f3 f4 f5 f6 f7 f8 f9 f10 f11 k2 d0 s3
  have p12 := at_cell k0 12
  have c12 := at_cell s1 12
  have f12 := at_open s1 12
  obtain ⟨t1, t2, t3⟩ := putS (b := w.heap.size + 1 + 1) (by omega) s1 s2 (.int .i64 s)
  obtain ⟨W4, hW4⟩ : ∃ W4, W4 = W3.setCell ⟨w.heap.size + 1 + 1, 12, none⟩ (.int .i64 s) := ⟨_, rfl⟩
  rw [← hW4] at t1 t2 t3
  have HW4 : Hid (W4 = _) := hW4
  clear hW4
  go_upto_region 7 with fail
  rw [← HW4.out]
  replace k0 := (t3.block w.heap.size (heap_lt k0) (by omega)).trans k0
  replace k1 := (t3.block (w.heap.size + 1) (heap_lt k1) (by omega)).trans k1
  clear HW4 p12 c12 f12 s1 s2 t3
  have p13 := at_cell k0 13
  have p14 := at_cell k0 14
  go_wp2_with fail
  refine (toReply_any rc rv _).mono ?_
  rintro e w5 ⟨rfl, b5⟩
  replace k1 := (b5.block _ (heap_lt k1)).trans k1
  replace t1 := (b5.block _ (heap_lt t1)).trans t1
  replace t2 := bw_call t2 b5
  clear b5 p13 p14 k0
  have c13 := at_cell t1 13
  have c14 := at_cell t1 14
  have f13 := at_open t1 13
  have f14 := at_open t1 14
  obtain ⟨u1, u2, u3⟩ := putR (b := w.heap.size + 1 + 1) (by omega) t1 t2 (.int .i64 rc) (.int .i64 rv)
  obtain ⟨W6, hW6⟩ : ∃ W6, W6 = (w5.setCell ⟨w.heap.size + 1 + 1, 13, none⟩ (.int .i64 rc)).setCell ⟨w.heap.size + 1 + 1, 14, none⟩ (.int .i64 rv) := ⟨_, rfl⟩
  rw [← hW6] at u1 u2 u3
  have HW6 : Hid (W6 = _) := hW6
  clear hW6
  go_upto_region 8 with fail
  rw [← HW6.out]
  replace k1 := (u3.block (w.heap.size + 1) (heap_lt k1) (by omega)).trans k1
  clear HW6 c13 c14 f13 f14 t1 t2 u3
  have q0 := at_cell u1 0
  have q1 := at_cell u1 1
  have q2 := at_cell u1 2
  have q3 := at_cell u1 3
  have q4 := at_cell u1 4
  have q5 := at_cell u1 5
  have q6 := at_cell u1 6
  have q7 := at_cell u1 7
  have q8 := at_cell u1 8
  have q9 := at_cell u1 9
  have q10 := at_cell u1 10
  have q11 := at_cell u1 11
  have q12 := at_cell u1 12
  have q13 := at_cell u1 13
  have q14 := at_cell u1 14
  have g0 := at_open k1 0
  have g1 := at_open k1 1
  have g2 := at_open k1 2
  have g3 := at_open k1 3
  have g4 := at_open k1 4
  have g5 := at_open k1 5
  have g6 := at_open k1 6
  have g7 := at_open k1 7
  have g8 := at_open k1 8
  have g9 := at_open k1 9
  have g10 := at_open k1 10
  have g11 := at_open k1 11
  have g12 := at_open k1 12
  have g13 := at_open k1 13
  have g14 := at_open k1 14
  have r0 := at_cell k1 0
  have r1 := at_cell k1 1
  have r2 := at_cell k1 2
  have r3 := at_cell k1 3
  have r4 := at_cell k1 4
  have r5 := at_cell k1 5
  have r6 := at_cell k1 6
  have r7 := at_cell k1 7
  have r8 := at_cell k1 8
  have r9 := at_cell k1 9
  have r10 := at_cell k1 10
  have r11 := at_cell k1 11
  have r12 := at_cell k1 12
  have r13 := at_cell k1 13
  have r14 := at_cell k1 14
  have HS : Hid _ := putF (b := w.heap.size + 1) (by omega) k1 u2 (.int .i64 kd) (.int .i64 ds) (.int .i64 vw) (.int .i64 sq) (.int .i64 cl) (.int .i64 tg) (.int .i64 k) (.string nm) (.string ot) (.int .i64 at_) (.int .i64 va) (.int .i64 ep) (.int .i64 s) (.int .i64 rc) (.int .i64 rv)
  clear k1 u1 u2 z1
  go_wp2_with fail
  exact bodyPost_ret (v := .agg #[.int .i64 kd, .int .i64 ds, .int .i64 vw, .int .i64 sq, .int .i64 cl, .int .i64 tg, .int .i64 k, .string nm, .string ot, .int .i64 at_, .int .i64 va, .int .i64 ep, .int .i64 s, .int .i64 rc, .int .i64 rv]) (by simp [results, Try.results23, go_sem, at_cell HS.out.1]) rfl ⟨rfl, HS.out.2.1⟩

end Go.Proofs.Ytnncbikmapjlfaa
