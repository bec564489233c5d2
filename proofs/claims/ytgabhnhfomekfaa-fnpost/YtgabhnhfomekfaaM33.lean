/-
  Contracts and plain laws, one chapter behind the other.
-/
import Derived.BigRegion
import Derived.Test.YtgabhnhfomekfaaM21
namespace Go.Proofs.Ytgabhnhfomekfaa
open Go.RowKit

set_option linter.unusedVariables false

set_option maxRecDepth 100000


set_option maxHeartbeats 12800000 in
theorem told4_any (ds vw sq cl tg k : Int) (nm ot : ByteArray) (at_ va ep s rc rv : Int) (w : World) :
    Calls Try.prog 28 #[.agg #[.int .i64 4, .int .i64 ds, .int .i64 vw, .int .i64 sq, .int .i64 cl, .int .i64 tg, .int .i64 k, .string nm, .string ot, .int .i64 at_, .int .i64 va, .int .i64 ep, .int .i64 s, .int .i64 rc, .int .i64 rv]] w fun e w' => e = .returned (.agg #[.int .i64 4, .int .i64 ds, .int .i64 vw, .int .i64 sq, .int .i64 cl, .int .i64 tg, .int .i64 k, .string nm, .string ot, .int .i64 at_, .int .i64 va, .int .i64 ep, .int .i64 s, .int .i64 rc, .int .i64 rv]) ∧ Below w.heap.size w w' := by
  obtain ⟨W0, hW0, k0, k1, k2, d0, z0⟩ := box3 w #[.int .i64 4, .int .i64 ds, .int .i64 vw, .int .i64 sq, .int .i64 cl, .int .i64 tg, .int .i64 k, .string nm, .string ot, .int .i64 at_, .int .i64 va, .int .i64 ep, .int .i64 s, .int .i64 rc, .int .i64 rv] #[.int .i64 0, .int .i64 0, .int .i64 0, .int .i64 0, .int .i64 0, .int .i64 0, .int .i64 0, .string ⟨#[]⟩, .string ⟨#[]⟩, .int .i64 0, .int .i64 0, .int .i64 0, .int .i64 0, .int .i64 0, .int .i64 0] #[.int .i64 4, .int .i64 ds, .int .i64 vw, .int .i64 0, .int .i64 0, .int .i64 0, .int .i64 0, .string ⟨#[]⟩, .string ⟨#[]⟩, .int .i64 0, .int .i64 0, .int .i64 0, .int .i64 0, .int .i64 0, .int .i64 0] 38 38 38
  have HW0 : Hid (W0 = _) := hW0
  have p0 := at_cell k0 0
  have p1 := at_cell k0 1
  have p2 := at_cell k0 2
  have p3 := at_cell k0 3
  have p4 := at_cell k0 4
  have p5 := at_cell k0 5
  have p6 := at_cell k0 6
  have p7 := at_cell k0 7
  have p8 := at_cell k0 8
  have p9 := at_cell k0 9
  have p10 := at_cell k0 10
  have p11 := at_cell k0 11
  have p12 := at_cell k0 12
  have p13 := at_cell k0 13
  have p14 := at_cell k0 14
  clear hW0 z0
  have c3 := at_cell k2 3
  have c4 := at_cell k2 4
  have c5 := at_cell k2 5
  have c6 := at_cell k2 6
  have c7 := at_cell k2 7
  have c8 := at_cell k2 8
  have c9 := at_cell k2 9
  have c10 := at_cell k2 10
  have c11 := at_cell k2 11
  have c12 := at_cell k2 12
  have c13 := at_cell k2 13
  have c14 := at_cell k2 14
  have f3 := at_open k2 3
  have f4 := at_open k2 4
  have f5 := at_open k2 5
  have f6 := at_open k2 6
  have f7 := at_open k2 7
  have f8 := at_open k2 8
  have f9 := at_open k2 9
  have f10 := at_open k2 10
  have f11 := at_open k2 11
  have f12 := at_open k2 12
  have f13 := at_open k2 13
  have f14 := at_open k2 14
  obtain ⟨s1, s2, s3⟩ := putA (b := w.heap.size + 1 + 1) (by omega) k2 d0 (.int .i64 sq) (.int .i64 cl) (.int .i64 tg) (.int .i64 k) (.string nm) (.string ot) (.int .i64 at_) (.int .i64 va) (.int .i64 ep) (.int .i64 s) (.int .i64 rc) (.int .i64 rv)
  have e1 := (s3.block (w.heap.size + 1) (heap_lt k1) (by omega)).trans k1
  obtain ⟨W2, hW2⟩ : ∃ W2, W2 = ((((((((((((W0.setCell ⟨w.heap.size + 1 + 1, 3, none⟩ (.int .i64 sq)).setCell ⟨w.heap.size + 1 + 1, 4, none⟩ (.int .i64 cl)).setCell ⟨w.heap.size + 1 + 1, 5, none⟩ (.int .i64 tg)).setCell ⟨w.heap.size + 1 + 1, 6, none⟩ (.int .i64 k)).setCell ⟨w.heap.size + 1 + 1, 7, none⟩ (.string nm)).setCell ⟨w.heap.size + 1 + 1, 8, none⟩ (.string ot)).setCell ⟨w.heap.size + 1 + 1, 9, none⟩ (.int .i64 at_)).setCell ⟨w.heap.size + 1 + 1, 10, none⟩ (.int .i64 va)).setCell ⟨w.heap.size + 1 + 1, 11, none⟩ (.int .i64 ep)).setCell ⟨w.heap.size + 1 + 1, 12, none⟩ (.int .i64 s)).setCell ⟨w.heap.size + 1 + 1, 13, none⟩ (.int .i64 rc)).setCell ⟨w.heap.size + 1 + 1, 14, none⟩ (.int .i64 rv)) := ⟨_, rfl⟩
  rw [← hW2] at s1 s2 e1
  have HW2 : Hid (W2 = _) := hW2
  clear hW2
  have q0 := at_cell s1 0
  have q1 := at_cell s1 1
  have q2 := at_cell s1 2
  have q3 := at_cell s1 3
  have q4 := at_cell s1 4
  have q5 := at_cell s1 5
  have q6 := at_cell s1 6
  have q7 := at_cell s1 7
  have q8 := at_cell s1 8
  have q9 := at_cell s1 9
  have q10 := at_cell s1 10
  have q11 := at_cell s1 11
  have q12 := at_cell s1 12
  have q13 := at_cell s1 13
  have q14 := at_cell s1 14
  have g0 := at_open e1 0
  have g1 := at_open e1 1
  have g2 := at_open e1 2
  have g3 := at_open e1 3
  have g4 := at_open e1 4
  have g5 := at_open e1 5
  have g6 := at_open e1 6
  have g7 := at_open e1 7
  have g8 := at_open e1 8
  have g9 := at_open e1 9
  have g10 := at_open e1 10
  have g11 := at_open e1 11
  have g12 := at_open e1 12
  have g13 := at_open e1 13
  have g14 := at_open e1 14
  have r0 := at_cell e1 0
  have r1 := at_cell e1 1
  have r2 := at_cell e1 2
  have r3 := at_cell e1 3
  have r4 := at_cell e1 4
  have r5 := at_cell e1 5
  have r6 := at_cell e1 6
  have r7 := at_cell e1 7
  have r8 := at_cell e1 8
  have r9 := at_cell e1 9
  have r10 := at_cell e1 10
  have r11 := at_cell e1 11
  have r12 := at_cell e1 12
  have r13 := at_cell e1 13
  have r14 := at_cell e1 14
  have HS : Hid _ := putF (b := w.heap.size + 1) (by omega) e1 s2 (.int .i64 4) (.int .i64 ds) (.int .i64 vw) (.int .i64 sq) (.int .i64 cl) (.int .i64 tg) (.int .i64 k) (.string nm) (.string ot) (.int .i64 at_) (.int .i64 va) (.int .i64 ep) (.int .i64 s) (.int .i64 rc) (.int .i64 rv)

  clear s1 s2 s3 e1 k0 k1 k2 d0
  go_enter Try.func28, Try.ntmps28
  go_upto_region 9 with fail
  rw [← HW0.out]
  clear HW0
  go_region
  rw [← HW2.out]
  clear HW2 c3 f3 c4 f4 c5 f5 c6 f6 c7 f7 c8 f8 c9 f9 c10 f10 c11 f11 c12 f12 c13 f13 c14 f14
  go_wp2_with fail
  exact bodyPost_ret (v := .agg #[.int .i64 4, .int .i64 ds, .int .i64 vw, .int .i64 sq, .int .i64 cl, .int .i64 tg, .int .i64 k, .string nm, .string ot, .int .i64 at_, .int .i64 va, .int .i64 ep, .int .i64 s, .int .i64 rc, .int .i64 rv]) (by simp [results, Try.results28, go_sem, at_cell HS.out.1]) rfl ⟨rfl, HS.out.2.1.drew⟩
end Go.Proofs.Ytgabhnhfomekfaa

