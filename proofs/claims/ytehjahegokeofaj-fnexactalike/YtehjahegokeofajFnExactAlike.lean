/-
  The law FnExactAlike answers true at every input that the row speaks of, and its arguments read afterwards as before; the walk goes over the callees' contracts.
-/
import Derived.Test.YtehjahegokeofajRows
import Derived.WalkKit
import Derived.ProofKit
import Derived.OpenShut
import Derived.ChangeOld
import Derived.Below
import Derived.Carry
import Derived.Test.YtehjahegokeofajArgs
import Derived.Test.YtehjahegokeofajArgsB
import Derived.Test.YtehjahegokeofajBook3
import Derived.Test.YtehjahegokeofajImBook2
import Derived.Test.YtehjahegokeofajBookLaw
namespace Go.Proofs.Ytehjahegokeofaj.fnExactAlike
open Go.ChangeShapes Go.WideShapes Go.ChangeAt Go.RowKit
set_option linter.unusedVariables false

theorem own : ownKnob Try.prog.godebug = none := by kernel_rfl
theorem laidOut : laidOutB Try.prog = true := by kernel_rfl

set_option maxHeartbeats 4000000 in
theorem walk (bn0 : ByteArray) (bs0 : Int) (bm0 : Value) (xs0 : List (Int × Int × Int)) (bf0 : Bool) (be0 : Int) (bn1 : ByteArray) (bs1 : Int) (bm1 : Value) (xs1 : List (Int × Int × Int)) (bf1 : Bool) (be1 : Int) (w : World) (w0 : ReadsR 3 runC w.heap.size w bm0 xs0) (z0 : FitRuns xs0) (u0 : bn0.size ≤ maxLen) (w1 : ReadsR 3 runC w.heap.size w bm1 xs1) (z1 : FitRuns xs1) (u1 : bn1.size ≤ maxLen) :
    Calls Try.prog 8 #[.agg #[.string bn0, .int .i64 bs0, bm0, .bool bf0, .int .i64 be0], .agg #[.string bn1, .int .i64 bs1, bm1, .bool bf1, .int .i64 be1]] w fun e w' => e = .returned (.bool true) ∧ Below w.heap.size w w' := by
  obtain ⟨o0, c0, rfl⟩ := w0.form
  have r0 := w0
  clear w0
  obtain ⟨o1, c1, rfl⟩ := w1.form
  have r1 := w1
  clear w1
  obtain ⟨WA, hWA, kA0, kA1, d, zA⟩ := box2 w #[.string bn0, .int .i64 bs0, .slice o0 xs0.length c0, .bool bf0, .int .i64 be0] #[.string bn1, .int .i64 bs1, .slice o1 xs1.length c1, .bool bf1, .int .i64 be1] 39 39
  have sA0 : w.heap.size < WA.heap.size := by omega
  have y0 := d.size
  replace r0 := r0.below d
  have sA1 : w.heap.size + 1 < WA.heap.size := by omega
  have y1 := d.size
  replace r1 := r1.below d
  have HWA : Hid (WA = _) := hWA
  clear hWA zA
  go_enter Try.func8, Try.ntmps8
  go_wp2_with fail
  rw [← HWA.out]
  clear HWA
  refine (szBook_any bn0 bs0 _ xs0 bf0 be0 1048576 _ u0 (by omega) (by omega) (r0.mono y0)).mono ?_
  rintro e wb0 ⟨q0, rfl, hq, b⟩
  replace d := bw_call d b
  replace kA0 := (b.block _ sA0).trans kA0
  replace sA0 := Nat.lt_of_lt_of_le sA0 b.size
  replace r0 := r0.below (b.mono y0)
  replace y0 := Nat.le_trans y0 b.size
  replace kA1 := (b.block _ sA1).trans kA1
  replace sA1 := Nat.lt_of_lt_of_le sA1 b.size
  replace r1 := r1.below (b.mono y1)
  replace y1 := Nat.le_trans y1 b.size
  clear b
  rcases hq with rfl | ⟨hq00, hq10, hbn0, hbr0⟩
  · go_wp2_with fail
    go_ret
    exact ⟨rfl, d⟩
  have pA10 := at_cell kA1 0
  have pA11 := at_cell kA1 1
  have pA12 := at_cell kA1 2
  have pA13 := at_cell kA1 3
  have pA14 := at_cell kA1 4
  go_wp2_with fail
  clear pA10 pA11 pA12 pA13 pA14
  refine (szBook_any bn1 bs1 _ xs1 bf1 be1 q0 _ u1 (by omega) (by omega) (r1.mono y1)).mono ?_
  rintro e wb1 ⟨q1, rfl, hq, b⟩
  replace d := bw_call d b
  replace kA0 := (b.block _ sA0).trans kA0
  replace sA0 := Nat.lt_of_lt_of_le sA0 b.size
  replace r0 := r0.below (b.mono y0)
  replace y0 := Nat.le_trans y0 b.size
  replace kA1 := (b.block _ sA1).trans kA1
  replace sA1 := Nat.lt_of_lt_of_le sA1 b.size
  replace r1 := r1.below (b.mono y1)
  replace y1 := Nat.le_trans y1 b.size
  clear b
  rcases hq with rfl | ⟨hq01, hq11, hbn1, hbr1⟩
  · go_wp2_with fail
    go_ret
    exact ⟨rfl, d⟩
  obtain ⟨nv, hnv⟩ : ∃ x, alike bn0 bs0 xs0 be0 bn1 bs1 xs1 be1 = x := ⟨_, rfl⟩
  have HFD : Hid (alike bn0 bs0 xs0 be0 bn1 bs1 xs1 be1 = nv) := hnv
  clear hnv
  go_wp2_with fail
  have S0 : wb1.drew.cell? ⟨w.heap.size, 0, none⟩ = some (.string bn0) ∧ wb1.drew.cell? ⟨w.heap.size, 1, none⟩ = some (.int .i64 bs0) ∧ wb1.drew.cell? ⟨w.heap.size, 2, none⟩ = some (.slice o0 xs0.length c0) ∧ wb1.drew.cell? ⟨w.heap.size, 3, none⟩ = some (.bool bf0) ∧ wb1.drew.cell? ⟨w.heap.size, 4, none⟩ = some (.int .i64 be0) ∧ wb1.drew.cell? ⟨w.heap.size + 1, 0, none⟩ = some (.string bn1) ∧ wb1.drew.cell? ⟨w.heap.size + 1, 1, none⟩ = some (.int .i64 bs1) ∧ wb1.drew.cell? ⟨w.heap.size + 1, 2, none⟩ = some (.slice o1 xs1.length c1) ∧ wb1.drew.cell? ⟨w.heap.size + 1, 3, none⟩ = some (.bool bf1) ∧ wb1.drew.cell? ⟨w.heap.size + 1, 4, none⟩ = some (.int .i64 be1) := ⟨at_cell kA0 0, at_cell kA0 1, at_cell kA0 2, at_cell kA0 3, at_cell kA0 4, at_cell kA1 0, at_cell kA1 1, at_cell kA1 2, at_cell kA1 3, at_cell kA1 4⟩
  have RA0 : ReadsR 3 runC wb1.drew.heap.size wb1.drew (.slice o0 xs0.length c0) xs0 := (r0.mono y0).below ((Below.refl _ _).drew)
  have RA1 : ReadsR 3 runC wb1.drew.heap.size wb1.drew (.slice o1 xs1.length c1) xs1 := (r1.mono y1).below ((Below.refl _ _).drew)
  go_region_held3 (fun w' => w'.cell? ⟨w.heap.size, 0, none⟩ = some (.string bn0) ∧ w'.cell? ⟨w.heap.size, 1, none⟩ = some (.int .i64 bs0) ∧ w'.cell? ⟨w.heap.size, 2, none⟩ = some (.slice o0 xs0.length c0) ∧ w'.cell? ⟨w.heap.size, 3, none⟩ = some (.bool bf0) ∧ w'.cell? ⟨w.heap.size, 4, none⟩ = some (.int .i64 be0) ∧ w'.cell? ⟨w.heap.size + 1, 0, none⟩ = some (.string bn1) ∧ w'.cell? ⟨w.heap.size + 1, 1, none⟩ = some (.int .i64 bs1) ∧ w'.cell? ⟨w.heap.size + 1, 2, none⟩ = some (.slice o1 xs1.length c1) ∧ w'.cell? ⟨w.heap.size + 1, 3, none⟩ = some (.bool bf1) ∧ w'.cell? ⟨w.heap.size + 1, 4, none⟩ = some (.int .i64 be1))
    ((first | exact S0 | exact S1 | exact S2 | exact S3))
    ((first | (go_at_call 32; refine (specAlike_any bn0 bs0 _ xs0 bf0 be0 bn1 bs1 _ xs1 bf1 be1 _ u0 u1 ((ReadsR.of_own runC_len ot0).below b2 |>.mono b2.size) (ReadsR.of_own runC_len ot1)).mono ?_; rw [HFD.out]; rintro e wd ⟨rfl, b3⟩; have kA0k := (b3.block _ (heap_lt kA0j)).trans kA0j; have kA1k := (b3.block _ (heap_lt kA1j)).trans kA1j; have S3 := And.intro (at_cell kA0k 0) (And.intro (at_cell kA0k 1) (And.intro (at_cell kA0k 2) (And.intro (at_cell kA0k 3) (And.intro (at_cell kA0k 4) (And.intro (at_cell kA1k 0) (And.intro (at_cell kA1k 1) (And.intro (at_cell kA1k 2) (And.intro (at_cell kA1k 3) (at_cell kA1k 4)))))))))) | (have q := ot0; clear q; go_at_call 25; refine (toBook_any bn1 bs1 _ xs1 bf1 be1 _ hbr1 ((RA1.below b1).mono b1.size)).mono ?_; rintro e wj ⟨gt1, rfl, ot1, b2⟩; have kA0j := (b2.block _ (heap_lt kA0i)).trans kA0i; have kA1j := (b2.block _ (heap_lt kA1i)).trans kA1i; have S2 := And.intro (at_cell kA0j 0) (And.intro (at_cell kA0j 1) (And.intro (at_cell kA0j 2) (And.intro (at_cell kA0j 3) (And.intro (at_cell kA0j 4) (And.intro (at_cell kA1j 0) (And.intro (at_cell kA1j 1) (And.intro (at_cell kA1j 2) (And.intro (at_cell kA1j 3) (at_cell kA1j 4)))))))))) | (go_at_call 25; refine (toBook_any bn0 bs0 _ xs0 bf0 be0 _ hbr0 RA0).mono ?_; rintro e wi ⟨gt0, rfl, ot0, b1⟩; have kA0i := (b1.block _ (show _ < wb1.heap.size from sA0)).trans kA0; have kA1i := (b1.block _ (show _ < wb1.heap.size from sA1)).trans kA1; have S1 := And.intro (at_cell kA0i 0) (And.intro (at_cell kA0i 1) (And.intro (at_cell kA0i 2) (And.intro (at_cell kA0i 3) (And.intro (at_cell kA0i 4) (And.intro (at_cell kA1i 0) (And.intro (at_cell kA1i 1) (And.intro (at_cell kA1i 2) (And.intro (at_cell kA1i 3) (at_cell kA1i 4))))))))))))
  have b : Below wb1.heap.size wb1 wd := bw_call (bw_call (bw_call (bw_drew (Below.refl _ _)) b1) b2) b3
  clear S0 S1 S2 S3 RA0 RA1 kA0i kA1i kA0j kA1j kA0k kA1k ot0 ot1 b1 b2 b3
  replace d := bw_call d b
  replace kA0 := (b.block _ sA0).trans kA0
  replace sA0 := Nat.lt_of_lt_of_le sA0 b.size
  replace r0 := r0.below (b.mono y0)
  replace y0 := Nat.le_trans y0 b.size
  replace kA1 := (b.block _ sA1).trans kA1
  replace sA1 := Nat.lt_of_lt_of_le sA1 b.size
  replace r1 := r1.below (b.mono y1)
  replace y1 := Nat.le_trans y1 b.size
  clear b
  have pA00 := at_cell kA0 0
  have pA01 := at_cell kA0 1
  have pA02 := at_cell kA0 2
  have pA03 := at_cell kA0 3
  have pA04 := at_cell kA0 4
  go_wp2_with fail
  clear pA00 pA01 pA02 pA03 pA04
  refine (toBook_any bn0 bs0 _ xs0 bf0 be0 _ hbr0 (r0.mono y0)).mono ?_
  rintro e wf0 ⟨gx0, rfl, ox0, b⟩
  replace d := bw_call d b
  replace kA0 := (b.block _ sA0).trans kA0
  replace sA0 := Nat.lt_of_lt_of_le sA0 b.size
  replace r0 := r0.below (b.mono y0)
  replace y0 := Nat.le_trans y0 b.size
  replace kA1 := (b.block _ sA1).trans kA1
  replace sA1 := Nat.lt_of_lt_of_le sA1 b.size
  replace r1 := r1.below (b.mono y1)
  replace y1 := Nat.le_trans y1 b.size
  clear b
  have b : Below wf0.heap.size wf0 (wf0.alloc (.cells #[.string bn0, .int .i64 bs0, .slice (some ⟨gx0, 0, none⟩) xs0.length xs0.length, .bool bf0, .int .i64 be0] 43)) := bw_alloc (Below.refl _ _)
  have kX0 := heap_alloc_new wf0 (.cells #[.string bn0, .int .i64 bs0, .slice (some ⟨gx0, 0, none⟩) xs0.length xs0.length, .bool bf0, .int .i64 be0] 43)
  have sX0 : wf0.heap.size < (wf0.alloc (.cells #[.string bn0, .int .i64 bs0, .slice (some ⟨gx0, 0, none⟩) xs0.length xs0.length, .bool bf0, .int .i64 be0] 43)).heap.size := by simp
  replace d := bw_call d b
  replace kA0 := (b.block _ sA0).trans kA0
  replace sA0 := Nat.lt_of_lt_of_le sA0 b.size
  replace r0 := r0.below (b.mono y0)
  replace y0 := Nat.le_trans y0 b.size
  replace kA1 := (b.block _ sA1).trans kA1
  replace sA1 := Nat.lt_of_lt_of_le sA1 b.size
  replace r1 := r1.below (b.mono y1)
  replace y1 := Nat.le_trans y1 b.size
  replace ox0 := owns_below ox0 b
  clear b
  have pA10 := at_cell kA1 0
  have pA11 := at_cell kA1 1
  have pA12 := at_cell kA1 2
  have pA13 := at_cell kA1 3
  have pA14 := at_cell kA1 4
  go_wp2_with fail
  clear pA10 pA11 pA12 pA13 pA14
  generalize wf0.alloc (.cells #[.string bn0, .int .i64 bs0, .slice (some ⟨gx0, 0, none⟩) xs0.length xs0.length, .bool bf0, .int .i64 be0] 43) = Wx0 at *
  refine (toBook_any bn1 bs1 _ xs1 bf1 be1 _ hbr1 (r1.mono y1)).mono ?_
  rintro e wf1 ⟨gx1, rfl, ox1, b⟩
  replace d := bw_call d b
  replace kA0 := (b.block _ sA0).trans kA0
  replace sA0 := Nat.lt_of_lt_of_le sA0 b.size
  replace r0 := r0.below (b.mono y0)
  replace y0 := Nat.le_trans y0 b.size
  replace kA1 := (b.block _ sA1).trans kA1
  replace sA1 := Nat.lt_of_lt_of_le sA1 b.size
  replace r1 := r1.below (b.mono y1)
  replace y1 := Nat.le_trans y1 b.size
  replace ox0 := owns_below ox0 b
  replace kX0 := (b.block _ sX0).trans kX0
  replace sX0 := Nat.lt_of_lt_of_le sX0 b.size
  clear b
  have b : Below wf1.heap.size wf1 (wf1.alloc (.cells #[.string bn1, .int .i64 bs1, .slice (some ⟨gx1, 0, none⟩) xs1.length xs1.length, .bool bf1, .int .i64 be1] 43)) := bw_alloc (Below.refl _ _)
  have kX1 := heap_alloc_new wf1 (.cells #[.string bn1, .int .i64 bs1, .slice (some ⟨gx1, 0, none⟩) xs1.length xs1.length, .bool bf1, .int .i64 be1] 43)
  have sX1 : wf1.heap.size < (wf1.alloc (.cells #[.string bn1, .int .i64 bs1, .slice (some ⟨gx1, 0, none⟩) xs1.length xs1.length, .bool bf1, .int .i64 be1] 43)).heap.size := by simp
  replace d := bw_call d b
  replace kA0 := (b.block _ sA0).trans kA0
  replace sA0 := Nat.lt_of_lt_of_le sA0 b.size
  replace r0 := r0.below (b.mono y0)
  replace y0 := Nat.le_trans y0 b.size
  replace kA1 := (b.block _ sA1).trans kA1
  replace sA1 := Nat.lt_of_lt_of_le sA1 b.size
  replace r1 := r1.below (b.mono y1)
  replace y1 := Nat.le_trans y1 b.size
  replace ox0 := owns_below ox0 b
  replace kX0 := (b.block _ sX0).trans kX0
  replace sX0 := Nat.lt_of_lt_of_le sX0 b.size
  replace ox1 := owns_below ox1 b
  clear b
  have pX00 := at_cell kX0 0
  have pX01 := at_cell kX0 1
  have pX02 := at_cell kX0 2
  have pX03 := at_cell kX0 3
  have pX04 := at_cell kX0 4
  have pX10 := at_cell kX1 0
  have pX11 := at_cell kX1 1
  have pX12 := at_cell kX1 2
  have pX13 := at_cell kX1 3
  have pX14 := at_cell kX1 4
  go_wp2_with fail
  clear pX00 pX01 pX02 pX03 pX04 pX10 pX11 pX12 pX13 pX14
  generalize wf1.alloc (.cells #[.string bn1, .int .i64 bs1, .slice (some ⟨gx1, 0, none⟩) xs1.length xs1.length, .bool bf1, .int .i64 be1] 43) = Wx1 at *
  refine (implAlike_any bn0 bs0 _ xs0 bf0 be0 bn1 bs1 _ xs1 bf1 be1 _ u0 u1 z0 z1 (ReadsR.of_own runC_len ox0) (ReadsR.of_own runC_len ox1)).mono ?_
  rw [HFD.out]
  rintro e wg ⟨rfl, b⟩
  replace d := bw_call d b
  replace kA0 := (b.block _ sA0).trans kA0
  replace sA0 := Nat.lt_of_lt_of_le sA0 b.size
  replace r0 := r0.below (b.mono y0)
  replace y0 := Nat.le_trans y0 b.size
  replace kA1 := (b.block _ sA1).trans kA1
  replace sA1 := Nat.lt_of_lt_of_le sA1 b.size
  replace r1 := r1.below (b.mono y1)
  replace y1 := Nat.le_trans y1 b.size
  replace ox0 := owns_below ox0 b
  replace kX0 := (b.block _ sX0).trans kX0
  replace sX0 := Nat.lt_of_lt_of_le sX0 b.size
  replace ox1 := owns_below ox1 b
  replace kX1 := (b.block _ sX1).trans kX1
  replace sX1 := Nat.lt_of_lt_of_le sX1 b.size
  clear b
  go_wp2_with fail
  have S0 : wg.drew.cell? ⟨wf0.heap.size, 0, none⟩ = some (.string bn0) ∧ wg.drew.cell? ⟨wf0.heap.size, 1, none⟩ = some (.int .i64 bs0) ∧ wg.drew.cell? ⟨wf0.heap.size, 2, none⟩ = some (.slice (some ⟨gx0, 0, none⟩) xs0.length xs0.length) ∧ wg.drew.cell? ⟨wf0.heap.size, 3, none⟩ = some (.bool bf0) ∧ wg.drew.cell? ⟨wf0.heap.size, 4, none⟩ = some (.int .i64 be0) ∧ wg.drew.cell? ⟨w.heap.size, 0, none⟩ = some (.string bn0) ∧ wg.drew.cell? ⟨w.heap.size, 1, none⟩ = some (.int .i64 bs0) ∧ wg.drew.cell? ⟨w.heap.size, 2, none⟩ = some (.slice o0 xs0.length c0) ∧ wg.drew.cell? ⟨w.heap.size, 3, none⟩ = some (.bool bf0) ∧ wg.drew.cell? ⟨w.heap.size, 4, none⟩ = some (.int .i64 be0) := ⟨at_cell kX0 0, at_cell kX0 1, at_cell kX0 2, at_cell kX0 3, at_cell kX0 4, at_cell kA0 0, at_cell kA0 1, at_cell kA0 2, at_cell kA0 3, at_cell kA0 4⟩
  have RA : ReadsR 3 runC wg.drew.heap.size wg.drew (.slice o0 xs0.length c0) xs0 := (r0.mono y0).below ((Below.refl _ _).drew)
  have OX := owns_below (w' := wg.drew) ox0 ((Below.refl _ _).drew)
  go_region_held3 (fun w' => w'.cell? ⟨wf0.heap.size, 0, none⟩ = some (.string bn0) ∧ w'.cell? ⟨wf0.heap.size, 1, none⟩ = some (.int .i64 bs0) ∧ w'.cell? ⟨wf0.heap.size, 2, none⟩ = some (.slice (some ⟨gx0, 0, none⟩) xs0.length xs0.length) ∧ w'.cell? ⟨wf0.heap.size, 3, none⟩ = some (.bool bf0) ∧ w'.cell? ⟨wf0.heap.size, 4, none⟩ = some (.int .i64 be0) ∧ w'.cell? ⟨w.heap.size, 0, none⟩ = some (.string bn0) ∧ w'.cell? ⟨w.heap.size, 1, none⟩ = some (.int .i64 bs0) ∧ w'.cell? ⟨w.heap.size, 2, none⟩ = some (.slice o0 xs0.length c0) ∧ w'.cell? ⟨w.heap.size, 3, none⟩ = some (.bool bf0) ∧ w'.cell? ⟨w.heap.size, 4, none⟩ = some (.int .i64 be0))
    ((first | exact S0 | exact S1 | exact S2))
    ((first | (go_at_call 25; refine (toBook_any bn0 bs0 _ xs0 bf0 be0 _ hbr0 RA).mono ?_; rintro e wi ⟨gt, rfl, ot, bi⟩; have kXi := (bi.block _ (show _ < wg.heap.size from sX0)).trans kX0; have kAi := (bi.block _ (show _ < wg.heap.size from sA0)).trans kA0; have S1 := And.intro (at_cell kXi 0) (And.intro (at_cell kXi 1) (And.intro (at_cell kXi 2) (And.intro (at_cell kXi 3) (And.intro (at_cell kXi 4) (And.intro (at_cell kAi 0) (And.intro (at_cell kAi 1) (And.intro (at_cell kAi 2) (And.intro (at_cell kAi 3) (at_cell kAi 4))))))))); have OXi := owns_below OX bi) | (go_at_call 27; refine (eqBook_same bn0 bs0 _ _ xs0 bf0 be0 _ (ReadsR.of_own runC_len OXi) (ReadsR.of_own runC_len ot)).mono ?_; rintro e wj0 ⟨rfl, bj⟩; have kXj := (bj.block _ (heap_lt kXi)).trans kXi; have kAj := (bj.block _ (heap_lt kAi)).trans kAi; have S2 := And.intro (at_cell kXj 0) (And.intro (at_cell kXj 1) (And.intro (at_cell kXj 2) (And.intro (at_cell kXj 3) (And.intro (at_cell kXj 4) (And.intro (at_cell kAj 0) (And.intro (at_cell kAj 1) (And.intro (at_cell kAj 2) (And.intro (at_cell kAj 3) (at_cell kAj 4))))))))))))
  have b : Below wg.heap.size wg wj0 := bw_call (bw_call (bw_drew (Below.refl _ _)) bi) bj
  clear S0 S1 S2 RA OX OXi kXi kAi kXj kAj ot bi bj
  replace d := bw_call d b
  replace kA0 := (b.block _ sA0).trans kA0
  replace sA0 := Nat.lt_of_lt_of_le sA0 b.size
  replace r0 := r0.below (b.mono y0)
  replace y0 := Nat.le_trans y0 b.size
  replace kA1 := (b.block _ sA1).trans kA1
  replace sA1 := Nat.lt_of_lt_of_le sA1 b.size
  replace r1 := r1.below (b.mono y1)
  replace y1 := Nat.le_trans y1 b.size
  replace ox0 := owns_below ox0 b
  replace kX0 := (b.block _ sX0).trans kX0
  replace sX0 := Nat.lt_of_lt_of_le sX0 b.size
  replace ox1 := owns_below ox1 b
  replace kX1 := (b.block _ sX1).trans kX1
  replace sX1 := Nat.lt_of_lt_of_le sX1 b.size
  clear b
  go_wp2_with fail
  have S0 : wj0.drew.cell? ⟨wf1.heap.size, 0, none⟩ = some (.string bn1) ∧ wj0.drew.cell? ⟨wf1.heap.size, 1, none⟩ = some (.int .i64 bs1) ∧ wj0.drew.cell? ⟨wf1.heap.size, 2, none⟩ = some (.slice (some ⟨gx1, 0, none⟩) xs1.length xs1.length) ∧ wj0.drew.cell? ⟨wf1.heap.size, 3, none⟩ = some (.bool bf1) ∧ wj0.drew.cell? ⟨wf1.heap.size, 4, none⟩ = some (.int .i64 be1) ∧ wj0.drew.cell? ⟨w.heap.size + 1, 0, none⟩ = some (.string bn1) ∧ wj0.drew.cell? ⟨w.heap.size + 1, 1, none⟩ = some (.int .i64 bs1) ∧ wj0.drew.cell? ⟨w.heap.size + 1, 2, none⟩ = some (.slice o1 xs1.length c1) ∧ wj0.drew.cell? ⟨w.heap.size + 1, 3, none⟩ = some (.bool bf1) ∧ wj0.drew.cell? ⟨w.heap.size + 1, 4, none⟩ = some (.int .i64 be1) := ⟨at_cell kX1 0, at_cell kX1 1, at_cell kX1 2, at_cell kX1 3, at_cell kX1 4, at_cell kA1 0, at_cell kA1 1, at_cell kA1 2, at_cell kA1 3, at_cell kA1 4⟩
  have RA : ReadsR 3 runC wj0.drew.heap.size wj0.drew (.slice o1 xs1.length c1) xs1 := (r1.mono y1).below ((Below.refl _ _).drew)
  have OX := owns_below (w' := wj0.drew) ox1 ((Below.refl _ _).drew)
  go_region_held3 (fun w' => w'.cell? ⟨wf1.heap.size, 0, none⟩ = some (.string bn1) ∧ w'.cell? ⟨wf1.heap.size, 1, none⟩ = some (.int .i64 bs1) ∧ w'.cell? ⟨wf1.heap.size, 2, none⟩ = some (.slice (some ⟨gx1, 0, none⟩) xs1.length xs1.length) ∧ w'.cell? ⟨wf1.heap.size, 3, none⟩ = some (.bool bf1) ∧ w'.cell? ⟨wf1.heap.size, 4, none⟩ = some (.int .i64 be1) ∧ w'.cell? ⟨w.heap.size + 1, 0, none⟩ = some (.string bn1) ∧ w'.cell? ⟨w.heap.size + 1, 1, none⟩ = some (.int .i64 bs1) ∧ w'.cell? ⟨w.heap.size + 1, 2, none⟩ = some (.slice o1 xs1.length c1) ∧ w'.cell? ⟨w.heap.size + 1, 3, none⟩ = some (.bool bf1) ∧ w'.cell? ⟨w.heap.size + 1, 4, none⟩ = some (.int .i64 be1))
    ((first | exact S0 | exact S1 | exact S2))
    ((first | (go_at_call 25; refine (toBook_any bn1 bs1 _ xs1 bf1 be1 _ hbr1 RA).mono ?_; rintro e wi ⟨gt, rfl, ot, bi⟩; have kXi := (bi.block _ (show _ < wj0.heap.size from sX1)).trans kX1; have kAi := (bi.block _ (show _ < wj0.heap.size from sA1)).trans kA1; have S1 := And.intro (at_cell kXi 0) (And.intro (at_cell kXi 1) (And.intro (at_cell kXi 2) (And.intro (at_cell kXi 3) (And.intro (at_cell kXi 4) (And.intro (at_cell kAi 0) (And.intro (at_cell kAi 1) (And.intro (at_cell kAi 2) (And.intro (at_cell kAi 3) (at_cell kAi 4))))))))); have OXi := owns_below OX bi) | (go_at_call 27; refine (eqBook_same bn1 bs1 _ _ xs1 bf1 be1 _ (ReadsR.of_own runC_len OXi) (ReadsR.of_own runC_len ot)).mono ?_; rintro e wj1 ⟨rfl, bj⟩; have kXj := (bj.block _ (heap_lt kXi)).trans kXi; have kAj := (bj.block _ (heap_lt kAi)).trans kAi; have S2 := And.intro (at_cell kXj 0) (And.intro (at_cell kXj 1) (And.intro (at_cell kXj 2) (And.intro (at_cell kXj 3) (And.intro (at_cell kXj 4) (And.intro (at_cell kAj 0) (And.intro (at_cell kAj 1) (And.intro (at_cell kAj 2) (And.intro (at_cell kAj 3) (at_cell kAj 4))))))))))))
  have b : Below wj0.heap.size wj0 wj1 := bw_call (bw_call (bw_drew (Below.refl _ _)) bi) bj
  clear S0 S1 S2 RA OX OXi kXi kAi kXj kAj ot bi bj
  replace d := bw_call d b
  replace kA0 := (b.block _ sA0).trans kA0
  replace sA0 := Nat.lt_of_lt_of_le sA0 b.size
  replace r0 := r0.below (b.mono y0)
  replace y0 := Nat.le_trans y0 b.size
  replace kA1 := (b.block _ sA1).trans kA1
  replace sA1 := Nat.lt_of_lt_of_le sA1 b.size
  replace r1 := r1.below (b.mono y1)
  replace y1 := Nat.le_trans y1 b.size
  replace ox0 := owns_below ox0 b
  replace kX0 := (b.block _ sX0).trans kX0
  replace sX0 := Nat.lt_of_lt_of_le sX0 b.size
  replace ox1 := owns_below ox1 b
  replace kX1 := (b.block _ sX1).trans kX1
  replace sX1 := Nat.lt_of_lt_of_le sX1 b.size
  clear b
  go_wp2_with fail
  go_ret
  exact ⟨rfl, d⟩

set_option maxRecDepth 100000 in
theorem lifted (os : Os) (started : os.Started) (H : Type) (enc : TypeId × Value → H) :
    ReturnsInHanded {} Try.checked os 8 .any (Rows.fnExactAlikeSpec.pre6 enc Try.prog Try.f8 Rows.fnExactAlikeRow.domain false) (Rows.fnExactAlikeSpec.post enc Try.prog Try.f8 false true false false) := by
  refine returnsInHanded_of_change (C := Try.checked) own started (by kernel_rfl) Try.func8
    (ChangeSpec.witness6 (enc := enc) (C := Try.checked) false ⟨#[], #[.agg #[.string ByteArray.empty, .int .i64 0, .slice none 0 0, .bool false, .int .i64 0], .agg #[.string ByteArray.empty, .int .i64 0, .slice none 0 0, .bool false, .int .i64 0]], []⟩ 8 (by kernel_rfl) (by kernel_rfl) (by kernel_rfl) (by kernel_rfl)) ?_
  intro W base args ds gs before hval0 hW hcnd _
  have hval : ∀ (j : Nat) t v, Try.f8.params[j]? = some t → args[j]? = some v → Value.okWide Try.prog W .any base t v := hval0
  have hW' := hW
  obtain ⟨p, q, hA0, hV, rfl, hfz, hnd⟩ := hW
  have hA : DataW.TrodAll enc Try.prog W 0 (fun _ => true) true Try.f8.params.toList args.toList ds p := hA0
  rw [Try.params8] at hA hval
  obtain ⟨v0, vs0, d0, ds0, p0, q0, hargs, rfl, rfl, h0, rr0⟩ := trodAll_cons hA
  obtain ⟨v1, vs1, d1, ds1, p1, q1, rfl, rfl, rfl, h1, rr1⟩ := trodAll_cons rr0
  obtain ⟨rfl, rfl, rfl⟩ := trodAll_nil rr1
  obtain rfl : args = #[v0, v1] := by cases args; simp_all
  obtain ⟨rfl, rfl⟩ := trodVars_none hV
  have kk0 := h0
  have lt0 : ∀ x ∈ p0, x.block < W.heap.size := by obtain ⟨fuel, hfuel⟩ := kk0; exact DataW.trod_lt fuel _ _ _ hfuel
  obtain ⟨bn0, bs0, bm0, xs0, bf0, be0, rfl, w0, z0, u0⟩ := open_book (hval 0 39 v0 rfl rfl) h0
  have kk1 := h1
  have lt1 : ∀ x ∈ p1, x.block < W.heap.size := by obtain ⟨fuel, hfuel⟩ := kk1; exact DataW.trod_lt fuel _ _ _ hfuel
  obtain ⟨bn1, bs1, bm1, xs1, bf1, be1, rfl, w1, z1, u1⟩ := open_book (hval 1 39 v1 rfl rfl) h1
  clear hA0 hval0
  refine (walk bn0 bs0 bm0 xs0 bf0 be0 bn1 bs1 bm1 xs1 bf1 be1 W w0 z0 u0 w1 z1 u1).mono fun e W' ⟨he, bel⟩ => ?_
  subst he
  exact ⟨_, rfl, _, _, _, [], _, [], hW', trodAll_mk1 (shut_bool Try.underlying4 _), (trodAll_cons_mk (Below.trod laidOut (by kernel_rfl) (of_decide_eq_true (by kernel_rfl)) kk0 bel lt0) (trodAll_cons_mk (Below.trod laidOut (by kernel_rfl) (of_decide_eq_true (by kernel_rfl)) kk1 bel lt1) trodAll_mk0)), rfl, bel.frame _, fun h => by cases h⟩

theorem over : Rows.fnExactAlikeRow.holds Try.pinned (OpenSpec.ofChange Rows.fnExactAlikeSpec) :=
  OpenClaim.holds_of_wide 8 Try.f8 rfl rfl rfl rfl rfl rfl rfl ⟨rfl, rfl, rfl, rfl, rfl⟩ rfl rfl rfl rfl rfl (by kernel_rfl) Try.func8 (by kernel_rfl)
    (of_decide_eq_true (by kernel_rfl)) (by unfold Func.isWrapper; first | (rw [if_pos (by decide +kernel)]; kernel_rfl) | (rw [if_neg (by decide +kernel)]; exact ⟨rfl, rfl⟩))
    (fun os started H enc _ => lifted os started H enc)

theorem proved : Rows.FnExactAlikeSaid :=
  over
#print axioms proved
end Go.Proofs.Ytehjahegokeofaj.fnExactAlike
