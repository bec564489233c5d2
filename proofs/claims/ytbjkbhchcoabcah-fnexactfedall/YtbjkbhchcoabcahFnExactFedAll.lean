/-
  The law FnExactFedAll answers true at every input that the row speaks of, and its arguments read afterwards as before; the walk goes over the callees' contracts.
-/
import Derived.Test.YtbjkbhchcoabcahRows
import Derived.WalkKit
import Derived.ProofKit
import Derived.OpenShut
import Derived.ChangeOld
import Derived.Below
import Derived.Carry
import Derived.Test.YtbjkbhchcoabcahArgs
import Derived.Test.YtbjkbhchcoabcahFeedLaw
import Derived.Test.YtbjkbhchcoabcahImFedAll
import Derived.Test.YtbjkbhchcoabcahTextsS
namespace Go.Proofs.Ytbjkbhchcoabcah.fnExactFedAll
open Go.ChangeShapes Go.WideShapes Go.ChangeAt Go.RowKit
set_option linter.unusedVariables false

theorem own : ownKnob Try.prog.godebug = none := by kernel_rfl
theorem laidOut : laidOutB Try.prog = true := by kernel_rfl

set_option maxHeartbeats 4000000 in
theorem walk (r0 : ByteArray) (k0 : Int) (a1 : Value) (xs1 : List ByteArray) (w : World) (w0 : r0.size ≤ maxLen) (x0 : (Lit.int .i64 k0).wf = true) (w1 : Reads w.heap.size w a1 (xs1.map Value.string)) (z1 : ∀ x ∈ xs1, x.size ≤ maxLen) :
    Calls Try.prog 6 #[.agg #[.string r0, .int .i64 k0], a1] w fun e w' => e = .returned (.bool true) ∧ Below w.heap.size w w' := by
  by_cases h : (1048576 : Int) < (r0.size : Int)
  · go_enter Try.func6, Try.ntmps6
    go_wp2_with fail
    refine (szFeed_any _ _ _ _ w0 (by omega) (by omega)).mono ?_
    rintro e w1 ⟨rfl, b1⟩
    rw [if_pos h]
    go_wp2_with fail
    go_ret
    exact ⟨rfl, bw_call (bw_alloc (Below.refl _ _)) b1⟩
  have hr : r0.size ≤ 1099511627776 := by omega
  have hl : 0 ≤ (1048576 : Int) - (r0.size : Int) := by omega
  obtain ⟨WA, hWA⟩ : ∃ WA, WA = w.alloc (.cells #[.string r0, .int .i64 k0] 29) := ⟨_, rfl⟩
  have kA : WA.heap[w.heap.size]? = some (.cells #[.string r0, .int .i64 k0] 29 (0, 0)) := by rw [hWA]; exact heap_alloc_new w _
  have d : Below w.heap.size w WA := by rw [hWA]; exact bw_alloc (Below.refl _ _)
  have sA : w.heap.size < WA.heap.size := by rw [hWA]; simp
  have y1 := d.size
  have r1 := w1.below d
  have HZ : Hid (∀ x ∈ xs1, x.size ≤ maxLen) := z1
  have HWA : Hid (WA = _) := hWA
  clear hWA w1 z1
  go_enter Try.func6, Try.ntmps6
  go_wp2_with fail
  rw [← HWA.out]
  clear HWA
  refine (szFeed_any _ _ _ _ w0 (by omega) (by omega)).mono ?_
  rintro e wb ⟨rfl, b⟩
  rw [if_neg (by omega)]
  replace d := bw_call d b
  replace kA := (b.block _ sA).trans kA
  replace sA := Nat.lt_of_lt_of_le sA b.size
  replace r1 := r1.below (b.mono y1)
  replace y1 := Nat.le_trans y1 b.size
  clear b
  have p0 := at_cell kA 0
  have p1 := at_cell kA 1
  go_wp2_with fail
  refine (szTexts_any a1 xs1 _ _ hl (by omega) HZ.out (r1.mono y1)).mono ?_
  rintro e wc ⟨q, rfl, hq, rfl⟩
  rcases hq with rfl | ⟨hq0, hq1, hpl, hpz⟩
  · go_wp2_with fail
    go_ret
    exact ⟨rfl, d⟩
  have HPZ : Hid (∀ p ∈ xs1, p.size ≤ 1099511627776) := fun p hp => by have := hpz p hp; omega
  clear hpz HZ
  have hyl : (fedAll r0 k0 xs1).2.length ≤ 53150 := fedAll_len r0 k0 xs1
  obtain ⟨⟨⟨nr, nk⟩, ys⟩, hfd⟩ : ∃ fd, fedAll r0 k0 xs1 = fd := ⟨_, rfl⟩
  have HFD : Hid (fedAll r0 k0 xs1 = ((nr, nk), ys)) := hfd
  rw [hfd] at hyl
  clear hfd
  simp only at hyl
  go_wp2_with fail
  refine (toFeed_any _ _ _).mono ?_
  rintro e w2 ⟨rfl, b⟩
  replace d := bw_call d b
  replace kA := (b.block _ sA).trans kA
  replace sA := Nat.lt_of_lt_of_le sA b.size
  replace r1 := r1.below (b.mono y1)
  replace y1 := Nat.le_trans y1 b.size
  clear b
  clear p0 p1
  go_wp2_with fail
  refine (toTexts_any a1 xs1 _ hpl (r1.mono y1)).mono ?_
  rintro e w3 ⟨gt, rfl, hgt, ot, b⟩
  replace d := bw_call d b
  replace kA := (b.block _ sA).trans kA
  replace sA := Nat.lt_of_lt_of_le sA b.size
  replace r1 := r1.below (b.mono y1)
  replace y1 := Nat.le_trans y1 b.size
  clear b
  go_wp2_with fail
  refine (specFedAll_any r0 _ xs1 k0 _ hr HPZ.out (Reads.of_own ot)).mono ?_
  rw [HFD.out]
  simp only
  rintro e w4 ⟨sv, rfl, so, _, b⟩
  replace d := bw_call d b
  replace kA := (b.block _ sA).trans kA
  replace sA := Nat.lt_of_lt_of_le sA b.size
  replace r1 := r1.below (b.mono y1)
  replace y1 := Nat.le_trans y1 b.size
  clear b
  have sr := Reads.of_own so
  have ys4 : w4.heap.size ≤ w4.heap.size := Nat.le_refl _
  clear so ot hgt
  -- the answer's box
  have b := bw_alloc (o := .cells #[.string nr, .int .i64 nk] 32) (Below.refl w4.heap.size w4)
  have kB := heap_alloc_new w4 (.cells #[.string nr, .int .i64 nk] 32)
  have sB : w4.heap.size < (w4.alloc (.cells #[.string nr, .int .i64 nk] 32)).heap.size := by simp
  replace d := bw_call d b
  replace kA := (b.block _ sA).trans kA
  replace sA := Nat.lt_of_lt_of_le sA b.size
  replace r1 := r1.below (b.mono y1)
  replace y1 := Nat.le_trans y1 b.size
  replace sr := sr.below (b.mono ys4)
  replace ys4 := Nat.le_trans ys4 b.size
  clear b
  go_wp2_with fail
  generalize w4.alloc (.cells #[.string nr, .int .i64 nk] 32) = W5 at *
  refine (toTexts_any a1 xs1 _ hpl (r1.mono y1)).mono ?_
  rintro e w6 ⟨gx, rfl, hgx, ox, b⟩
  have hgx2 : w4.heap.size < gx := Nat.lt_of_lt_of_le sB hgx
  have hgx3 : w.heap.size < gx := Nat.lt_of_lt_of_le sA hgx
  replace d := bw_call d b
  replace kA := (b.block _ sA).trans kA
  replace sA := Nat.lt_of_lt_of_le sA b.size
  replace r1 := r1.below (b.mono y1)
  replace y1 := Nat.le_trans y1 b.size
  replace sr := sr.below (b.mono ys4)
  replace ys4 := Nat.le_trans ys4 b.size
  replace kB := (b.block _ sB).trans kB
  replace sB := Nat.lt_of_lt_of_le sB b.size
  clear b
  have sx := (ox.lt gx rfl).2
  have p0 := at_cell kA 0
  have p1 := at_cell kA 1
  go_wp2_with fail
  refine (toFeed_any _ _ _).mono ?_
  rintro e w7 ⟨rfl, b⟩
  replace d := bw_call d b
  replace kA := (b.block _ sA).trans kA
  replace sA := Nat.lt_of_lt_of_le sA b.size
  replace r1 := r1.below (b.mono y1)
  replace y1 := Nat.le_trans y1 b.size
  replace sr := sr.below (b.mono ys4)
  replace ys4 := Nat.le_trans ys4 b.size
  replace kB := (b.block _ sB).trans kB
  replace sB := Nat.lt_of_lt_of_le sB b.size
  replace ox := owns_below ox b
  replace sx := Nat.lt_of_lt_of_le sx b.size
  clear b
  clear p0 p1
  go_wp2_with fail
  refine (implFedAll_any r0 _ xs1 k0 _ hr HPZ.out (Reads.of_own ox)).mono ?_
  rw [HFD.out]
  simp only
  rintro e w8 ⟨gv, rfl, go, _, b⟩
  have tx : gx < w7.heap.size := sx
  have tB : w4.heap.size < w7.heap.size := sB
  have tA : w.heap.size < w7.heap.size := sA
  have yb := b.size
  replace d := bw_call d b
  replace kA := (b.block _ sA).trans kA
  replace sA := Nat.lt_of_lt_of_le sA b.size
  replace r1 := r1.below (b.mono y1)
  replace y1 := Nat.le_trans y1 b.size
  replace sr := sr.below (b.mono ys4)
  replace ys4 := Nat.le_trans ys4 b.size
  replace kB := (b.block _ sB).trans kB
  replace sB := Nat.lt_of_lt_of_le sB b.size
  replace ox := owns_below ox b
  replace sx := Nat.lt_of_lt_of_le sx b.size
  clear b
  -- the program's answer's box
  have b := bw_alloc (o := .cells #[.string nr, .int .i64 nk] 32) (Below.refl w8.heap.size w8)
  have kG := heap_alloc_new w8 (.cells #[.string nr, .int .i64 nk] 32)
  have sG : w8.heap.size < (w8.alloc (.cells #[.string nr, .int .i64 nk] 32)).heap.size := by simp
  have tG : w7.heap.size ≤ w8.heap.size := yb
  replace d := bw_call d b
  replace kA := (b.block _ sA).trans kA
  replace sA := Nat.lt_of_lt_of_le sA b.size
  replace r1 := r1.below (b.mono y1)
  replace y1 := Nat.le_trans y1 b.size
  replace sr := sr.below (b.mono ys4)
  replace ys4 := Nat.le_trans ys4 b.size
  replace kB := (b.block _ sB).trans kB
  replace sB := Nat.lt_of_lt_of_le sB b.size
  replace ox := owns_below ox b
  replace sx := Nat.lt_of_lt_of_le sx b.size
  replace go := owns_below go b
  replace yb := Nat.le_trans yb b.size
  clear b
  have p0 := at_cell kG 0
  have p1 := at_cell kG 1
  have q0 := at_cell kB 0
  have q1 := at_cell kB 1
  go_wp2_with fail
  generalize w8.alloc (.cells #[.string nr, .int .i64 nk] 32) = W9 at *
  refine (eqFeed_any nr nk nr nk _).mono ?_
  rintro e w10 ⟨rfl, b⟩
  rw [show (decide (nr = nr) && decide (nk = nk)) = true by simp]
  replace d := bw_call d b
  replace kA := (b.block _ sA).trans kA
  replace sA := Nat.lt_of_lt_of_le sA b.size
  replace r1 := r1.below (b.mono y1)
  replace y1 := Nat.le_trans y1 b.size
  replace sr := sr.below (b.mono ys4)
  replace ys4 := Nat.le_trans ys4 b.size
  replace kB := (b.block _ sB).trans kB
  replace sB := Nat.lt_of_lt_of_le sB b.size
  replace ox := owns_below ox b
  replace sx := Nat.lt_of_lt_of_le sx b.size
  replace go := owns_below go b
  replace yb := Nat.le_trans yb b.size
  replace kG := (b.block _ sG).trans kG
  replace sG := Nat.lt_of_lt_of_le sG b.size
  clear b
  clear p0 p1 q0 q1
  go_wp2_with fail
  refine (eqTexts_any gv sv ys ys _ (Reads.of_own go) (sr.mono ys4)).mono ?_
  rintro e w11 ⟨rfl, b⟩
  rw [show decide (ys = ys) = true by simp]
  replace d := bw_call d b
  replace kA := (b.block _ sA).trans kA
  replace sA := Nat.lt_of_lt_of_le sA b.size
  replace r1 := r1.below (b.mono y1)
  replace y1 := Nat.le_trans y1 b.size
  replace sr := sr.below (b.mono ys4)
  replace ys4 := Nat.le_trans ys4 b.size
  replace kB := (b.block _ sB).trans kB
  replace sB := Nat.lt_of_lt_of_le sB b.size
  replace ox := owns_below ox b
  replace sx := Nat.lt_of_lt_of_le sx b.size
  replace go := owns_below go b
  replace yb := Nat.le_trans yb b.size
  replace kG := (b.block _ sG).trans kG
  replace sG := Nat.lt_of_lt_of_le sG b.size
  clear b
  go_wp2_with fail
  refine (toTexts_any a1 xs1 _ hpl (r1.mono y1)).mono ?_
  rintro e w12 ⟨gt, rfl, hgt, ot, b⟩
  replace d := bw_call d b
  replace kA := (b.block _ sA).trans kA
  replace sA := Nat.lt_of_lt_of_le sA b.size
  replace r1 := r1.below (b.mono y1)
  replace y1 := Nat.le_trans y1 b.size
  replace sr := sr.below (b.mono ys4)
  replace ys4 := Nat.le_trans ys4 b.size
  replace kB := (b.block _ sB).trans kB
  replace sB := Nat.lt_of_lt_of_le sB b.size
  replace ox := owns_below ox b
  replace sx := Nat.lt_of_lt_of_le sx b.size
  replace go := owns_below go b
  replace yb := Nat.le_trans yb b.size
  replace kG := (b.block _ sG).trans kG
  replace sG := Nat.lt_of_lt_of_le sG b.size
  clear b
  go_wp2_with fail
  refine (eqTexts_any _ _ xs1 xs1 _ (Reads.of_own ox) (Reads.of_own ot)).mono ?_
  rintro e w13 ⟨rfl, b⟩
  rw [show decide (xs1 = xs1) = true by simp]
  replace d := bw_call d b
  replace kA := (b.block _ sA).trans kA
  replace sA := Nat.lt_of_lt_of_le sA b.size
  replace r1 := r1.below (b.mono y1)
  replace y1 := Nat.le_trans y1 b.size
  replace sr := sr.below (b.mono ys4)
  replace ys4 := Nat.le_trans ys4 b.size
  replace kB := (b.block _ sB).trans kB
  replace sB := Nat.lt_of_lt_of_le sB b.size
  replace ox := owns_below ox b
  replace sx := Nat.lt_of_lt_of_le sx b.size
  replace go := owns_below go b
  replace yb := Nat.le_trans yb b.size
  replace kG := (b.block _ sG).trans kG
  replace sG := Nat.lt_of_lt_of_le sG b.size
  clear b
  clear ot hgt
  go_wp2_with fail
  refine (marked_any gx xs1.length xs1.length _ 1 _ _ (by omega) (by omega) ox).mono ?_
  rintro e w14 ⟨rfl, _, b⟩
  have hgG : gx < w8.heap.size := Nat.lt_of_lt_of_le tx tG
  clear ox
  replace d := d.trans (b.toBelow (by omega) (by omega))
  replace kA := (b.block _ sA (by omega)).trans kA
  replace sA := Nat.lt_of_lt_of_le sA b.size
  replace r1 := r1.below (b.toBelow y1 (by omega))
  replace y1 := Nat.le_trans y1 b.size
  replace sr := sr.below (b.toBelow ys4 (by omega))
  replace ys4 := Nat.le_trans ys4 b.size
  replace kB := (b.block _ sB (by omega)).trans kB
  replace sB := Nat.lt_of_lt_of_le sB b.size
  replace sx := Nat.lt_of_lt_of_le sx b.size
  replace go := ownsRow_upto go b (by omega)
  replace yb := Nat.le_trans yb b.size
  replace kG := (b.block _ sG (by omega)).trans kG
  replace sG := Nat.lt_of_lt_of_le sG b.size
  clear b
  have p0 := at_cell kG 0
  have p1 := at_cell kG 1
  have q0 := at_cell kB 0
  have q1 := at_cell kB 1
  go_wp2_with fail
  refine (eqFeed_any nr nk nr nk _).mono ?_
  rintro e w15 ⟨rfl, b⟩
  rw [show (decide (nr = nr) && decide (nk = nk)) = true by simp]
  replace d := bw_call d b
  replace kA := (b.block _ sA).trans kA
  replace sA := Nat.lt_of_lt_of_le sA b.size
  replace r1 := r1.below (b.mono y1)
  replace y1 := Nat.le_trans y1 b.size
  replace sr := sr.below (b.mono ys4)
  replace ys4 := Nat.le_trans ys4 b.size
  replace kB := (b.block _ sB).trans kB
  replace sB := Nat.lt_of_lt_of_le sB b.size
  replace sx := Nat.lt_of_lt_of_le sx b.size
  replace go := owns_below go b
  replace yb := Nat.le_trans yb b.size
  replace kG := (b.block _ sG).trans kG
  replace sG := Nat.lt_of_lt_of_le sG b.size
  clear b
  clear p0 p1 q0 q1
  go_wp2_with fail
  refine (eqTexts_any gv sv ys ys _ (Reads.of_own go) (sr.mono ys4)).mono ?_
  rintro e w16 ⟨rfl, b⟩
  rw [show decide (ys = ys) = true by simp]
  replace d := bw_call d b
  replace kA := (b.block _ sA).trans kA
  replace sA := Nat.lt_of_lt_of_le sA b.size
  replace r1 := r1.below (b.mono y1)
  replace y1 := Nat.le_trans y1 b.size
  replace sr := sr.below (b.mono ys4)
  replace ys4 := Nat.le_trans ys4 b.size
  replace kB := (b.block _ sB).trans kB
  replace sB := Nat.lt_of_lt_of_le sB b.size
  replace sx := Nat.lt_of_lt_of_le sx b.size
  replace go := owns_below go b
  replace yb := Nat.le_trans yb b.size
  replace kG := (b.block _ sG).trans kG
  replace sG := Nat.lt_of_lt_of_le sG b.size
  clear b
  clear kG sG
  go_wp2_with fail
  refine (markedRow_any gv ys.length w7.heap.size 1 _ _ (by omega) (by omega) yb go).mono ?_
  rintro e w17 ⟨rfl, go2, b⟩
  clear go
  have vA := d.size
  have vw : w.heap.size ≤ w7.heap.size := Nat.le_of_lt tA
  have v4 : w4.heap.size ≤ w7.heap.size := Nat.le_of_lt tB
  replace d := d.trans (b.mono (by omega))
  replace kA := (b.block _ (by omega)).trans kA
  replace sA := Nat.lt_of_lt_of_le sA b.size
  replace r1 := r1.below (b.mono (by omega))
  replace y1 := Nat.le_trans y1 b.size
  replace sr := sr.below (b.mono (by omega))
  replace ys4 := Nat.le_trans ys4 b.size
  replace kB := (b.block _ (by omega)).trans kB
  replace sB := Nat.lt_of_lt_of_le sB b.size
  replace sx := Nat.lt_of_lt_of_le sx b.size
  replace yb := Nat.le_trans yb b.size
  clear b
  clear vA
  go_wp2_with fail
  refine (held_any gv ys.length 1 _ (by omega) (by omega) (Reads.of_own go2)).mono ?_
  rintro e w18 ⟨rfl, b⟩
  replace d := bw_call d b
  replace kA := (b.block _ sA).trans kA
  replace sA := Nat.lt_of_lt_of_le sA b.size
  replace r1 := r1.below (b.mono y1)
  replace y1 := Nat.le_trans y1 b.size
  replace sr := sr.below (b.mono ys4)
  replace ys4 := Nat.le_trans ys4 b.size
  replace kB := (b.block _ sB).trans kB
  replace sB := Nat.lt_of_lt_of_le sB b.size
  replace sx := Nat.lt_of_lt_of_le sx b.size
  replace yb := Nat.le_trans yb b.size
  replace go2 := owns_below go2 b
  clear b
  have p0 := at_cell kA 0
  have p1 := at_cell kA 1
  go_wp2_with fail
  refine (toFeed_any _ _ _).mono ?_
  rintro e w19 ⟨rfl, b⟩
  replace d := bw_call d b
  replace kA := (b.block _ sA).trans kA
  replace sA := Nat.lt_of_lt_of_le sA b.size
  replace r1 := r1.below (b.mono y1)
  replace y1 := Nat.le_trans y1 b.size
  replace sr := sr.below (b.mono ys4)
  replace ys4 := Nat.le_trans ys4 b.size
  replace kB := (b.block _ sB).trans kB
  replace sB := Nat.lt_of_lt_of_le sB b.size
  replace sx := Nat.lt_of_lt_of_le sx b.size
  replace yb := Nat.le_trans yb b.size
  replace go2 := owns_below go2 b
  clear b
  clear p0 p1
  go_wp2_with fail
  refine (toTexts_any a1 xs1 _ hpl (r1.mono y1)).mono ?_
  rintro e w20 ⟨gt, rfl, hgt, ot, b⟩
  replace d := bw_call d b
  replace kA := (b.block _ sA).trans kA
  replace sA := Nat.lt_of_lt_of_le sA b.size
  replace r1 := r1.below (b.mono y1)
  replace y1 := Nat.le_trans y1 b.size
  replace sr := sr.below (b.mono ys4)
  replace ys4 := Nat.le_trans ys4 b.size
  replace kB := (b.block _ sB).trans kB
  replace sB := Nat.lt_of_lt_of_le sB b.size
  replace sx := Nat.lt_of_lt_of_le sx b.size
  replace yb := Nat.le_trans yb b.size
  replace go2 := owns_below go2 b
  clear b
  go_wp2_with fail
  refine (implFedAll_any r0 _ xs1 k0 _ hr HPZ.out (Reads.of_own ot)).mono ?_
  rw [HFD.out]
  simp only
  rintro e w21 ⟨hv, rfl, ho, _, b⟩
  replace d := bw_call d b
  replace kA := (b.block _ sA).trans kA
  replace sA := Nat.lt_of_lt_of_le sA b.size
  replace r1 := r1.below (b.mono y1)
  replace y1 := Nat.le_trans y1 b.size
  replace sr := sr.below (b.mono ys4)
  replace ys4 := Nat.le_trans ys4 b.size
  replace kB := (b.block _ sB).trans kB
  replace sB := Nat.lt_of_lt_of_le sB b.size
  replace sx := Nat.lt_of_lt_of_le sx b.size
  replace yb := Nat.le_trans yb b.size
  replace go2 := owns_below go2 b
  clear b
  clear ot hgt
  have b := bw_alloc (o := .cells #[.string nr, .int .i64 nk] 32) (Below.refl w21.heap.size w21)
  have kH := heap_alloc_new w21 (.cells #[.string nr, .int .i64 nk] 32)
  replace d := bw_call d b
  replace kA := (b.block _ sA).trans kA
  replace sA := Nat.lt_of_lt_of_le sA b.size
  replace r1 := r1.below (b.mono y1)
  replace y1 := Nat.le_trans y1 b.size
  replace sr := sr.below (b.mono ys4)
  replace ys4 := Nat.le_trans ys4 b.size
  replace kB := (b.block _ sB).trans kB
  replace sB := Nat.lt_of_lt_of_le sB b.size
  replace sx := Nat.lt_of_lt_of_le sx b.size
  replace yb := Nat.le_trans yb b.size
  replace go2 := owns_below go2 b
  replace ho := owns_below ho b
  clear b
  have p0 := at_cell kH 0
  have p1 := at_cell kH 1
  have q0 := at_cell kB 0
  have q1 := at_cell kB 1
  go_wp2_with fail
  generalize w21.alloc (.cells #[.string nr, .int .i64 nk] 32) = W22 at *
  refine (eqFeed_any nr nk nr nk _).mono ?_
  rintro e w23 ⟨rfl, b⟩
  rw [show (decide (nr = nr) && decide (nk = nk)) = true by simp]
  replace d := bw_call d b
  replace kA := (b.block _ sA).trans kA
  replace sA := Nat.lt_of_lt_of_le sA b.size
  replace r1 := r1.below (b.mono y1)
  replace y1 := Nat.le_trans y1 b.size
  replace sr := sr.below (b.mono ys4)
  replace ys4 := Nat.le_trans ys4 b.size
  replace kB := (b.block _ sB).trans kB
  replace sB := Nat.lt_of_lt_of_le sB b.size
  replace sx := Nat.lt_of_lt_of_le sx b.size
  replace yb := Nat.le_trans yb b.size
  replace go2 := owns_below go2 b
  replace ho := owns_below ho b
  clear b
  clear p0 p1 q0 q1
  go_wp2_with fail
  refine (eqTexts_any hv sv ys ys _ (Reads.of_own ho) (sr.mono ys4)).mono ?_
  rintro e w24 ⟨rfl, b⟩
  rw [show decide (ys = ys) = true by simp]
  replace d := bw_call d b
  replace kA := (b.block _ sA).trans kA
  replace sA := Nat.lt_of_lt_of_le sA b.size
  replace r1 := r1.below (b.mono y1)
  replace y1 := Nat.le_trans y1 b.size
  replace sr := sr.below (b.mono ys4)
  replace ys4 := Nat.le_trans ys4 b.size
  replace kB := (b.block _ sB).trans kB
  replace sB := Nat.lt_of_lt_of_le sB b.size
  replace sx := Nat.lt_of_lt_of_le sx b.size
  replace yb := Nat.le_trans yb b.size
  replace go2 := owns_below go2 b
  replace ho := owns_below ho b
  clear b
  go_wp2_with fail
  refine (held_any gv ys.length 1 _ (by omega) (by omega) (Reads.of_own go2)).mono ?_
  rintro e w25 ⟨rfl, b⟩
  replace d := bw_call d b
  replace kA := (b.block _ sA).trans kA
  replace sA := Nat.lt_of_lt_of_le sA b.size
  replace r1 := r1.below (b.mono y1)
  replace y1 := Nat.le_trans y1 b.size
  replace sr := sr.below (b.mono ys4)
  replace ys4 := Nat.le_trans ys4 b.size
  replace kB := (b.block _ sB).trans kB
  replace sB := Nat.lt_of_lt_of_le sB b.size
  replace sx := Nat.lt_of_lt_of_le sx b.size
  replace yb := Nat.le_trans yb b.size
  replace go2 := owns_below go2 b
  replace ho := owns_below ho b
  clear b
  go_wp2_with fail
  go_ret
  exact ⟨rfl, d⟩

set_option maxRecDepth 100000 in
theorem lifted (os : Os) (started : os.Started) (H : Type) (enc : TypeId × Value → H) :
    ReturnsInHanded {} Try.checked os 6 .any (Rows.fnExactFedAllSpec.pre6 enc Try.prog Try.f6 Rows.fnExactFedAllRow.domain false) (Rows.fnExactFedAllSpec.post enc Try.prog Try.f6 false true false false) := by
  refine returnsInHanded_of_change (C := Try.checked) own started (by kernel_rfl) Try.func6
    (ChangeSpec.witness6 (enc := enc) (C := Try.checked) false ⟨#[], #[.agg #[.string ByteArray.empty, .int .i64 0], .slice none 0 0], []⟩ 8 (by kernel_rfl) (by kernel_rfl) (by kernel_rfl) (by kernel_rfl)) ?_
  intro W base args ds gs before hval0 hW hcnd _
  have hval : ∀ (j : Nat) t v, Try.f6.params[j]? = some t → args[j]? = some v → Value.okWide Try.prog W .any base t v := hval0
  have hW' := hW
  obtain ⟨p, q, hA0, hV, rfl, hfz, hnd⟩ := hW
  have hA : DataW.TrodAll enc Try.prog W 0 (fun _ => true) true Try.f6.params.toList args.toList ds p := hA0
  rw [Try.params6] at hA hval
  obtain ⟨v0, vs0, d0, ds0, p0, q0, hargs, rfl, rfl, h0, rr0⟩ := trodAll_cons hA
  obtain ⟨v1, vs1, d1, ds1, p1, q1, rfl, rfl, rfl, h1, rr1⟩ := trodAll_cons rr0
  obtain ⟨rfl, rfl, rfl⟩ := trodAll_nil rr1
  obtain rfl : args = #[v0, v1] := by cases args; simp_all
  obtain ⟨rfl, rfl⟩ := trodVars_none hV
  have kk0 := h0
  have lt0 : ∀ x ∈ p0, x.block < W.heap.size := by obtain ⟨fuel, hfuel⟩ := kk0; exact DataW.trod_lt fuel _ _ _ hfuel
  obtain ⟨r0, k0, rfl, w0, x0⟩ := open_feed (hval 0 29 v0 rfl rfl) h0
  have kk1 := h1
  have lt1 : ∀ x ∈ p1, x.block < W.heap.size := by obtain ⟨fuel, hfuel⟩ := kk1; exact DataW.trod_lt fuel _ _ _ hfuel
  obtain ⟨xs1, w1, z1⟩ := open_strs (hval 1 22 v1 rfl rfl) h1
  clear hA0 hval0
  refine (walk r0 k0 v1 xs1 W w0 x0 w1 z1).mono fun e W' ⟨he, bel⟩ => ?_
  subst he
  exact ⟨_, rfl, _, _, _, [], _, [], hW', trodAll_mk1 (shut_bool Try.underlying4 _), (trodAll_cons_mk (Below.trod laidOut (by kernel_rfl) (of_decide_eq_true (by kernel_rfl)) kk0 bel lt0) (trodAll_cons_mk (Below.trod laidOut (by kernel_rfl) (of_decide_eq_true (by kernel_rfl)) kk1 bel lt1) trodAll_mk0)), rfl, bel.frame _, fun h => by cases h⟩

theorem over : Rows.fnExactFedAllRow.holds Try.pinned (OpenSpec.ofChange Rows.fnExactFedAllSpec) :=
  OpenClaim.holds_of_wide 6 Try.f6 rfl rfl rfl rfl rfl rfl rfl ⟨rfl, rfl, rfl, rfl, rfl⟩ rfl rfl rfl rfl rfl (by kernel_rfl) Try.func6 (by kernel_rfl)
    (of_decide_eq_true (by kernel_rfl)) (by unfold Func.isWrapper; first | (rw [if_pos (by decide +kernel)]; kernel_rfl) | (rw [if_neg (by decide +kernel)]; exact ⟨rfl, rfl⟩))
    (fun os started H enc _ => lifted os started H enc)

theorem proved : Rows.FnExactFedAllSaid :=
  over
#print axioms proved
end Go.Proofs.Ytbjkbhchcoabcah.fnExactFedAll
