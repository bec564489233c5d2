/-
  The law FnExactTaken answers true at every input that the row speaks of, and its arguments read afterwards as before; the walk goes over the callees' contracts.
-/
import Derived.Test.YtghhphhnalfjaaaRows
import Derived.WalkKit
import Derived.ProofKit
import Derived.OpenShut
import Derived.ChangeOld
import Derived.Below
import Derived.Carry
import Derived.Test.YtghhphhnalfjaaaM01
import Derived.Test.YtghhphhnalfjaaaM04
import Derived.Test.YtghhphhnalfjaaaM05
import Derived.Test.YtghhphhnalfjaaaM06
import Derived.Test.YtghhphhnalfjaaaM11
namespace Go.Proofs.Ytghhphhnalfjaaa.fnExactTaken
open Go.ChangeShapes Go.WideShapes Go.ChangeAt Go.RowKit
set_option linter.unusedVariables false

theorem own : ownKnob Try.prog.godebug = none := by kernel_rfl
theorem laidOut : laidOutB Try.prog = true := by kernel_rfl

set_option maxRecDepth 100000 in
set_option maxHeartbeats 8000000 in
theorem walk (v0 : Value) (l0 : List Mg) (a1 : Int) (w : World) (w0 : ReadsR 15 mgC w.heap.size w v0 l0) (z0 : FitPost l0) (w1 : (Lit.int .i64 a1).wf = true) :
    Calls Try.prog 5 #[v0, .int .i64 a1] w fun e w' => e = .returned (.bool true) ∧ Below w.heap.size w w' := by
  have r0 := w0
  have y0 : w.heap.size ≤ w.heap.size := Nat.le_refl _
  clear w0
  have d : Below w.heap.size w w := Below.refl _ _
  go_enter Try.func5, Try.ntmps5
  go_wp2_with fail
  refine (szMsgs_any v0 l0 1048576 _ (by omega) (by omega) z0 (r0.mono y0)).mono ?_
  rintro e wb0 ⟨q0, rfl, hq, b⟩
  replace d := bw_call d b
  replace r0 := r0.below (b.mono y0)
  replace y0 := Nat.le_trans y0 b.size
  clear b
  rcases hq with rfl | ⟨hq00, hq10, hb0⟩
  · go_wp2_with fail
    go_ret
    exact ⟨rfl, d⟩
  go_wp2_with fail
  refine (toMsgsV_any v0 l0 _ hb0 (r0.mono y0)).mono ?_
  rintro e wc0 ⟨ot0v, rfl, ot0, b⟩
  replace d := bw_call d b
  replace r0 := r0.below (b.mono y0)
  replace y0 := Nat.le_trans y0 b.size
  clear b
  have hlen := taken_len l0 a1
  obtain ⟨⟨nms, nm1, nv⟩, hfd⟩ : ∃ fd, taken l0 a1 = fd := ⟨_, rfl⟩
  have HFD : Hid (taken l0 a1 = (nms, nm1, nv)) := hfd
  go_wp2_with fail
  refine (specTaken_any ot0v l0 a1 _ z0 ot0.r).mono ?_
  rw [hfd] at hlen ⊢
  clear hfd
  simp only at hlen ⊢
  rintro e wd ⟨s2, rfl, os0, b⟩
  clear ot0
  replace d := bw_call d b
  replace r0 := r0.below (b.mono y0)
  replace y0 := Nat.le_trans y0 b.size
  clear b
  have os : OwnMs _ wd s2 nms := ⟨os0⟩
  have sr := os.r
  have ys : wd.heap.size ≤ wd.heap.size := Nat.le_refl _
  have cD := d.size
  obtain ⟨zas, zcs, rfl⟩ := os.forms
  clear os os0
  obtain ⟨kd, ds, vw, ⟨sq, cl, tg, ⟨k, nm, ot, at_, va, ep⟩⟩, s, rc, rv⟩ := nm1
  simp only
  have b : Below wd.heap.size wd (wd.alloc (.cells #[.int .i64 kd, .int .i64 ds, .int .i64 vw, .int .i64 sq, .int .i64 cl, .int .i64 tg, .int .i64 k, .string nm, .string ot, .int .i64 at_, .int .i64 va, .int .i64 ep, .int .i64 s, .int .i64 rc, .int .i64 rv] 38)) := bw_alloc (Below.refl _ _)
  have kB := heap_alloc_new wd (.cells #[.int .i64 kd, .int .i64 ds, .int .i64 vw, .int .i64 sq, .int .i64 cl, .int .i64 tg, .int .i64 k, .string nm, .string ot, .int .i64 at_, .int .i64 va, .int .i64 ep, .int .i64 s, .int .i64 rc, .int .i64 rv] 38)
  have sB : wd.heap.size < (wd.alloc (.cells #[.int .i64 kd, .int .i64 ds, .int .i64 vw, .int .i64 sq, .int .i64 cl, .int .i64 tg, .int .i64 k, .string nm, .string ot, .int .i64 at_, .int .i64 va, .int .i64 ep, .int .i64 s, .int .i64 rc, .int .i64 rv] 38)).heap.size := by simp
  replace d := bw_call d b
  replace r0 := r0.below (b.mono y0)
  replace y0 := Nat.le_trans y0 b.size
  replace sr := sr.below (b.mono ys)
  replace ys := Nat.le_trans ys b.size
  clear b
  go_wp2_with fail
  generalize wd.alloc (.cells #[.int .i64 kd, .int .i64 ds, .int .i64 vw, .int .i64 sq, .int .i64 cl, .int .i64 tg, .int .i64 k, .string nm, .string ot, .int .i64 at_, .int .i64 va, .int .i64 ep, .int .i64 s, .int .i64 rc, .int .i64 rv] 38) = We at *
  have cE : wd.heap.size < We.heap.size := sB
  refine (toMsgsV_any v0 l0 _ hb0 (r0.mono y0)).mono ?_
  rintro e wf0 ⟨ox0v, rfl, ox0, b⟩
  have cX0 := b.size
  replace d := bw_call d b
  replace r0 := r0.below (b.mono y0)
  replace y0 := Nat.le_trans y0 b.size
  replace sr := sr.below (b.mono ys)
  replace ys := Nat.le_trans ys b.size
  replace kB := (b.block _ sB).trans kB
  replace sB := Nat.lt_of_lt_of_le sB b.size
  clear b
  have TX0 : Hid _ := ox0.span
  obtain ⟨zax0, zcx0, rfl⟩ := ox0.forms
  go_wp2_with fail
  refine (implTaken_any (.slice zax0 l0.length zcx0) l0 a1 _ z0 hb0 ox0.r).mono ?_
  rw [HFD.out]
  simp only
  rintro e wg ⟨g2, rfl, og0, b⟩
  have cG := b.size
  replace d := bw_call d b
  replace r0 := r0.below (b.mono y0)
  replace y0 := Nat.le_trans y0 b.size
  replace sr := sr.below (b.mono ys)
  replace ys := Nat.le_trans ys b.size
  replace kB := (b.block _ sB).trans kB
  replace sB := Nat.lt_of_lt_of_le sB b.size
  replace ox0 := ox0.below b
  clear b
  have og : OwnMs _ wg g2 nms := ⟨og0⟩
  clear og0
  have TG : Hid _ := og.span
  obtain ⟨zag, zcg, rfl⟩ := og.forms
  have b : Below wg.heap.size wg (wg.alloc (.cells #[.int .i64 kd, .int .i64 ds, .int .i64 vw, .int .i64 sq, .int .i64 cl, .int .i64 tg, .int .i64 k, .string nm, .string ot, .int .i64 at_, .int .i64 va, .int .i64 ep, .int .i64 s, .int .i64 rc, .int .i64 rv] 38)) := bw_alloc (Below.refl _ _)
  have kG := heap_alloc_new wg (.cells #[.int .i64 kd, .int .i64 ds, .int .i64 vw, .int .i64 sq, .int .i64 cl, .int .i64 tg, .int .i64 k, .string nm, .string ot, .int .i64 at_, .int .i64 va, .int .i64 ep, .int .i64 s, .int .i64 rc, .int .i64 rv] 38)
  have sG : wg.heap.size < (wg.alloc (.cells #[.int .i64 kd, .int .i64 ds, .int .i64 vw, .int .i64 sq, .int .i64 cl, .int .i64 tg, .int .i64 k, .string nm, .string ot, .int .i64 at_, .int .i64 va, .int .i64 ep, .int .i64 s, .int .i64 rc, .int .i64 rv] 38)).heap.size := by simp
  replace d := bw_call d b
  replace r0 := r0.below (b.mono y0)
  replace y0 := Nat.le_trans y0 b.size
  replace sr := sr.below (b.mono ys)
  replace ys := Nat.le_trans ys b.size
  replace kB := (b.block _ sB).trans kB
  replace sB := Nat.lt_of_lt_of_le sB b.size
  replace ox0 := ox0.below b
  replace og := og.below b
  clear b
  go_wp2_with fail
  generalize wg.alloc (.cells #[.int .i64 kd, .int .i64 ds, .int .i64 vw, .int .i64 sq, .int .i64 cl, .int .i64 tg, .int .i64 k, .string nm, .string ot, .int .i64 at_, .int .i64 va, .int .i64 ep, .int .i64 s, .int .i64 rc, .int .i64 rv] 38) = Wy at *
  have hself : (nv != nv) = false := by simp
  refine (eqMsgs_same (.slice zag nms.length zcg) (.slice zas nms.length zcs) nms _ og.r (sr.mono ys)).mono ?_
  rintro e we0 ⟨rfl, b⟩
  replace d := bw_call d b
  replace r0 := r0.below (b.mono y0)
  replace y0 := Nat.le_trans y0 b.size
  replace sr := sr.below (b.mono ys)
  replace ys := Nat.le_trans ys b.size
  replace kB := (b.block _ sB).trans kB
  replace sB := Nat.lt_of_lt_of_le sB b.size
  replace ox0 := ox0.below b
  replace og := og.below b
  replace kG := (b.block _ sG).trans kG
  replace sG := Nat.lt_of_lt_of_le sG b.size
  clear b
  have pB0 := at_cell kB 0
  have pB1 := at_cell kB 1
  have pB2 := at_cell kB 2
  have pB3 := at_cell kB 3
  have pB4 := at_cell kB 4
  have pB5 := at_cell kB 5
  have pB6 := at_cell kB 6
  have pB7 := at_cell kB 7
  have pB8 := at_cell kB 8
  have pB9 := at_cell kB 9
  have pB10 := at_cell kB 10
  have pB11 := at_cell kB 11
  have pB12 := at_cell kB 12
  have pB13 := at_cell kB 13
  have pB14 := at_cell kB 14
  have pG0 := at_cell kG 0
  have pG1 := at_cell kG 1
  have pG2 := at_cell kG 2
  have pG3 := at_cell kG 3
  have pG4 := at_cell kG 4
  have pG5 := at_cell kG 5
  have pG6 := at_cell kG 6
  have pG7 := at_cell kG 7
  have pG8 := at_cell kG 8
  have pG9 := at_cell kG 9
  have pG10 := at_cell kG 10
  have pG11 := at_cell kG 11
  have pG12 := at_cell kG 12
  have pG13 := at_cell kG 13
  have pG14 := at_cell kG 14
  go_wp2_with fail
  clear pB0 pB1 pB2 pB3 pB4 pB5 pB6 pB7 pB8 pB9 pB10 pB11 pB12 pB13 pB14 pG0 pG1 pG2 pG3 pG4 pG5 pG6 pG7 pG8 pG9 pG10 pG11 pG12 pG13 pG14
  refine (eqMsg_same kd ds vw sq cl tg k nm ot at_ va ep s rc rv _).mono ?_
  rintro e we1 ⟨rfl, b⟩
  replace d := bw_call d b
  replace r0 := r0.below (b.mono y0)
  replace y0 := Nat.le_trans y0 b.size
  replace sr := sr.below (b.mono ys)
  replace ys := Nat.le_trans ys b.size
  replace kB := (b.block _ sB).trans kB
  replace sB := Nat.lt_of_lt_of_le sB b.size
  replace ox0 := ox0.below b
  replace og := og.below b
  replace kG := (b.block _ sG).trans kG
  replace sG := Nat.lt_of_lt_of_le sG b.size
  clear b
  go_wp2_with fail
  refine (toMsgsV_any v0 l0 _ hb0 (r0.mono y0)).mono ?_
  rintro e wy0 ⟨oy0v, rfl, oy0, b⟩
  replace d := bw_call d b
  replace r0 := r0.below (b.mono y0)
  replace y0 := Nat.le_trans y0 b.size
  replace sr := sr.below (b.mono ys)
  replace ys := Nat.le_trans ys b.size
  replace kB := (b.block _ sB).trans kB
  replace sB := Nat.lt_of_lt_of_le sB b.size
  replace ox0 := ox0.below b
  replace og := og.below b
  replace kG := (b.block _ sG).trans kG
  replace sG := Nat.lt_of_lt_of_le sG b.size
  clear b
  go_wp2_with fail
  refine (eqMsgs_same (.slice zax0 l0.length zcx0) oy0v l0 _ ox0.r oy0.r).mono ?_
  rintro e wi0 ⟨rfl, b⟩
  replace d := bw_call d b
  replace r0 := r0.below (b.mono y0)
  replace y0 := Nat.le_trans y0 b.size
  replace sr := sr.below (b.mono ys)
  replace ys := Nat.le_trans ys b.size
  replace kB := (b.block _ sB).trans kB
  replace sB := Nat.lt_of_lt_of_le sB b.size
  replace ox0 := ox0.below b
  replace og := og.below b
  replace kG := (b.block _ sG).trans kG
  replace sG := Nat.lt_of_lt_of_le sG b.size
  replace oy0 := oy0.below b
  clear b
  clear oy0
  have cs := d.size
  go_wp2_with fail
  refine (markMsgsV_any (.slice zax0 l0.length zcx0) l0 We.heap.size wf0.heap.size 1 _ (by omega) hb0 (by omega) ox0 TX0.out).mono ?_
  rintro e wk0 ⟨rfl, _, b⟩
  clear ox0
  clear cs
  have cs := d.size
  replace d := d.trans (b.toBelow (by omega) (by omega))
  replace r0 := r0.below (b.toBelow y0 (by omega))
  replace y0 := Nat.le_trans y0 b.size
  replace sr := sr.below (b.toBelow ys (by omega))
  replace ys := Nat.le_trans ys b.size
  replace kB := (b.block _ sB (by omega)).trans kB
  replace sB := Nat.lt_of_lt_of_le sB b.size
  replace og := og.rng b (by omega)
  replace kG := (b.block _ sG (by omega)).trans kG
  replace sG := Nat.lt_of_lt_of_le sG b.size
  clear b
  clear cs
  have hkp : ¬ (1 + 15 * (l0.length : Int)) < 0 := by omega
  go_wp2_with fail
  refine (eqMsgs_same (.slice zag nms.length zcg) (.slice zas nms.length zcs) nms _ og.r (sr.mono ys)).mono ?_
  rintro e we2 ⟨rfl, b⟩
  replace d := bw_call d b
  replace r0 := r0.below (b.mono y0)
  replace y0 := Nat.le_trans y0 b.size
  replace sr := sr.below (b.mono ys)
  replace ys := Nat.le_trans ys b.size
  replace kB := (b.block _ sB).trans kB
  replace sB := Nat.lt_of_lt_of_le sB b.size
  replace og := og.below b
  replace kG := (b.block _ sG).trans kG
  replace sG := Nat.lt_of_lt_of_le sG b.size
  clear b
  have pB0 := at_cell kB 0
  have pB1 := at_cell kB 1
  have pB2 := at_cell kB 2
  have pB3 := at_cell kB 3
  have pB4 := at_cell kB 4
  have pB5 := at_cell kB 5
  have pB6 := at_cell kB 6
  have pB7 := at_cell kB 7
  have pB8 := at_cell kB 8
  have pB9 := at_cell kB 9
  have pB10 := at_cell kB 10
  have pB11 := at_cell kB 11
  have pB12 := at_cell kB 12
  have pB13 := at_cell kB 13
  have pB14 := at_cell kB 14
  have pG0 := at_cell kG 0
  have pG1 := at_cell kG 1
  have pG2 := at_cell kG 2
  have pG3 := at_cell kG 3
  have pG4 := at_cell kG 4
  have pG5 := at_cell kG 5
  have pG6 := at_cell kG 6
  have pG7 := at_cell kG 7
  have pG8 := at_cell kG 8
  have pG9 := at_cell kG 9
  have pG10 := at_cell kG 10
  have pG11 := at_cell kG 11
  have pG12 := at_cell kG 12
  have pG13 := at_cell kG 13
  have pG14 := at_cell kG 14
  go_wp2_with fail
  clear pB0 pB1 pB2 pB3 pB4 pB5 pB6 pB7 pB8 pB9 pB10 pB11 pB12 pB13 pB14 pG0 pG1 pG2 pG3 pG4 pG5 pG6 pG7 pG8 pG9 pG10 pG11 pG12 pG13 pG14
  refine (eqMsg_same kd ds vw sq cl tg k nm ot at_ va ep s rc rv _).mono ?_
  rintro e we3 ⟨rfl, b⟩
  replace d := bw_call d b
  replace r0 := r0.below (b.mono y0)
  replace y0 := Nat.le_trans y0 b.size
  replace sr := sr.below (b.mono ys)
  replace ys := Nat.le_trans ys b.size
  replace kB := (b.block _ sB).trans kB
  replace sB := Nat.lt_of_lt_of_le sB b.size
  replace og := og.below b
  replace kG := (b.block _ sG).trans kG
  replace sG := Nat.lt_of_lt_of_le sG b.size
  clear b
  have cs := d.size
  go_wp2_with fail
  refine (markMsgsV_any (.slice zag nms.length zcg) nms wf0.heap.size wg.heap.size 1 _ (by omega) (by omega) (by omega) og TG.out).mono ?_
  rintro e wm ⟨rfl, ogm, b⟩
  clear og
  replace d := d.trans (b.toBelow (by omega) (by omega))
  replace r0 := r0.below (b.toBelow y0 (by omega))
  replace y0 := Nat.le_trans y0 b.size
  replace sr := sr.below (b.toBelow ys (by omega))
  replace ys := Nat.le_trans ys b.size
  replace kB := (b.block _ sB (by omega)).trans kB
  replace sB := Nat.lt_of_lt_of_le sB b.size
  replace kG := (b.block _ sG (by omega)).trans kG
  replace sG := Nat.lt_of_lt_of_le sG b.size
  clear b
  clear cs
  have hmp : ¬ 1 + 15 * (nms.length : Int) < 0 := by omega
  go_wp2_with fail
  refine (heldMsgs_any (.slice zag nms.length zcg) nms.length 1 _ (by omega) (by omega) (by omega) ogm.r).mono ?_
  rintro e wn ⟨rfl, b⟩
  replace d := bw_call d b
  replace r0 := r0.below (b.mono y0)
  replace y0 := Nat.le_trans y0 b.size
  replace sr := sr.below (b.mono ys)
  replace ys := Nat.le_trans ys b.size
  replace kB := (b.block _ sB).trans kB
  replace sB := Nat.lt_of_lt_of_le sB b.size
  replace kG := (b.block _ sG).trans kG
  replace sG := Nat.lt_of_lt_of_le sG b.size
  replace ogm := ogm.below b
  clear b
  go_wp2_with fail
  refine (toMsgsV_any v0 l0 _ hb0 (r0.mono y0)).mono ?_
  rintro e wo0 ⟨op0v, rfl, op0, b⟩
  replace d := bw_call d b
  replace r0 := r0.below (b.mono y0)
  replace y0 := Nat.le_trans y0 b.size
  replace sr := sr.below (b.mono ys)
  replace ys := Nat.le_trans ys b.size
  replace kB := (b.block _ sB).trans kB
  replace sB := Nat.lt_of_lt_of_le sB b.size
  replace kG := (b.block _ sG).trans kG
  replace sG := Nat.lt_of_lt_of_le sG b.size
  replace ogm := ogm.below b
  clear b
  go_wp2_with fail
  refine (implTaken_any op0v l0 a1 _ z0 hb0 op0.r).mono ?_
  rw [HFD.out]
  simp only
  rintro e wp ⟨h2, rfl, oh0, b⟩
  clear op0
  replace d := bw_call d b
  replace r0 := r0.below (b.mono y0)
  replace y0 := Nat.le_trans y0 b.size
  replace sr := sr.below (b.mono ys)
  replace ys := Nat.le_trans ys b.size
  replace kB := (b.block _ sB).trans kB
  replace sB := Nat.lt_of_lt_of_le sB b.size
  replace kG := (b.block _ sG).trans kG
  replace sG := Nat.lt_of_lt_of_le sG b.size
  replace ogm := ogm.below b
  clear b
  have oh : OwnMs _ wp h2 nms := ⟨oh0⟩
  clear oh0
  obtain ⟨zah, zch, rfl⟩ := oh.forms
  have b : Below wp.heap.size wp (wp.alloc (.cells #[.int .i64 kd, .int .i64 ds, .int .i64 vw, .int .i64 sq, .int .i64 cl, .int .i64 tg, .int .i64 k, .string nm, .string ot, .int .i64 at_, .int .i64 va, .int .i64 ep, .int .i64 s, .int .i64 rc, .int .i64 rv] 38)) := bw_alloc (Below.refl _ _)
  have kH := heap_alloc_new wp (.cells #[.int .i64 kd, .int .i64 ds, .int .i64 vw, .int .i64 sq, .int .i64 cl, .int .i64 tg, .int .i64 k, .string nm, .string ot, .int .i64 at_, .int .i64 va, .int .i64 ep, .int .i64 s, .int .i64 rc, .int .i64 rv] 38)
  have sH : wp.heap.size < (wp.alloc (.cells #[.int .i64 kd, .int .i64 ds, .int .i64 vw, .int .i64 sq, .int .i64 cl, .int .i64 tg, .int .i64 k, .string nm, .string ot, .int .i64 at_, .int .i64 va, .int .i64 ep, .int .i64 s, .int .i64 rc, .int .i64 rv] 38)).heap.size := by simp
  replace d := bw_call d b
  replace r0 := r0.below (b.mono y0)
  replace y0 := Nat.le_trans y0 b.size
  replace sr := sr.below (b.mono ys)
  replace ys := Nat.le_trans ys b.size
  replace kB := (b.block _ sB).trans kB
  replace sB := Nat.lt_of_lt_of_le sB b.size
  replace kG := (b.block _ sG).trans kG
  replace sG := Nat.lt_of_lt_of_le sG b.size
  replace ogm := ogm.below b
  replace oh := oh.below b
  clear b
  go_wp2_with fail
  generalize wp.alloc (.cells #[.int .i64 kd, .int .i64 ds, .int .i64 vw, .int .i64 sq, .int .i64 cl, .int .i64 tg, .int .i64 k, .string nm, .string ot, .int .i64 at_, .int .i64 va, .int .i64 ep, .int .i64 s, .int .i64 rc, .int .i64 rv] 38) = Wz at *
  refine (eqMsgs_same (.slice zah nms.length zch) (.slice zas nms.length zcs) nms _ oh.r (sr.mono ys)).mono ?_
  rintro e we4 ⟨rfl, b⟩
  replace d := bw_call d b
  replace r0 := r0.below (b.mono y0)
  replace y0 := Nat.le_trans y0 b.size
  replace sr := sr.below (b.mono ys)
  replace ys := Nat.le_trans ys b.size
  replace kB := (b.block _ sB).trans kB
  replace sB := Nat.lt_of_lt_of_le sB b.size
  replace kG := (b.block _ sG).trans kG
  replace sG := Nat.lt_of_lt_of_le sG b.size
  replace ogm := ogm.below b
  replace oh := oh.below b
  replace kH := (b.block _ sH).trans kH
  replace sH := Nat.lt_of_lt_of_le sH b.size
  clear b
  have pB0 := at_cell kB 0
  have pB1 := at_cell kB 1
  have pB2 := at_cell kB 2
  have pB3 := at_cell kB 3
  have pB4 := at_cell kB 4
  have pB5 := at_cell kB 5
  have pB6 := at_cell kB 6
  have pB7 := at_cell kB 7
  have pB8 := at_cell kB 8
  have pB9 := at_cell kB 9
  have pB10 := at_cell kB 10
  have pB11 := at_cell kB 11
  have pB12 := at_cell kB 12
  have pB13 := at_cell kB 13
  have pB14 := at_cell kB 14
  have pH0 := at_cell kH 0
  have pH1 := at_cell kH 1
  have pH2 := at_cell kH 2
  have pH3 := at_cell kH 3
  have pH4 := at_cell kH 4
  have pH5 := at_cell kH 5
  have pH6 := at_cell kH 6
  have pH7 := at_cell kH 7
  have pH8 := at_cell kH 8
  have pH9 := at_cell kH 9
  have pH10 := at_cell kH 10
  have pH11 := at_cell kH 11
  have pH12 := at_cell kH 12
  have pH13 := at_cell kH 13
  have pH14 := at_cell kH 14
  go_wp2_with fail
  clear pB0 pB1 pB2 pB3 pB4 pB5 pB6 pB7 pB8 pB9 pB10 pB11 pB12 pB13 pB14 pH0 pH1 pH2 pH3 pH4 pH5 pH6 pH7 pH8 pH9 pH10 pH11 pH12 pH13 pH14
  refine (eqMsg_same kd ds vw sq cl tg k nm ot at_ va ep s rc rv _).mono ?_
  rintro e we5 ⟨rfl, b⟩
  replace d := bw_call d b
  replace r0 := r0.below (b.mono y0)
  replace y0 := Nat.le_trans y0 b.size
  replace sr := sr.below (b.mono ys)
  replace ys := Nat.le_trans ys b.size
  replace kB := (b.block _ sB).trans kB
  replace sB := Nat.lt_of_lt_of_le sB b.size
  replace kG := (b.block _ sG).trans kG
  replace sG := Nat.lt_of_lt_of_le sG b.size
  replace ogm := ogm.below b
  replace oh := oh.below b
  replace kH := (b.block _ sH).trans kH
  replace sH := Nat.lt_of_lt_of_le sH b.size
  clear b
  clear oh
  go_wp2_with fail
  refine (heldMsgs_any (.slice zag nms.length zcg) nms.length 1 _ (by omega) (by omega) (by omega) ogm.r).mono ?_
  rintro e wr ⟨rfl, b⟩
  replace d := bw_call d b
  replace r0 := r0.below (b.mono y0)
  replace y0 := Nat.le_trans y0 b.size
  replace sr := sr.below (b.mono ys)
  replace ys := Nat.le_trans ys b.size
  replace kB := (b.block _ sB).trans kB
  replace sB := Nat.lt_of_lt_of_le sB b.size
  replace kG := (b.block _ sG).trans kG
  replace sG := Nat.lt_of_lt_of_le sG b.size
  replace ogm := ogm.below b
  replace kH := (b.block _ sH).trans kH
  replace sH := Nat.lt_of_lt_of_le sH b.size
  clear b
  go_wp2_with fail
  go_ret
  exact ⟨rfl, d⟩

set_option maxRecDepth 100000 in
theorem lifted (os : Os) (started : os.Started) (H : Type) (enc : TypeId × Value → H) :
    ReturnsInHanded {} Try.checked os 5 .any (Rows.fnExactTakenSpec.pre6 enc Try.prog Try.f5 Rows.fnExactTakenRow.domain false) (Rows.fnExactTakenSpec.post enc Try.prog Try.f5 false true false false) := by
  refine returnsInHanded_of_change (C := Try.checked) own started (by kernel_rfl) Try.func5
    (ChangeSpec.witness6 (enc := enc) (C := Try.checked) false ⟨#[], #[.slice none 0 0, .int .i64 0], []⟩ 8 (by kernel_rfl) (by kernel_rfl) (by kernel_rfl) (by kernel_rfl)) ?_
  intro W base args ds gs before hval0 hW hcnd _
  have hval : ∀ (j : Nat) t v, Try.f5.params[j]? = some t → args[j]? = some v → Value.okWide Try.prog W .any base t v := hval0
  have hW' := hW
  obtain ⟨p, q, hA0, hV, rfl, hfz, hnd⟩ := hW
  have hA : DataW.TrodAll enc Try.prog W 0 (fun _ => true) true Try.f5.params.toList args.toList ds p := hA0
  rw [Try.params5] at hA hval
  obtain ⟨v0, vs0, d0, ds0, p0, q0, hargs, rfl, rfl, h0, rr0⟩ := trodAll_cons hA
  obtain ⟨v1, vs1, d1, ds1, p1, q1, rfl, rfl, rfl, h1, rr1⟩ := trodAll_cons rr0
  obtain ⟨rfl, rfl, rfl⟩ := trodAll_nil rr1
  obtain rfl : args = #[v0, v1] := by cases args; simp_all
  obtain ⟨rfl, rfl⟩ := trodVars_none hV
  have kk0 := h0
  have lt0 : ∀ x ∈ p0, x.block < W.heap.size := by obtain ⟨fuel, hfuel⟩ := kk0; exact DataW.trod_lt fuel _ _ _ hfuel
  obtain ⟨l0, w0, z0⟩ := open_msgs (hval 0 45 v0 rfl rfl) h0
  have kk1 := h1
  have lt1 : ∀ x ∈ p1, x.block < W.heap.size := by obtain ⟨fuel, hfuel⟩ := kk1; exact DataW.trod_lt fuel _ _ _ hfuel
  obtain ⟨a1, rfl, w1⟩ := open_i64 (hval 1 2 v1 rfl rfl) h1
  clear hA0 hval0
  refine (walk v0 l0 a1 W w0 z0 w1).mono fun e W' ⟨he, bel⟩ => ?_
  subst he
  exact ⟨_, rfl, _, _, _, [], _, [], hW', trodAll_mk1 (shut_bool Try.underlying4 _), (trodAll_cons_mk (Below.trod laidOut (by kernel_rfl) (of_decide_eq_true (by kernel_rfl)) kk0 bel lt0) (trodAll_cons_mk (Below.trod laidOut (by kernel_rfl) (of_decide_eq_true (by kernel_rfl)) kk1 bel lt1) trodAll_mk0)), rfl, bel.frame _, fun h => by cases h⟩

theorem over : Rows.fnExactTakenRow.holds Try.pinned (OpenSpec.ofChange Rows.fnExactTakenSpec) :=
  OpenClaim.holds_of_wide 5 Try.f5 rfl rfl rfl rfl rfl rfl rfl ⟨rfl, rfl, rfl, rfl, rfl⟩ rfl rfl rfl rfl rfl (by kernel_rfl) Try.func5 (by kernel_rfl)
    (of_decide_eq_true (by kernel_rfl)) (by unfold Func.isWrapper; first | (rw [if_pos (by decide +kernel)]; kernel_rfl) | (rw [if_neg (by decide +kernel)]; exact ⟨rfl, rfl⟩))
    (fun os started H enc _ => lifted os started H enc)

theorem proved : Rows.FnExactTakenSaid :=
  over
#print axioms proved
end Go.Proofs.Ytghhphhnalfjaaa.fnExactTaken
