/-
  The law FnExactJoined answers true at every input that the row speaks of, and its arguments read afterwards as before; the walk goes over the callees' contracts.
-/
import Derived.Test.YtijmmenkcemggaaRows
import Derived.WalkKit
import Derived.ProofKit
import Derived.OpenShut
import Derived.ChangeOld
import Derived.Below
import Derived.Carry
import Derived.Test.YtijmmenkcemggaaArgs
import Derived.Test.YtijmmenkcemggaaArgsVw
import Derived.Test.YtijmmenkcemggaaVwLaw
import Derived.Test.YtijmmenkcemggaaImVw2
namespace Go.Proofs.Ytijmmenkcemggaa.fnExactJoined
open Go.ChangeShapes Go.WideShapes Go.ChangeAt Go.RowKit
set_option linter.unusedVariables false

theorem own : ownKnob Try.prog.godebug = none := by kernel_rfl
theorem laidOut : laidOutB Try.prog = true := by kernel_rfl

set_option maxRecDepth 100000 in
set_option maxHeartbeats 8000000 in
theorem walk (n0 : Int) (v0b : Value) (ms0 : List Int) (a1 : Int) (w : World) (w0 : RVw w.heap.size w v0b ms0) (x0 : FitV n0 ms0) (w1 : (Lit.int .i64 a1).wf = true) :
    Calls Try.prog 11 #[.agg #[.int .i64 n0, v0b], .int .i64 a1] w fun e w' => e = .returned (.bool true) ∧ Below w.heap.size w w' := by
  have r0 : RVw w.heap.size w v0b ms0 := w0
  obtain ⟨WA, hWA, kA, d, zA⟩ := box1 w #[.int .i64 n0, v0b] 38
  have sA : w.heap.size < WA.heap.size := by omega
  have y0 := d.size
  replace r0 := r0.below d
  have HWA : Hid (WA = _) := hWA
  clear hWA zA w0
  go_enter Try.func11, Try.ntmps11
  go_wp2_with fail
  rw [← HWA.out]
  clear HWA
  refine (szView_any n0 v0b ms0 _ _ (by omega) (by omega) (r0.mono y0)).mono ?_
  rintro e wb ⟨q, rfl, hq, b⟩
  replace d := bw_call d b
  replace kA := (b.block _ sA).trans kA
  replace sA := Nat.lt_of_lt_of_le sA b.size
  replace r0 := r0.below (b.mono y0)
  replace y0 := Nat.le_trans y0 b.size
  clear b
  rcases hq with rfl | ⟨hq0, hq1, hbms0⟩
  · go_wp2_with fail
    go_ret
    exact ⟨rfl, d⟩
  have pA0 := at_cell kA 0
  have pA1 := at_cell kA 1
  go_wp2_with fail
  clear pA0 pA1
  refine (toView_any n0 v0b ms0 _ hbms0 (r0.mono y0)).mono ?_
  rintro e wc ⟨t2, rfl, ot, b⟩
  replace d := bw_call d b
  replace kA := (b.block _ sA).trans kA
  replace sA := Nat.lt_of_lt_of_le sA b.size
  replace r0 := r0.below (b.mono y0)
  replace y0 := Nat.le_trans y0 b.size
  clear b
  go_wp2_with fail
  have hlen := joinedV_len n0 ms0 a1
  obtain ⟨⟨⟨nn, nms⟩, nv⟩, hfd⟩ : ∃ fd, joinedV n0 ms0 a1 = fd := ⟨_, rfl⟩
  have HFD : Hid (joinedV n0 ms0 a1 = ((nn, nms), nv)) := hfd
  refine (specJoinedV_any n0 (t2) ms0 a1 _ ot.r).mono ?_
  rw [hfd] at hlen ⊢
  clear hfd
  simp only at hlen ⊢
  have hlnms : nms.length ≤ 1048576 := by omega
  clear hlen
  rintro e wd ⟨s2, rfl, os, b⟩
  replace d := bw_call d b
  replace kA := (b.block _ sA).trans kA
  replace sA := Nat.lt_of_lt_of_le sA b.size
  replace r0 := r0.below (b.mono y0)
  replace y0 := Nat.le_trans y0 b.size
  clear b
  have cD := d.size
  have sr := os.reads
  have ys : wd.heap.size ≤ wd.heap.size := Nat.le_refl _
  obtain ⟨zas, zcs, rfl⟩ := os.forms
  clear os ot
  have b : Below wd.heap.size wd (wd.alloc (.cells #[.int .i64 nn, .slice zas nms.length zcs] 26)) := bw_alloc (Below.refl _ _)
  have kB := heap_alloc_new wd (.cells #[.int .i64 nn, .slice zas nms.length zcs] 26)
  have sB : wd.heap.size < (wd.alloc (.cells #[.int .i64 nn, .slice zas nms.length zcs] 26)).heap.size := by simp
  replace d := bw_call d b
  replace kA := (b.block _ sA).trans kA
  replace sA := Nat.lt_of_lt_of_le sA b.size
  replace r0 := r0.below (b.mono y0)
  replace y0 := Nat.le_trans y0 b.size
  replace sr := sr.below (b.mono ys)
  replace ys := Nat.le_trans ys b.size
  clear b
  have pA0 := at_cell kA 0
  have pA1 := at_cell kA 1
  go_wp2_with fail
  clear pA0 pA1
  generalize wd.alloc (.cells #[.int .i64 nn, .slice zas nms.length zcs] 26) = We at *
  have cX1 : w.heap.size < We.heap.size := sA
  have cX2 : wd.heap.size < We.heap.size := sB
  refine (toView_any n0 v0b ms0 _ hbms0 (r0.mono y0)).mono ?_
  rintro e wf ⟨x2, rfl, ox, b⟩
  have cX3 := b.size
  replace d := bw_call d b
  replace kA := (b.block _ sA).trans kA
  replace sA := Nat.lt_of_lt_of_le sA b.size
  replace r0 := r0.below (b.mono y0)
  replace y0 := Nat.le_trans y0 b.size
  replace sr := sr.below (b.mono ys)
  replace ys := Nat.le_trans ys b.size
  replace kB := (b.block _ sB).trans kB
  replace sB := Nat.lt_of_lt_of_le sB b.size
  clear b
  have TX : Hid _ := ox.span
  obtain ⟨zax, zcx, rfl⟩ := ox.forms
  have b : Below wf.heap.size wf (wf.alloc (.cells #[.int .i64 n0, .slice zax ms0.length zcx] 26)) := bw_alloc (Below.refl _ _)
  have kX := heap_alloc_new wf (.cells #[.int .i64 n0, .slice zax ms0.length zcx] 26)
  have sX : wf.heap.size < (wf.alloc (.cells #[.int .i64 n0, .slice zax ms0.length zcx] 26)).heap.size := by simp
  replace d := bw_call d b
  replace kA := (b.block _ sA).trans kA
  replace sA := Nat.lt_of_lt_of_le sA b.size
  replace r0 := r0.below (b.mono y0)
  replace y0 := Nat.le_trans y0 b.size
  replace sr := sr.below (b.mono ys)
  replace ys := Nat.le_trans ys b.size
  replace kB := (b.block _ sB).trans kB
  replace sB := Nat.lt_of_lt_of_le sB b.size
  replace ox := ox.below b
  clear b
  have pX0 := at_cell kX 0
  have pX1 := at_cell kX 1
  go_wp2_with fail
  clear pX0 pX1
  generalize wf.alloc (.cells #[.int .i64 n0, .slice zax ms0.length zcx] 26) = Wx at *
  have cX4 : wf.heap.size < Wx.heap.size := sX
  refine (implJoinedV_any n0 (.slice zax ms0.length zcx) ms0 a1 _ ox.r).mono ?_
  rw [HFD.out]
  simp only
  rintro e wg ⟨g2, rfl, og, b⟩
  have cG1 := b.size
  replace d := bw_call d b
  replace kA := (b.block _ sA).trans kA
  replace sA := Nat.lt_of_lt_of_le sA b.size
  replace r0 := r0.below (b.mono y0)
  replace y0 := Nat.le_trans y0 b.size
  replace sr := sr.below (b.mono ys)
  replace ys := Nat.le_trans ys b.size
  replace kB := (b.block _ sB).trans kB
  replace sB := Nat.lt_of_lt_of_le sB b.size
  replace ox := ox.below b
  replace kX := (b.block _ sX).trans kX
  replace sX := Nat.lt_of_lt_of_le sX b.size
  clear b
  have TG : Hid _ := og.span
  obtain ⟨zag, zcg, rfl⟩ := og.forms
  have b : Below wg.heap.size wg (wg.alloc (.cells #[.int .i64 nn, .slice zag nms.length zcg] 26)) := bw_alloc (Below.refl _ _)
  have kG := heap_alloc_new wg (.cells #[.int .i64 nn, .slice zag nms.length zcg] 26)
  have sG : wg.heap.size < (wg.alloc (.cells #[.int .i64 nn, .slice zag nms.length zcg] 26)).heap.size := by simp
  replace d := bw_call d b
  replace kA := (b.block _ sA).trans kA
  replace sA := Nat.lt_of_lt_of_le sA b.size
  replace r0 := r0.below (b.mono y0)
  replace y0 := Nat.le_trans y0 b.size
  replace sr := sr.below (b.mono ys)
  replace ys := Nat.le_trans ys b.size
  replace kB := (b.block _ sB).trans kB
  replace sB := Nat.lt_of_lt_of_le sB b.size
  replace ox := ox.below b
  replace kX := (b.block _ sX).trans kX
  replace sX := Nat.lt_of_lt_of_le sX b.size
  replace og := og.below b
  clear b
  have pG0 := at_cell kG 0
  have pB0 := at_cell kB 0
  have pG1 := at_cell kG 1
  have pB1 := at_cell kB 1
  go_wp2_with fail
  clear pG0 pG1 pB0 pB1
  generalize wg.alloc (.cells #[.int .i64 nn, .slice zag nms.length zcg] 26) = Wy at *
  have cG2 : wg.heap.size < Wy.heap.size := sG
  refine (eqView_any nn nn (.slice zag nms.length zcg) (.slice zas nms.length zcs) nms nms _ og.reads (sr.mono ys)).mono ?_
  rintro e wh ⟨rfl, b⟩
  rw [show (decide (nn = nn) && decide (nms = nms)) = true by simp]
  replace d := bw_call d b
  replace kA := (b.block _ sA).trans kA
  replace sA := Nat.lt_of_lt_of_le sA b.size
  replace r0 := r0.below (b.mono y0)
  replace y0 := Nat.le_trans y0 b.size
  replace sr := sr.below (b.mono ys)
  replace ys := Nat.le_trans ys b.size
  replace kB := (b.block _ sB).trans kB
  replace sB := Nat.lt_of_lt_of_le sB b.size
  replace ox := ox.below b
  replace kX := (b.block _ sX).trans kX
  replace sX := Nat.lt_of_lt_of_le sX b.size
  replace og := og.below b
  replace kG := (b.block _ sG).trans kG
  replace sG := Nat.lt_of_lt_of_le sG b.size
  clear b
  go_wp2_with fail
  have S0 : wh.drew.cell? ⟨wf.heap.size, 0, none⟩ = some (.int .i64 n0) ∧ wh.drew.cell? ⟨wf.heap.size, 1, none⟩ = some (.slice zax ms0.length zcx) ∧ wh.drew.cell? ⟨w.heap.size, 0, none⟩ = some (.int .i64 n0) ∧ wh.drew.cell? ⟨w.heap.size, 1, none⟩ = some (v0b) := ⟨at_cell kX 0, at_cell kX 1, at_cell kA 0, at_cell kA 1⟩
  have RA : RVw wh.drew.heap.size wh.drew v0b ms0 := (r0.mono y0).below ((Below.refl _ _).drew)
  have OX := ox.below (w' := wh.drew) ((Below.refl _ _).drew)
  go_region_held3 (fun w' => w'.cell? ⟨wf.heap.size, 0, none⟩ = some (.int .i64 n0) ∧ w'.cell? ⟨wf.heap.size, 1, none⟩ = some (.slice zax ms0.length zcx) ∧ w'.cell? ⟨w.heap.size, 0, none⟩ = some (.int .i64 n0) ∧ w'.cell? ⟨w.heap.size, 1, none⟩ = some (v0b))
    ((first | exact S0 | exact S1 | exact S2))
    ((first | (go_at_call 35; refine (toView_any n0 v0b ms0 _ hbms0 RA).mono ?_; rintro e wi ⟨t2, rfl, ot, bi⟩; have kXi := (bi.block _ (show _ < wh.heap.size from sX)).trans kX; have kAi := (bi.block _ (show _ < wh.heap.size from sA)).trans kA; have S1 := And.intro (at_cell kXi 0) (And.intro (at_cell kXi 1) (And.intro (at_cell kAi 0) (at_cell kAi 1))); have OXi := OX.below bi) | (go_at_call 36; refine (eqView_any n0 n0 (.slice zax ms0.length zcx) t2 ms0 ms0 _ OXi.reads ot.reads).mono ?_; rintro e wj ⟨rfl, bj⟩; have kXj := (bj.block _ (heap_lt kXi)).trans kXi; have kAj := (bj.block _ (heap_lt kAi)).trans kAi; have S2 := And.intro (at_cell kXj 0) (And.intro (at_cell kXj 1) (And.intro (at_cell kAj 0) (at_cell kAj 1))))))
  have b : Below wh.heap.size wh wj := bw_call (bw_call (bw_drew (Below.refl _ _)) bi) bj
  clear S0 S1 S2 RA OX OXi kXi kAi kXj kAj ot bi bj
  replace d := bw_call d b
  replace kA := (b.block _ sA).trans kA
  replace sA := Nat.lt_of_lt_of_le sA b.size
  replace r0 := r0.below (b.mono y0)
  replace y0 := Nat.le_trans y0 b.size
  replace sr := sr.below (b.mono ys)
  replace ys := Nat.le_trans ys b.size
  replace kB := (b.block _ sB).trans kB
  replace sB := Nat.lt_of_lt_of_le sB b.size
  replace ox := ox.below b
  replace kX := (b.block _ sX).trans kX
  replace sX := Nat.lt_of_lt_of_le sX b.size
  replace og := og.below b
  replace kG := (b.block _ sG).trans kG
  replace sG := Nat.lt_of_lt_of_le sG b.size
  clear b
  have pX0 := at_cell kX 0
  have pX1 := at_cell kX 1
  go_wp2_with fail
  clear pX0 pX1
  refine (markView_any n0 (.slice zax ms0.length zcx) ms0 We.heap.size wf.heap.size 1 _ (by omega) hbms0 (by omega) ox TX.out (by omega) (by omega)).mono ?_
  rintro e wk ⟨rfl, _, b⟩
  clear ox kX sX
  replace d := d.trans (b.toBelow (by omega) (by omega))
  replace kA := (b.block _ sA (by omega)).trans kA
  replace sA := Nat.lt_of_lt_of_le sA b.size
  replace r0 := r0.below (b.toBelow y0 (by omega))
  replace y0 := Nat.le_trans y0 b.size
  replace sr := sr.below (b.toBelow ys (by omega))
  replace ys := Nat.le_trans ys b.size
  replace kB := (b.block _ sB (by omega)).trans kB
  replace sB := Nat.lt_of_lt_of_le sB b.size
  replace og := og.rng b (by omega)
  replace kG := (b.block _ sG (by omega)).trans kG
  replace sG := Nat.lt_of_lt_of_le sG b.size
  clear b
  have hpos : 0 ≤ 1 + (ms0.length : Int) := by omega
  have pG0 := at_cell kG 0
  have pB0 := at_cell kB 0
  have pG1 := at_cell kG 1
  have pB1 := at_cell kB 1
  go_wp2_with fail
  clear pG0 pG1 pB0 pB1
  refine (eqView_any nn nn (.slice zag nms.length zcg) (.slice zas nms.length zcs) nms nms _ og.reads (sr.mono ys)).mono ?_
  rintro e wl ⟨rfl, b⟩
  rw [show (decide (nn = nn) && decide (nms = nms)) = true by simp]
  replace d := bw_call d b
  replace kA := (b.block _ sA).trans kA
  replace sA := Nat.lt_of_lt_of_le sA b.size
  replace r0 := r0.below (b.mono y0)
  replace y0 := Nat.le_trans y0 b.size
  replace sr := sr.below (b.mono ys)
  replace ys := Nat.le_trans ys b.size
  replace kB := (b.block _ sB).trans kB
  replace sB := Nat.lt_of_lt_of_le sB b.size
  replace og := og.below b
  replace kG := (b.block _ sG).trans kG
  replace sG := Nat.lt_of_lt_of_le sG b.size
  clear b
  have pG0 := at_cell kG 0
  have pG1 := at_cell kG 1
  go_wp2_with fail
  clear pG0 pG1
  refine (markView_any nn (.slice zag nms.length zcg) nms Wx.heap.size wg.heap.size 1 _ (by omega) hlnms (by omega) og TG.out (by omega) (by omega)).mono ?_
  rintro e wm ⟨rfl, ogm, b⟩
  clear og
  replace d := d.trans (b.toBelow (by omega) (by omega))
  replace kA := (b.block _ sA (by omega)).trans kA
  replace sA := Nat.lt_of_lt_of_le sA b.size
  replace r0 := r0.below (b.toBelow y0 (by omega))
  replace y0 := Nat.le_trans y0 b.size
  replace sr := sr.below (b.toBelow ys (by omega))
  replace ys := Nat.le_trans ys b.size
  replace kB := (b.block _ sB (by omega)).trans kB
  replace sB := Nat.lt_of_lt_of_le sB b.size
  replace kG := (b.block _ sG (by omega)).trans kG
  replace sG := Nat.lt_of_lt_of_le sG b.size
  clear b
  have hposn : 0 ≤ 1 + (nms.length : Int) := by omega
  have pG0 := at_cell kG 0
  have pG1 := at_cell kG 1
  go_wp2_with fail
  clear pG0 pG1
  refine (heldView_any nn (.slice zag nms.length zcg) nms.length 1 _ (by omega) (by omega) hlnms ogm.reads).mono ?_
  rintro e wn ⟨rfl, b⟩
  replace d := bw_call d b
  replace kA := (b.block _ sA).trans kA
  replace sA := Nat.lt_of_lt_of_le sA b.size
  replace r0 := r0.below (b.mono y0)
  replace y0 := Nat.le_trans y0 b.size
  replace sr := sr.below (b.mono ys)
  replace ys := Nat.le_trans ys b.size
  replace kB := (b.block _ sB).trans kB
  replace sB := Nat.lt_of_lt_of_le sB b.size
  replace kG := (b.block _ sG).trans kG
  replace sG := Nat.lt_of_lt_of_le sG b.size
  replace ogm := ogm.below b
  clear b
  have pA0 := at_cell kA 0
  have pA1 := at_cell kA 1
  go_wp2_with fail
  clear pA0 pA1
  refine (toView_any n0 v0b ms0 _ hbms0 (r0.mono y0)).mono ?_
  rintro e wo ⟨t2, rfl, ot, b⟩
  replace d := bw_call d b
  replace kA := (b.block _ sA).trans kA
  replace sA := Nat.lt_of_lt_of_le sA b.size
  replace r0 := r0.below (b.mono y0)
  replace y0 := Nat.le_trans y0 b.size
  replace sr := sr.below (b.mono ys)
  replace ys := Nat.le_trans ys b.size
  replace kB := (b.block _ sB).trans kB
  replace sB := Nat.lt_of_lt_of_le sB b.size
  replace kG := (b.block _ sG).trans kG
  replace sG := Nat.lt_of_lt_of_le sG b.size
  replace ogm := ogm.below b
  clear b
  go_wp2_with fail
  refine (implJoinedV_any n0 (t2) ms0 a1 _ ot.r).mono ?_
  rw [HFD.out]
  simp only
  rintro e wp ⟨h2, rfl, oh, b⟩
  replace d := bw_call d b
  replace kA := (b.block _ sA).trans kA
  replace sA := Nat.lt_of_lt_of_le sA b.size
  replace r0 := r0.below (b.mono y0)
  replace y0 := Nat.le_trans y0 b.size
  replace sr := sr.below (b.mono ys)
  replace ys := Nat.le_trans ys b.size
  replace kB := (b.block _ sB).trans kB
  replace sB := Nat.lt_of_lt_of_le sB b.size
  replace kG := (b.block _ sG).trans kG
  replace sG := Nat.lt_of_lt_of_le sG b.size
  replace ogm := ogm.below b
  clear b
  obtain ⟨zah, zch, rfl⟩ := oh.forms
  clear ot
  have b : Below wp.heap.size wp (wp.alloc (.cells #[.int .i64 nn, .slice zah nms.length zch] 26)) := bw_alloc (Below.refl _ _)
  have kH := heap_alloc_new wp (.cells #[.int .i64 nn, .slice zah nms.length zch] 26)
  have sH : wp.heap.size < (wp.alloc (.cells #[.int .i64 nn, .slice zah nms.length zch] 26)).heap.size := by simp
  replace d := bw_call d b
  replace kA := (b.block _ sA).trans kA
  replace sA := Nat.lt_of_lt_of_le sA b.size
  replace r0 := r0.below (b.mono y0)
  replace y0 := Nat.le_trans y0 b.size
  replace sr := sr.below (b.mono ys)
  replace ys := Nat.le_trans ys b.size
  replace kB := (b.block _ sB).trans kB
  replace sB := Nat.lt_of_lt_of_le sB b.size
  replace kG := (b.block _ sG).trans kG
  replace sG := Nat.lt_of_lt_of_le sG b.size
  replace ogm := ogm.below b
  replace oh := oh.below b
  clear b
  have pH0 := at_cell kH 0
  have pB0 := at_cell kB 0
  have pH1 := at_cell kH 1
  have pB1 := at_cell kB 1
  go_wp2_with fail
  clear pH0 pH1 pB0 pB1
  generalize wp.alloc (.cells #[.int .i64 nn, .slice zah nms.length zch] 26) = Wz at *
  refine (eqView_any nn nn (.slice zah nms.length zch) (.slice zas nms.length zcs) nms nms _ oh.reads (sr.mono ys)).mono ?_
  rintro e wq ⟨rfl, b⟩
  rw [show (decide (nn = nn) && decide (nms = nms)) = true by simp]
  replace d := bw_call d b
  replace kA := (b.block _ sA).trans kA
  replace sA := Nat.lt_of_lt_of_le sA b.size
  replace r0 := r0.below (b.mono y0)
  replace y0 := Nat.le_trans y0 b.size
  replace sr := sr.below (b.mono ys)
  replace ys := Nat.le_trans ys b.size
  replace kB := (b.block _ sB).trans kB
  replace sB := Nat.lt_of_lt_of_le sB b.size
  replace kG := (b.block _ sG).trans kG
  replace sG := Nat.lt_of_lt_of_le sG b.size
  replace ogm := ogm.below b
  replace oh := oh.below b
  replace kH := (b.block _ sH).trans kH
  replace sH := Nat.lt_of_lt_of_le sH b.size
  clear b
  have pG0 := at_cell kG 0
  have pG1 := at_cell kG 1
  go_wp2_with fail
  clear pG0 pG1
  refine (heldView_any nn (.slice zag nms.length zcg) nms.length 1 _ (by omega) (by omega) hlnms ogm.reads).mono ?_
  rintro e wr ⟨rfl, b⟩
  replace d := bw_call d b
  replace kA := (b.block _ sA).trans kA
  replace sA := Nat.lt_of_lt_of_le sA b.size
  replace r0 := r0.below (b.mono y0)
  replace y0 := Nat.le_trans y0 b.size
  replace sr := sr.below (b.mono ys)
  replace ys := Nat.le_trans ys b.size
  replace kB := (b.block _ sB).trans kB
  replace sB := Nat.lt_of_lt_of_le sB b.size
  replace kG := (b.block _ sG).trans kG
  replace sG := Nat.lt_of_lt_of_le sG b.size
  replace ogm := ogm.below b
  replace oh := oh.below b
  replace kH := (b.block _ sH).trans kH
  replace sH := Nat.lt_of_lt_of_le sH b.size
  clear b
  go_wp2_with fail
  go_ret
  exact ⟨rfl, d⟩

set_option maxRecDepth 100000 in
theorem lifted (os : Os) (started : os.Started) (H : Type) (enc : TypeId × Value → H) :
    ReturnsInHanded {} Try.checked os 11 .any (Rows.fnExactJoinedSpec.pre6 enc Try.prog Try.f11 Rows.fnExactJoinedRow.domain false) (Rows.fnExactJoinedSpec.post enc Try.prog Try.f11 false true false false) := by
  refine returnsInHanded_of_change (C := Try.checked) own started (by kernel_rfl) Try.func11
    (ChangeSpec.witness6 (enc := enc) (C := Try.checked) false ⟨#[], #[.agg #[.int .i64 0, .slice none 0 0], .int .i64 0], []⟩ 8 (by kernel_rfl) (by kernel_rfl) (by kernel_rfl) (by kernel_rfl)) ?_
  intro W base args ds gs before hval0 hW hcnd _
  have hval : ∀ (j : Nat) t v, Try.f11.params[j]? = some t → args[j]? = some v → Value.okWide Try.prog W .any base t v := hval0
  have hW' := hW
  obtain ⟨p, q, hA0, hV, rfl, hfz, hnd⟩ := hW
  have hA : DataW.TrodAll enc Try.prog W 0 (fun _ => true) true Try.f11.params.toList args.toList ds p := hA0
  rw [Try.params11] at hA hval
  obtain ⟨v0, vs0, d0, ds0, p0, q0, hargs, rfl, rfl, h0, rr0⟩ := trodAll_cons hA
  obtain ⟨v1, vs1, d1, ds1, p1, q1, rfl, rfl, rfl, h1, rr1⟩ := trodAll_cons rr0
  obtain ⟨rfl, rfl, rfl⟩ := trodAll_nil rr1
  obtain rfl : args = #[v0, v1] := by cases args; simp_all
  obtain ⟨rfl, rfl⟩ := trodVars_none hV
  have kk0 := h0
  have lt0 : ∀ x ∈ p0, x.block < W.heap.size := by obtain ⟨fuel, hfuel⟩ := kk0; exact DataW.trod_lt fuel _ _ _ hfuel
  obtain ⟨n0, v0b, ms0, rfl, w0, x0⟩ := open_view (hval 0 38 v0 rfl rfl) h0
  have kk1 := h1
  have lt1 : ∀ x ∈ p1, x.block < W.heap.size := by obtain ⟨fuel, hfuel⟩ := kk1; exact DataW.trod_lt fuel _ _ _ hfuel
  obtain ⟨a1, rfl, w1⟩ := open_i64 (hval 1 2 v1 rfl rfl) h1
  clear hA0 hval0
  refine (walk n0 v0b ms0 a1 W w0 x0 w1).mono fun e W' ⟨he, bel⟩ => ?_
  subst he
  exact ⟨_, rfl, _, _, _, [], _, [], hW', trodAll_mk1 (shut_bool Try.underlying4 _), (trodAll_cons_mk (Below.trod laidOut (by kernel_rfl) (of_decide_eq_true (by kernel_rfl)) kk0 bel lt0) (trodAll_cons_mk (Below.trod laidOut (by kernel_rfl) (of_decide_eq_true (by kernel_rfl)) kk1 bel lt1) trodAll_mk0)), rfl, bel.frame _, fun h => by cases h⟩

theorem over : Rows.fnExactJoinedRow.holds Try.pinned (OpenSpec.ofChange Rows.fnExactJoinedSpec) :=
  OpenClaim.holds_of_wide 11 Try.f11 rfl rfl rfl rfl rfl rfl rfl ⟨rfl, rfl, rfl, rfl, rfl⟩ rfl rfl rfl rfl rfl (by kernel_rfl) Try.func11 (by kernel_rfl)
    (of_decide_eq_true (by kernel_rfl)) (by unfold Func.isWrapper; first | (rw [if_pos (by decide +kernel)]; kernel_rfl) | (rw [if_neg (by decide +kernel)]; exact ⟨rfl, rfl⟩))
    (fun os started H enc _ => lifted os started H enc)

theorem proved : Rows.FnExactJoinedSaid :=
  over
#print axioms proved
end Go.Proofs.Ytijmmenkcemggaa.fnExactJoined
