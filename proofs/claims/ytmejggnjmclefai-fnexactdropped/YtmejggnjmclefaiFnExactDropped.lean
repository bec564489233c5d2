/-
  The law FnExactDropped answers true at every input that the row speaks of, and its arguments read afterwards as before; the walk goes over the callees' contracts.
-/
import Derived.Test.YtmejggnjmclefaiRows
import Derived.WalkKit
import Derived.ProofKit
import Derived.OpenShut
import Derived.ChangeOld
import Derived.Below
import Derived.Carry
import Derived.Test.YtmejggnjmclefaiArgs
import Derived.Test.YtmejggnjmclefaiPoolLaw
import Derived.Test.YtmejggnjmclefaiImPool3
namespace Go.Proofs.Ytmejggnjmclefai.fnExactDropped
open Go.ChangeShapes Go.WideShapes Go.ChangeAt Go.RowKit
set_option linter.unusedVariables false

theorem own : ownKnob Try.prog.godebug = none := by kernel_rfl
theorem laidOut : laidOutB Try.prog = true := by kernel_rfl

set_option maxHeartbeats 4000000 in
theorem walk (v0a v0b : Value) (cs0 ps0 : List Int) (a1 : Int) (w : World) (w0 : Reads w.heap.size w v0a (cs0.map (Value.int .i64))) (x0 : Reads w.heap.size w v0b (ps0.map (Value.int .i64))) (w1 : (Lit.int .i64 a1).wf = true) :
    Calls Try.prog 5 #[.agg #[v0a, v0b], .int .i64 a1] w fun e w' => e = .returned (.bool true) ∧ Below w.heap.size w w' := by
  have r0 : RP w.heap.size w v0a v0b cs0 ps0 := ⟨w0, x0⟩
  obtain ⟨WA, hWA, kA, d, zA⟩ := box1 w #[v0a, v0b] 24
  have sA : w.heap.size < WA.heap.size := by omega
  have y0 := d.size
  replace r0 := r0.below d
  have HWA : Hid (WA = _) := hWA
  clear hWA zA w0 x0
  go_enter Try.func5, Try.ntmps5
  go_wp2_with fail
  rw [← HWA.out]
  clear HWA
  refine (szPool_any v0a v0b cs0 ps0 _ _ (by omega) (by omega) (r0.mono y0)).mono ?_
  rintro e wb ⟨q, rfl, hq, b⟩
  replace d := bw_call d b
  replace kA := (b.block _ sA).trans kA
  replace sA := Nat.lt_of_lt_of_le sA b.size
  replace r0 := r0.below (b.mono y0)
  replace y0 := Nat.le_trans y0 b.size
  clear b
  rcases hq with rfl | ⟨hq0, hq1, hbcs0, hbps0⟩
  · go_wp2_with fail
    go_ret
    exact ⟨rfl, d⟩
  have pA0 := at_cell kA 0
  have pA1 := at_cell kA 1
  go_wp2_with fail
  clear pA0 pA1
  refine (toPool_any v0a v0b cs0 ps0 _ hbcs0 hbps0 (r0.mono y0)).mono ?_
  rintro e wc ⟨t1, t2, rfl, ot, b⟩
  replace d := bw_call d b
  replace kA := (b.block _ sA).trans kA
  replace sA := Nat.lt_of_lt_of_le sA b.size
  replace r0 := r0.below (b.mono y0)
  replace y0 := Nat.le_trans y0 b.size
  clear b
  go_wp2_with fail
  have hlen := dropped_len cs0 ps0 a1
  obtain ⟨⟨⟨ncs, nps⟩, nv⟩, hfd⟩ : ∃ fd, dropped cs0 ps0 a1 = fd := ⟨_, rfl⟩
  have HFD : Hid (dropped cs0 ps0 a1 = ((ncs, nps), nv)) := hfd
  refine (specDropped_any t1 t2 cs0 ps0 a1 _ ot.r1 ot.r2).mono ?_
  rw [hfd] at hlen ⊢
  clear hfd
  simp only at hlen ⊢
  have hlens : ncs.length ≤ 1048576 ∧ nps.length ≤ 1048576 := by omega
  obtain ⟨hlncs, hlnps⟩ := hlens
  clear hlen
  rintro e wd ⟨s1, s2, rfl, os, b⟩
  replace d := bw_call d b
  replace kA := (b.block _ sA).trans kA
  replace sA := Nat.lt_of_lt_of_le sA b.size
  replace r0 := r0.below (b.mono y0)
  replace y0 := Nat.le_trans y0 b.size
  clear b
  have cD := d.size
  have sr := os.reads
  have ys : wd.heap.size ≤ wd.heap.size := Nat.le_refl _
  obtain ⟨os1, cs1, os2, cs2, rfl, rfl⟩ := os.forms
  clear os ot
  have b : Below wd.heap.size wd (wd.alloc (.cells #[.slice os1 ncs.length cs1, .slice os2 nps.length cs2] 26)) := bw_alloc (Below.refl _ _)
  have kB := heap_alloc_new wd (.cells #[.slice os1 ncs.length cs1, .slice os2 nps.length cs2] 26)
  have sB : wd.heap.size < (wd.alloc (.cells #[.slice os1 ncs.length cs1, .slice os2 nps.length cs2] 26)).heap.size := by simp
  replace d := bw_call d b
  replace kA := (b.block _ sA).trans kA
  replace sA := Nat.lt_of_lt_of_le sA b.size
  replace r0 := r0.below (b.mono y0)
  replace y0 := Nat.le_trans y0 b.size
  replace sr := sr.below (b.mono ys)
  replace ys := Nat.le_trans ys b.size
  clear b
  have pA0 := at_cell kA 0
  have pA1 := at_cell kA 1
  go_wp2_with fail
  clear pA0 pA1
  generalize wd.alloc (.cells #[.slice os1 ncs.length cs1, .slice os2 nps.length cs2] 26) = We at *
  have cX1 : w.heap.size < We.heap.size := sA
  have cX2 : wd.heap.size < We.heap.size := sB
  refine (toPool_any v0a v0b cs0 ps0 _ hbcs0 hbps0 (r0.mono y0)).mono ?_
  rintro e wf ⟨x1, x2, rfl, ox, b⟩
  have cX3 := b.size
  replace d := bw_call d b
  replace kA := (b.block _ sA).trans kA
  replace sA := Nat.lt_of_lt_of_le sA b.size
  replace r0 := r0.below (b.mono y0)
  replace y0 := Nat.le_trans y0 b.size
  replace sr := sr.below (b.mono ys)
  replace ys := Nat.le_trans ys b.size
  replace kB := (b.block _ sB).trans kB
  replace sB := Nat.lt_of_lt_of_le sB b.size
  clear b
  have TX : Hid _ := ox.span
  obtain ⟨ox1, cx1, ox2, cx2, rfl, rfl⟩ := ox.forms
  have b : Below wf.heap.size wf (wf.alloc (.cells #[.slice ox1 cs0.length cx1, .slice ox2 ps0.length cx2] 26)) := bw_alloc (Below.refl _ _)
  have kX := heap_alloc_new wf (.cells #[.slice ox1 cs0.length cx1, .slice ox2 ps0.length cx2] 26)
  have sX : wf.heap.size < (wf.alloc (.cells #[.slice ox1 cs0.length cx1, .slice ox2 ps0.length cx2] 26)).heap.size := by simp
  replace d := bw_call d b
  replace kA := (b.block _ sA).trans kA
  replace sA := Nat.lt_of_lt_of_le sA b.size
  replace r0 := r0.below (b.mono y0)
  replace y0 := Nat.le_trans y0 b.size
  replace sr := sr.below (b.mono ys)
  replace ys := Nat.le_trans ys b.size
  replace kB := (b.block _ sB).trans kB
  replace sB := Nat.lt_of_lt_of_le sB b.size
  replace ox := ox.below b
  clear b
  have pX0 := at_cell kX 0
  have pX1 := at_cell kX 1
  go_wp2_with fail
  clear pX0 pX1
  generalize wf.alloc (.cells #[.slice ox1 cs0.length cx1, .slice ox2 ps0.length cx2] 26) = Wx at *
  have cX4 : wf.heap.size < Wx.heap.size := sX
  refine (implDropped_any (.slice ox1 cs0.length cx1) (.slice ox2 ps0.length cx2) cs0 ps0 a1 _ ox.r1 ox.r2).mono ?_
  rw [HFD.out]
  simp only
  rintro e wg ⟨g1, g2, rfl, og, b⟩
  have cG1 := b.size
  replace d := bw_call d b
  replace kA := (b.block _ sA).trans kA
  replace sA := Nat.lt_of_lt_of_le sA b.size
  replace r0 := r0.below (b.mono y0)
  replace y0 := Nat.le_trans y0 b.size
  replace sr := sr.below (b.mono ys)
  replace ys := Nat.le_trans ys b.size
  replace kB := (b.block _ sB).trans kB
  replace sB := Nat.lt_of_lt_of_le sB b.size
  replace ox := ox.below b
  replace kX := (b.block _ sX).trans kX
  replace sX := Nat.lt_of_lt_of_le sX b.size
  clear b
  have TG : Hid _ := og.span
  obtain ⟨og1, cg1, og2, cg2, rfl, rfl⟩ := og.forms
  have b : Below wg.heap.size wg (wg.alloc (.cells #[.slice og1 ncs.length cg1, .slice og2 nps.length cg2] 26)) := bw_alloc (Below.refl _ _)
  have kG := heap_alloc_new wg (.cells #[.slice og1 ncs.length cg1, .slice og2 nps.length cg2] 26)
  have sG : wg.heap.size < (wg.alloc (.cells #[.slice og1 ncs.length cg1, .slice og2 nps.length cg2] 26)).heap.size := by simp
  replace d := bw_call d b
  replace kA := (b.block _ sA).trans kA
  replace sA := Nat.lt_of_lt_of_le sA b.size
  replace r0 := r0.below (b.mono y0)
  replace y0 := Nat.le_trans y0 b.size
  replace sr := sr.below (b.mono ys)
  replace ys := Nat.le_trans ys b.size
  replace kB := (b.block _ sB).trans kB
  replace sB := Nat.lt_of_lt_of_le sB b.size
  replace ox := ox.below b
  replace kX := (b.block _ sX).trans kX
  replace sX := Nat.lt_of_lt_of_le sX b.size
  replace og := og.below b
  clear b
  have pG0 := at_cell kG 0
  have pB0 := at_cell kB 0
  have pG1 := at_cell kG 1
  have pB1 := at_cell kB 1
  go_wp2_with fail
  clear pG0 pG1 pB0 pB1
  generalize wg.alloc (.cells #[.slice og1 ncs.length cg1, .slice og2 nps.length cg2] 26) = Wy at *
  have cG2 : wg.heap.size < Wy.heap.size := sG
  refine (eqPool_any (.slice og1 ncs.length cg1) (.slice og2 nps.length cg2) (.slice os1 ncs.length cs1) (.slice os2 nps.length cs2) ncs nps ncs nps _ og.reads (sr.mono ys)).mono ?_
  rintro e wh ⟨rfl, b⟩
  rw [show (decide (ncs = ncs) && decide (nps = nps)) = true by simp]
  replace d := bw_call d b
  replace kA := (b.block _ sA).trans kA
  replace sA := Nat.lt_of_lt_of_le sA b.size
  replace r0 := r0.below (b.mono y0)
  replace y0 := Nat.le_trans y0 b.size
  replace sr := sr.below (b.mono ys)
  replace ys := Nat.le_trans ys b.size
  replace kB := (b.block _ sB).trans kB
  replace sB := Nat.lt_of_lt_of_le sB b.size
  replace ox := ox.below b
  replace kX := (b.block _ sX).trans kX
  replace sX := Nat.lt_of_lt_of_le sX b.size
  replace og := og.below b
  replace kG := (b.block _ sG).trans kG
  replace sG := Nat.lt_of_lt_of_le sG b.size
  clear b
  go_wp2_with fail
  have S0 : wh.drew.cell? ⟨wf.heap.size, 0, none⟩ = some (.slice ox1 cs0.length cx1) ∧ wh.drew.cell? ⟨wf.heap.size, 1, none⟩ = some (.slice ox2 ps0.length cx2) ∧ wh.drew.cell? ⟨w.heap.size, 0, none⟩ = some v0a ∧ wh.drew.cell? ⟨w.heap.size, 1, none⟩ = some v0b := ⟨at_cell kX 0, at_cell kX 1, at_cell kA 0, at_cell kA 1⟩
  have RA : RP wh.drew.heap.size wh.drew v0a v0b cs0 ps0 := (r0.mono y0).below ((Below.refl _ _).drew)
  have OX := ox.below (w' := wh.drew) ((Below.refl _ _).drew)
  go_region_held3 (fun w' => w'.cell? ⟨wf.heap.size, 0, none⟩ = some (.slice ox1 cs0.length cx1) ∧ w'.cell? ⟨wf.heap.size, 1, none⟩ = some (.slice ox2 ps0.length cx2) ∧ w'.cell? ⟨w.heap.size, 0, none⟩ = some v0a ∧ w'.cell? ⟨w.heap.size, 1, none⟩ = some v0b)
    ((first | exact S0 | exact S1 | exact S2))
    ((first | (go_at_call 9; refine (toPool_any v0a v0b cs0 ps0 _ hbcs0 hbps0 RA).mono ?_; rintro e wi ⟨t1, t2, rfl, ot, bi⟩; have kXi := (bi.block _ (show _ < wh.heap.size from sX)).trans kX; have kAi := (bi.block _ (show _ < wh.heap.size from sA)).trans kA; have S1 := And.intro (at_cell kXi 0) (And.intro (at_cell kXi 1) (And.intro (at_cell kAi 0) (at_cell kAi 1))); have OXi := OX.below bi) | (go_at_call 11; refine (eqPool_any (.slice ox1 cs0.length cx1) (.slice ox2 ps0.length cx2) t1 t2 cs0 ps0 cs0 ps0 _ OXi.reads ot.reads).mono ?_; rintro e wj ⟨rfl, bj⟩; have kXj := (bj.block _ (heap_lt kXi)).trans kXi; have kAj := (bj.block _ (heap_lt kAi)).trans kAi; have S2 := And.intro (at_cell kXj 0) (And.intro (at_cell kXj 1) (And.intro (at_cell kAj 0) (at_cell kAj 1))))))
  have b : Below wh.heap.size wh wj := bw_call (bw_call (bw_drew (Below.refl _ _)) bi) bj
  clear S0 S1 S2 RA OX OXi kXi kAi kXj kAj ot bi bj
  replace d := bw_call d b
  replace kA := (b.block _ sA).trans kA
  replace sA := Nat.lt_of_lt_of_le sA b.size
  replace r0 := r0.below (b.mono y0)
  replace y0 := Nat.le_trans y0 b.size
  replace sr := sr.below (b.mono ys)
  replace ys := Nat.le_trans ys b.size
  replace kB := (b.block _ sB).trans kB
  replace sB := Nat.lt_of_lt_of_le sB b.size
  replace ox := ox.below b
  replace kX := (b.block _ sX).trans kX
  replace sX := Nat.lt_of_lt_of_le sX b.size
  replace og := og.below b
  replace kG := (b.block _ sG).trans kG
  replace sG := Nat.lt_of_lt_of_le sG b.size
  clear b
  have pX0 := at_cell kX 0
  have pX1 := at_cell kX 1
  go_wp2_with fail
  clear pX0 pX1
  refine (markPool_any (.slice ox1 cs0.length cx1) (.slice ox2 ps0.length cx2) cs0 ps0 We.heap.size wf.heap.size 1 _ (by omega) hbcs0 hbps0 (by omega) ox TX.out (by omega) (by omega)).mono ?_
  rintro e wk ⟨rfl, _, b⟩
  clear ox kX sX
  replace d := d.trans (b.toBelow (by omega) (by omega))
  replace kA := (b.block _ sA (by omega)).trans kA
  replace sA := Nat.lt_of_lt_of_le sA b.size
  replace r0 := r0.below (b.toBelow y0 (by omega))
  replace y0 := Nat.le_trans y0 b.size
  replace sr := sr.below (b.toBelow ys (by omega))
  replace ys := Nat.le_trans ys b.size
  replace kB := (b.block _ sB (by omega)).trans kB
  replace sB := Nat.lt_of_lt_of_le sB b.size
  replace og := og.rng b (by omega)
  replace kG := (b.block _ sG (by omega)).trans kG
  replace sG := Nat.lt_of_lt_of_le sG b.size
  clear b
  have hpos : 0 ≤ 1 + (cs0.length : Int) + (ps0.length : Int) := by omega
  have pG0 := at_cell kG 0
  have pB0 := at_cell kB 0
  have pG1 := at_cell kG 1
  have pB1 := at_cell kB 1
  go_wp2_with fail
  clear pG0 pG1 pB0 pB1
  refine (eqPool_any (.slice og1 ncs.length cg1) (.slice og2 nps.length cg2) (.slice os1 ncs.length cs1) (.slice os2 nps.length cs2) ncs nps ncs nps _ og.reads (sr.mono ys)).mono ?_
  rintro e wl ⟨rfl, b⟩
  rw [show (decide (ncs = ncs) && decide (nps = nps)) = true by simp]
  replace d := bw_call d b
  replace kA := (b.block _ sA).trans kA
  replace sA := Nat.lt_of_lt_of_le sA b.size
  replace r0 := r0.below (b.mono y0)
  replace y0 := Nat.le_trans y0 b.size
  replace sr := sr.below (b.mono ys)
  replace ys := Nat.le_trans ys b.size
  replace kB := (b.block _ sB).trans kB
  replace sB := Nat.lt_of_lt_of_le sB b.size
  replace og := og.below b
  replace kG := (b.block _ sG).trans kG
  replace sG := Nat.lt_of_lt_of_le sG b.size
  clear b
  have pG0 := at_cell kG 0
  have pG1 := at_cell kG 1
  go_wp2_with fail
  clear pG0 pG1
  refine (markPool_any (.slice og1 ncs.length cg1) (.slice og2 nps.length cg2) ncs nps Wx.heap.size wg.heap.size 1 _ (by omega) hlncs hlnps (by omega) og TG.out (by omega) (by omega)).mono ?_
  rintro e wm ⟨rfl, ogm, b⟩
  clear og
  replace d := d.trans (b.toBelow (by omega) (by omega))
  replace kA := (b.block _ sA (by omega)).trans kA
  replace sA := Nat.lt_of_lt_of_le sA b.size
  replace r0 := r0.below (b.toBelow y0 (by omega))
  replace y0 := Nat.le_trans y0 b.size
  replace sr := sr.below (b.toBelow ys (by omega))
  replace ys := Nat.le_trans ys b.size
  replace kB := (b.block _ sB (by omega)).trans kB
  replace sB := Nat.lt_of_lt_of_le sB b.size
  replace kG := (b.block _ sG (by omega)).trans kG
  replace sG := Nat.lt_of_lt_of_le sG b.size
  clear b
  have hposn : 0 ≤ 1 + (ncs.length : Int) + (nps.length : Int) := by omega
  have pG0 := at_cell kG 0
  have pG1 := at_cell kG 1
  go_wp2_with fail
  clear pG0 pG1
  refine (heldPool_any (.slice og1 ncs.length cg1) (.slice og2 nps.length cg2) ncs.length nps.length 1 _ (by omega) (by omega) hlncs hlnps ogm.reads).mono ?_
  rintro e wn ⟨rfl, b⟩
  replace d := bw_call d b
  replace kA := (b.block _ sA).trans kA
  replace sA := Nat.lt_of_lt_of_le sA b.size
  replace r0 := r0.below (b.mono y0)
  replace y0 := Nat.le_trans y0 b.size
  replace sr := sr.below (b.mono ys)
  replace ys := Nat.le_trans ys b.size
  replace kB := (b.block _ sB).trans kB
  replace sB := Nat.lt_of_lt_of_le sB b.size
  replace kG := (b.block _ sG).trans kG
  replace sG := Nat.lt_of_lt_of_le sG b.size
  replace ogm := ogm.below b
  clear b
  have pA0 := at_cell kA 0
  have pA1 := at_cell kA 1
  go_wp2_with fail
  clear pA0 pA1
  refine (toPool_any v0a v0b cs0 ps0 _ hbcs0 hbps0 (r0.mono y0)).mono ?_
  rintro e wo ⟨t1, t2, rfl, ot, b⟩
  replace d := bw_call d b
  replace kA := (b.block _ sA).trans kA
  replace sA := Nat.lt_of_lt_of_le sA b.size
  replace r0 := r0.below (b.mono y0)
  replace y0 := Nat.le_trans y0 b.size
  replace sr := sr.below (b.mono ys)
  replace ys := Nat.le_trans ys b.size
  replace kB := (b.block _ sB).trans kB
  replace sB := Nat.lt_of_lt_of_le sB b.size
  replace kG := (b.block _ sG).trans kG
  replace sG := Nat.lt_of_lt_of_le sG b.size
  replace ogm := ogm.below b
  clear b
  go_wp2_with fail
  refine (implDropped_any t1 t2 cs0 ps0 a1 _ ot.r1 ot.r2).mono ?_
  rw [HFD.out]
  simp only
  rintro e wp ⟨h1, h2, rfl, oh, b⟩
  replace d := bw_call d b
  replace kA := (b.block _ sA).trans kA
  replace sA := Nat.lt_of_lt_of_le sA b.size
  replace r0 := r0.below (b.mono y0)
  replace y0 := Nat.le_trans y0 b.size
  replace sr := sr.below (b.mono ys)
  replace ys := Nat.le_trans ys b.size
  replace kB := (b.block _ sB).trans kB
  replace sB := Nat.lt_of_lt_of_le sB b.size
  replace kG := (b.block _ sG).trans kG
  replace sG := Nat.lt_of_lt_of_le sG b.size
  replace ogm := ogm.below b
  clear b
  obtain ⟨oh1, ch1, oh2, ch2, rfl, rfl⟩ := oh.forms
  clear ot
  have b : Below wp.heap.size wp (wp.alloc (.cells #[.slice oh1 ncs.length ch1, .slice oh2 nps.length ch2] 26)) := bw_alloc (Below.refl _ _)
  have kH := heap_alloc_new wp (.cells #[.slice oh1 ncs.length ch1, .slice oh2 nps.length ch2] 26)
  have sH : wp.heap.size < (wp.alloc (.cells #[.slice oh1 ncs.length ch1, .slice oh2 nps.length ch2] 26)).heap.size := by simp
  replace d := bw_call d b
  replace kA := (b.block _ sA).trans kA
  replace sA := Nat.lt_of_lt_of_le sA b.size
  replace r0 := r0.below (b.mono y0)
  replace y0 := Nat.le_trans y0 b.size
  replace sr := sr.below (b.mono ys)
  replace ys := Nat.le_trans ys b.size
  replace kB := (b.block _ sB).trans kB
  replace sB := Nat.lt_of_lt_of_le sB b.size
  replace kG := (b.block _ sG).trans kG
  replace sG := Nat.lt_of_lt_of_le sG b.size
  replace ogm := ogm.below b
  replace oh := oh.below b
  clear b
  have pH0 := at_cell kH 0
  have pB0 := at_cell kB 0
  have pH1 := at_cell kH 1
  have pB1 := at_cell kB 1
  go_wp2_with fail
  clear pH0 pH1 pB0 pB1
  generalize wp.alloc (.cells #[.slice oh1 ncs.length ch1, .slice oh2 nps.length ch2] 26) = Wz at *
  refine (eqPool_any (.slice oh1 ncs.length ch1) (.slice oh2 nps.length ch2) (.slice os1 ncs.length cs1) (.slice os2 nps.length cs2) ncs nps ncs nps _ oh.reads (sr.mono ys)).mono ?_
  rintro e wq ⟨rfl, b⟩
  rw [show (decide (ncs = ncs) && decide (nps = nps)) = true by simp]
  replace d := bw_call d b
  replace kA := (b.block _ sA).trans kA
  replace sA := Nat.lt_of_lt_of_le sA b.size
  replace r0 := r0.below (b.mono y0)
  replace y0 := Nat.le_trans y0 b.size
  replace sr := sr.below (b.mono ys)
  replace ys := Nat.le_trans ys b.size
  replace kB := (b.block _ sB).trans kB
  replace sB := Nat.lt_of_lt_of_le sB b.size
  replace kG := (b.block _ sG).trans kG
  replace sG := Nat.lt_of_lt_of_le sG b.size
  replace ogm := ogm.below b
  replace oh := oh.below b
  replace kH := (b.block _ sH).trans kH
  replace sH := Nat.lt_of_lt_of_le sH b.size
  clear b
  have pG0 := at_cell kG 0
  have pG1 := at_cell kG 1
  go_wp2_with fail
  clear pG0 pG1
  refine (heldPool_any (.slice og1 ncs.length cg1) (.slice og2 nps.length cg2) ncs.length nps.length 1 _ (by omega) (by omega) hlncs hlnps ogm.reads).mono ?_
  rintro e wr ⟨rfl, b⟩
  replace d := bw_call d b
  replace kA := (b.block _ sA).trans kA
  replace sA := Nat.lt_of_lt_of_le sA b.size
  replace r0 := r0.below (b.mono y0)
  replace y0 := Nat.le_trans y0 b.size
  replace sr := sr.below (b.mono ys)
  replace ys := Nat.le_trans ys b.size
  replace kB := (b.block _ sB).trans kB
  replace sB := Nat.lt_of_lt_of_le sB b.size
  replace kG := (b.block _ sG).trans kG
  replace sG := Nat.lt_of_lt_of_le sG b.size
  replace ogm := ogm.below b
  replace oh := oh.below b
  replace kH := (b.block _ sH).trans kH
  replace sH := Nat.lt_of_lt_of_le sH b.size
  clear b
  go_wp2_with fail
  go_ret
  exact ⟨rfl, d⟩

set_option maxRecDepth 100000 in
theorem lifted (os : Os) (started : os.Started) (H : Type) (enc : TypeId × Value → H) :
    ReturnsInHanded {} Try.checked os 5 .any (Rows.fnExactDroppedSpec.pre6 enc Try.prog Try.f5 Rows.fnExactDroppedRow.domain false) (Rows.fnExactDroppedSpec.post enc Try.prog Try.f5 false true false false) := by
  refine returnsInHanded_of_change (C := Try.checked) own started (by kernel_rfl) Try.func5
    (ChangeSpec.witness6 (enc := enc) (C := Try.checked) false ⟨#[], #[.agg #[.slice none 0 0, .slice none 0 0], .int .i64 0], []⟩ 8 (by kernel_rfl) (by kernel_rfl) (by kernel_rfl) (by kernel_rfl)) ?_
  intro W base args ds gs before hval0 hW hcnd _
  have hval : ∀ (j : Nat) t v, Try.f5.params[j]? = some t → args[j]? = some v → Value.okWide Try.prog W .any base t v := hval0
  have hW' := hW
  obtain ⟨p, q, hA0, hV, rfl, hfz, hnd⟩ := hW
  have hA : DataW.TrodAll enc Try.prog W 0 (fun _ => true) true Try.f5.params.toList args.toList ds p := hA0
  rw [Try.params5] at hA hval
  obtain ⟨v0, vs0, d0, ds0, p0, q0, hargs, rfl, rfl, h0, rr0⟩ := trodAll_cons hA
  obtain ⟨v1, vs1, d1, ds1, p1, q1, rfl, rfl, rfl, h1, rr1⟩ := trodAll_cons rr0
  obtain ⟨rfl, rfl, rfl⟩ := trodAll_nil rr1
  obtain rfl : args = #[v0, v1] := by cases args; simp_all
  obtain ⟨rfl, rfl⟩ := trodVars_none hV
  have kk0 := h0
  have lt0 : ∀ x ∈ p0, x.block < W.heap.size := by obtain ⟨fuel, hfuel⟩ := kk0; exact DataW.trod_lt fuel _ _ _ hfuel
  obtain ⟨v0a, v0b, cs0, ps0, rfl, w0, x0⟩ := open_pool (hval 0 24 v0 rfl rfl) h0
  have kk1 := h1
  have lt1 : ∀ x ∈ p1, x.block < W.heap.size := by obtain ⟨fuel, hfuel⟩ := kk1; exact DataW.trod_lt fuel _ _ _ hfuel
  obtain ⟨a1, rfl, w1⟩ := open_i64 (hval 1 2 v1 rfl rfl) h1
  clear hA0 hval0
  refine (walk v0a v0b cs0 ps0 a1 W w0 x0 w1).mono fun e W' ⟨he, bel⟩ => ?_
  subst he
  exact ⟨_, rfl, _, _, _, [], _, [], hW', trodAll_mk1 (shut_bool Try.underlying4 _), (trodAll_cons_mk (Below.trod laidOut (by kernel_rfl) (of_decide_eq_true (by kernel_rfl)) kk0 bel lt0) (trodAll_cons_mk (Below.trod laidOut (by kernel_rfl) (of_decide_eq_true (by kernel_rfl)) kk1 bel lt1) trodAll_mk0)), rfl, bel.frame _, fun h => by cases h⟩

theorem over : Rows.fnExactDroppedRow.holds Try.pinned (OpenSpec.ofChange Rows.fnExactDroppedSpec) :=
  OpenClaim.holds_of_wide 5 Try.f5 rfl rfl rfl rfl rfl rfl rfl ⟨rfl, rfl, rfl, rfl, rfl⟩ rfl rfl rfl rfl rfl (by kernel_rfl) Try.func5 (by kernel_rfl)
    (of_decide_eq_true (by kernel_rfl)) (by unfold Func.isWrapper; first | (rw [if_pos (by decide +kernel)]; kernel_rfl) | (rw [if_neg (by decide +kernel)]; exact ⟨rfl, rfl⟩))
    (fun os started H enc _ => lifted os started H enc)

theorem proved : Rows.FnExactDroppedSaid :=
  over
#print axioms proved
end Go.Proofs.Ytmejggnjmclefai.fnExactDropped
