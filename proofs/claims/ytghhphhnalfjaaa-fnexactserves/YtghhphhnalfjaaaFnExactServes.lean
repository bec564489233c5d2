/-
  The law FnExactServes answers true at every input that the row speaks of, and its arguments read afterwards as before; the walk goes over the callees' contracts.
-/
import Derived.Test.YtghhphhnalfjaaaRows
import Derived.WalkKit
import Derived.ProofKit
import Derived.OpenShut
import Derived.ChangeOld
import Derived.Below
import Derived.Carry
import Derived.Test.YtghhphhnalfjaaaArgs
import Derived.Test.YtghhphhnalfjaaaArgsVw
import Derived.Test.YtghhphhnalfjaaaVwLaw
import Derived.Test.YtghhphhnalfjaaaOpLaw
import Derived.Test.YtghhphhnalfjaaaSrv
namespace Go.Proofs.Ytghhphhnalfjaaa.fnExactServes
open Go.ChangeShapes Go.WideShapes Go.ChangeAt Go.RowKit
set_option linter.unusedVariables false

theorem own : ownKnob Try.prog.godebug = none := by kernel_rfl
theorem laidOut : laidOutB Try.prog = true := by kernel_rfl

set_option maxRecDepth 100000 in
set_option maxHeartbeats 8000000 in
theorem walk (n0 : Int) (v0b : Value) (ms0 : List Int) (ok1 : Int) (on1 oo1 : ByteArray) (oa1 ov1 oe1 : Int) (w : World) (w0 : RVw w.heap.size w v0b ms0) (x0 : FitV n0 ms0) (u1 : on1.size ≤ maxLen) (x1 : oo1.size ≤ maxLen) (fk1 : I64 ok1) (fa1 : I64 oa1) (fv1 : I64 ov1) (fe1 : I64 oe1) :
    Calls Try.prog 7 #[.agg #[.int .i64 n0, v0b], .agg #[.int .i64 ok1, .string on1, .string oo1, .int .i64 oa1, .int .i64 ov1, .int .i64 oe1]] w fun e w' => e = .returned (.bool true) ∧ Below w.heap.size w w' := by
  have r0 : RVw w.heap.size w v0b ms0 := w0
  obtain ⟨WA, hWA, kA, kO, d, zA⟩ := box2 w #[.int .i64 n0, v0b] #[.int .i64 ok1, .string on1, .string oo1, .int .i64 oa1, .int .i64 ov1, .int .i64 oe1] 54 55
  have sA : w.heap.size < WA.heap.size := by omega
  have sO : w.heap.size + 1 < WA.heap.size := by omega
  have y0 := d.size
  replace r0 := r0.below d
  have HWA : Hid (WA = _) := hWA
  clear hWA zA w0
  obtain ⟨nv, hnv⟩ : ∃ x, serves n0 ms0 ⟨ok1, on1, oo1, oa1, ov1, oe1⟩ = x := ⟨_, rfl⟩
  have HFD : Hid (serves n0 ms0 ⟨ok1, on1, oo1, oa1, ov1, oe1⟩ = nv) := hnv
  clear hnv
  go_enter Try.func7, Try.ntmps7
  go_wp2_with fail
  rw [← HWA.out]
  clear HWA
  refine (szView_any n0 v0b ms0 _ _ (by omega) (by omega) (r0.mono y0)).mono ?_
  rintro e wb ⟨q, rfl, hq, b⟩
  replace d := bw_call d b
  replace kA := (b.block _ sA).trans kA
  replace sA := Nat.lt_of_lt_of_le sA b.size
  replace kO := (b.block _ sO).trans kO
  replace sO := Nat.lt_of_lt_of_le sO b.size
  replace r0 := r0.below (b.mono y0)
  replace y0 := Nat.le_trans y0 b.size
  clear b
  rcases hq with rfl | ⟨hq0, hq1, hbms0⟩
  · go_wp2_with fail
    go_ret
    exact ⟨rfl, d⟩
  have pO0 := at_cell kO 0
  have pO1 := at_cell kO 1
  have pO2 := at_cell kO 2
  have pO3 := at_cell kO 3
  have pO4 := at_cell kO 4
  have pO5 := at_cell kO 5
  go_wp2_with fail
  clear pO0 pO1 pO2 pO3 pO4 pO5
  refine (szOp_any ok1 on1 oo1 oa1 ov1 oe1 q _ u1 x1 hq0 (by omega)).mono ?_
  rintro e wb2 ⟨q2, rfl, hq2, b⟩
  replace d := bw_call d b
  replace kA := (b.block _ sA).trans kA
  replace sA := Nat.lt_of_lt_of_le sA b.size
  replace kO := (b.block _ sO).trans kO
  replace sO := Nat.lt_of_lt_of_le sO b.size
  replace r0 := r0.below (b.mono y0)
  replace y0 := Nat.le_trans y0 b.size
  clear b
  rcases hq2 with rfl | ⟨hq20, hq21, hb1, hb2⟩
  · go_wp2_with fail
    go_ret
    exact ⟨rfl, d⟩
  go_wp2_with fail
  have S0 : wb2.drew.cell? ⟨w.heap.size, 0, none⟩ = some (.int .i64 n0) ∧ wb2.drew.cell? ⟨w.heap.size, 1, none⟩ = some (v0b) ∧ wb2.drew.cell? ⟨w.heap.size + 1, 0, none⟩ = some (.int .i64 ok1) ∧ wb2.drew.cell? ⟨w.heap.size + 1, 1, none⟩ = some (.string on1) ∧ wb2.drew.cell? ⟨w.heap.size + 1, 2, none⟩ = some (.string oo1) ∧ wb2.drew.cell? ⟨w.heap.size + 1, 3, none⟩ = some (.int .i64 oa1) ∧ wb2.drew.cell? ⟨w.heap.size + 1, 4, none⟩ = some (.int .i64 ov1) ∧ wb2.drew.cell? ⟨w.heap.size + 1, 5, none⟩ = some (.int .i64 oe1) := ⟨at_cell kA 0, at_cell kA 1, at_cell kO 0, at_cell kO 1, at_cell kO 2, at_cell kO 3, at_cell kO 4, at_cell kO 5⟩
  have RA : RVw wb2.drew.heap.size wb2.drew v0b ms0 := (r0.mono y0).below ((Below.refl _ _).drew)
  go_region_held3 (fun w' => w'.cell? ⟨w.heap.size, 0, none⟩ = some (.int .i64 n0) ∧ w'.cell? ⟨w.heap.size, 1, none⟩ = some (v0b) ∧ w'.cell? ⟨w.heap.size + 1, 0, none⟩ = some (.int .i64 ok1) ∧ w'.cell? ⟨w.heap.size + 1, 1, none⟩ = some (.string on1) ∧ w'.cell? ⟨w.heap.size + 1, 2, none⟩ = some (.string oo1) ∧ w'.cell? ⟨w.heap.size + 1, 3, none⟩ = some (.int .i64 oa1) ∧ w'.cell? ⟨w.heap.size + 1, 4, none⟩ = some (.int .i64 ov1) ∧ w'.cell? ⟨w.heap.size + 1, 5, none⟩ = some (.int .i64 oe1))
    ((first | exact S0 | exact Si | exact Sj | exact Sk))
    ((first | (go_at_call 31; refine (toView_any n0 v0b ms0 _ hbms0 RA).mono ?_; rintro e wi ⟨t2, rfl, ot, bi⟩; have kAi := (bi.block _ (show _ < wb2.heap.size from sA)).trans kA; have kOi := (bi.block _ (show _ < wb2.heap.size from sO)).trans kO; have Si : wi.cell? ⟨w.heap.size, 0, none⟩ = some (.int .i64 n0) ∧ wi.cell? ⟨w.heap.size, 1, none⟩ = some (v0b) ∧ wi.cell? ⟨w.heap.size + 1, 0, none⟩ = some (.int .i64 ok1) ∧ wi.cell? ⟨w.heap.size + 1, 1, none⟩ = some (.string on1) ∧ wi.cell? ⟨w.heap.size + 1, 2, none⟩ = some (.string oo1) ∧ wi.cell? ⟨w.heap.size + 1, 3, none⟩ = some (.int .i64 oa1) ∧ wi.cell? ⟨w.heap.size + 1, 4, none⟩ = some (.int .i64 ov1) ∧ wi.cell? ⟨w.heap.size + 1, 5, none⟩ = some (.int .i64 oe1) := ⟨at_cell kAi 0, at_cell kAi 1, at_cell kOi 0, at_cell kOi 1, at_cell kOi 2, at_cell kOi 3, at_cell kOi 4, at_cell kOi 5⟩) | (go_at_call 32; refine (toOp_any ok1 on1 oo1 oa1 ov1 oe1 _).mono ?_; rintro e wj ⟨rfl, bj⟩; have ot2 := ot.below bj; have kAj := (bj.block _ (heap_lt kAi)).trans kAi; have kOj := (bj.block _ (heap_lt kOi)).trans kOi; have Sj : wj.cell? ⟨w.heap.size, 0, none⟩ = some (.int .i64 n0) ∧ wj.cell? ⟨w.heap.size, 1, none⟩ = some (v0b) ∧ wj.cell? ⟨w.heap.size + 1, 0, none⟩ = some (.int .i64 ok1) ∧ wj.cell? ⟨w.heap.size + 1, 1, none⟩ = some (.string on1) ∧ wj.cell? ⟨w.heap.size + 1, 2, none⟩ = some (.string oo1) ∧ wj.cell? ⟨w.heap.size + 1, 3, none⟩ = some (.int .i64 oa1) ∧ wj.cell? ⟨w.heap.size + 1, 4, none⟩ = some (.int .i64 ov1) ∧ wj.cell? ⟨w.heap.size + 1, 5, none⟩ = some (.int .i64 oe1) := ⟨at_cell kAj 0, at_cell kAj 1, at_cell kOj 0, at_cell kOj 1, at_cell kOj 2, at_cell kOj 3, at_cell kOj 4, at_cell kOj 5⟩) | (go_at_call 30; refine (specServes_any n0 t2 ms0 ok1 on1 oo1 oa1 ov1 oe1 _ ot2.r u1 x1).mono ?_; rw [HFD.out]; rintro e wk ⟨rfl, bk⟩; have kAk := (bk.block _ (heap_lt kAj)).trans kAj; have kOk := (bk.block _ (heap_lt kOj)).trans kOj; have Sk : wk.cell? ⟨w.heap.size, 0, none⟩ = some (.int .i64 n0) ∧ wk.cell? ⟨w.heap.size, 1, none⟩ = some (v0b) ∧ wk.cell? ⟨w.heap.size + 1, 0, none⟩ = some (.int .i64 ok1) ∧ wk.cell? ⟨w.heap.size + 1, 1, none⟩ = some (.string on1) ∧ wk.cell? ⟨w.heap.size + 1, 2, none⟩ = some (.string oo1) ∧ wk.cell? ⟨w.heap.size + 1, 3, none⟩ = some (.int .i64 oa1) ∧ wk.cell? ⟨w.heap.size + 1, 4, none⟩ = some (.int .i64 ov1) ∧ wk.cell? ⟨w.heap.size + 1, 5, none⟩ = some (.int .i64 oe1) := ⟨at_cell kAk 0, at_cell kAk 1, at_cell kOk 0, at_cell kOk 1, at_cell kOk 2, at_cell kOk 3, at_cell kOk 4, at_cell kOk 5⟩)))
  have b : Below wb2.heap.size wb2 wk := bw_call (bw_call (bw_call (bw_drew (Below.refl _ _)) bi) bj) bk
  clear S0 Si Sj Sk RA kAi kOi kAj kOj kAk kOk ot ot2 bi bj bk
  replace d := bw_call d b
  replace kA := (b.block _ sA).trans kA
  replace sA := Nat.lt_of_lt_of_le sA b.size
  replace kO := (b.block _ sO).trans kO
  replace sO := Nat.lt_of_lt_of_le sO b.size
  replace r0 := r0.below (b.mono y0)
  replace y0 := Nat.le_trans y0 b.size
  clear b
  have pA0 := at_cell kA 0
  have pA1 := at_cell kA 1
  go_wp2_with fail
  clear pA0 pA1
  have cX1 : w.heap.size < wk.heap.size := sA
  refine (toView_any n0 v0b ms0 _ hbms0 (r0.mono y0)).mono ?_
  rintro e wf ⟨x2, rfl, ox, b⟩
  have cX3 := b.size
  replace d := bw_call d b
  replace kA := (b.block _ sA).trans kA
  replace sA := Nat.lt_of_lt_of_le sA b.size
  replace kO := (b.block _ sO).trans kO
  replace sO := Nat.lt_of_lt_of_le sO b.size
  replace r0 := r0.below (b.mono y0)
  replace y0 := Nat.le_trans y0 b.size
  clear b
  obtain ⟨zax, zcx, rfl⟩ := ox.forms
  have b : Below wf.heap.size wf (wf.alloc (.cells #[.int .i64 n0, .slice zax ms0.length zcx] 59)) := bw_alloc (Below.refl _ _)
  have kX := heap_alloc_new wf (.cells #[.int .i64 n0, .slice zax ms0.length zcx] 59)
  have sX : wf.heap.size < (wf.alloc (.cells #[.int .i64 n0, .slice zax ms0.length zcx] 59)).heap.size := by simp
  replace d := bw_call d b
  replace kA := (b.block _ sA).trans kA
  replace sA := Nat.lt_of_lt_of_le sA b.size
  replace kO := (b.block _ sO).trans kO
  replace sO := Nat.lt_of_lt_of_le sO b.size
  replace r0 := r0.below (b.mono y0)
  replace y0 := Nat.le_trans y0 b.size
  replace ox := ox.below b
  clear b
  go_wp2_with fail
  generalize wf.alloc (.cells #[.int .i64 n0, .slice zax ms0.length zcx] 59) = Wx at *
  have cX4 : wf.heap.size < Wx.heap.size := sX
  have S0 : Wx.drew.cell? ⟨wf.heap.size, 0, none⟩ = some (.int .i64 n0) ∧ Wx.drew.cell? ⟨wf.heap.size, 1, none⟩ = some (.slice zax ms0.length zcx) ∧ Wx.drew.cell? ⟨w.heap.size + 1, 0, none⟩ = some (.int .i64 ok1) ∧ Wx.drew.cell? ⟨w.heap.size + 1, 1, none⟩ = some (.string on1) ∧ Wx.drew.cell? ⟨w.heap.size + 1, 2, none⟩ = some (.string oo1) ∧ Wx.drew.cell? ⟨w.heap.size + 1, 3, none⟩ = some (.int .i64 oa1) ∧ Wx.drew.cell? ⟨w.heap.size + 1, 4, none⟩ = some (.int .i64 ov1) ∧ Wx.drew.cell? ⟨w.heap.size + 1, 5, none⟩ = some (.int .i64 oe1) := ⟨at_cell kX 0, at_cell kX 1, at_cell kO 0, at_cell kO 1, at_cell kO 2, at_cell kO 3, at_cell kO 4, at_cell kO 5⟩
  have OX := ox.below (w' := Wx.drew) ((Below.refl _ _).drew)
  go_region_held3 (fun w' => w'.cell? ⟨wf.heap.size, 0, none⟩ = some (.int .i64 n0) ∧ w'.cell? ⟨wf.heap.size, 1, none⟩ = some (.slice zax ms0.length zcx) ∧ w'.cell? ⟨w.heap.size + 1, 0, none⟩ = some (.int .i64 ok1) ∧ w'.cell? ⟨w.heap.size + 1, 1, none⟩ = some (.string on1) ∧ w'.cell? ⟨w.heap.size + 1, 2, none⟩ = some (.string oo1) ∧ w'.cell? ⟨w.heap.size + 1, 3, none⟩ = some (.int .i64 oa1) ∧ w'.cell? ⟨w.heap.size + 1, 4, none⟩ = some (.int .i64 ov1) ∧ w'.cell? ⟨w.heap.size + 1, 5, none⟩ = some (.int .i64 oe1))
    ((first | exact S0 | exact Sj | exact Sk))
    ((first | (go_at_call 32; refine (toOp_any ok1 on1 oo1 oa1 ov1 oe1 _).mono ?_; rintro e wj ⟨rfl, bj⟩; have kXj := (bj.block _ (show _ < Wx.heap.size from sX)).trans kX; have kOj := (bj.block _ (show _ < Wx.heap.size from sO)).trans kO; have OXj := OX.below bj; have Sj : wj.cell? ⟨wf.heap.size, 0, none⟩ = some (.int .i64 n0) ∧ wj.cell? ⟨wf.heap.size, 1, none⟩ = some (.slice zax ms0.length zcx) ∧ wj.cell? ⟨w.heap.size + 1, 0, none⟩ = some (.int .i64 ok1) ∧ wj.cell? ⟨w.heap.size + 1, 1, none⟩ = some (.string on1) ∧ wj.cell? ⟨w.heap.size + 1, 2, none⟩ = some (.string oo1) ∧ wj.cell? ⟨w.heap.size + 1, 3, none⟩ = some (.int .i64 oa1) ∧ wj.cell? ⟨w.heap.size + 1, 4, none⟩ = some (.int .i64 ov1) ∧ wj.cell? ⟨w.heap.size + 1, 5, none⟩ = some (.int .i64 oe1) := ⟨at_cell kXj 0, at_cell kXj 1, at_cell kOj 0, at_cell kOj 1, at_cell kOj 2, at_cell kOj 3, at_cell kOj 4, at_cell kOj 5⟩) | (go_at_call 33; refine (implServes_any n0 (.slice zax ms0.length zcx) ms0 ok1 on1 oo1 oa1 ov1 oe1 _ OXj.r u1 x1 fk1 fa1 fv1 fe1).mono ?_; rw [HFD.out]; rintro e wg ⟨rfl, bk⟩; have kXk := (bk.block _ (heap_lt kXj)).trans kXj; have kOk := (bk.block _ (heap_lt kOj)).trans kOj; have Sk : wg.cell? ⟨wf.heap.size, 0, none⟩ = some (.int .i64 n0) ∧ wg.cell? ⟨wf.heap.size, 1, none⟩ = some (.slice zax ms0.length zcx) ∧ wg.cell? ⟨w.heap.size + 1, 0, none⟩ = some (.int .i64 ok1) ∧ wg.cell? ⟨w.heap.size + 1, 1, none⟩ = some (.string on1) ∧ wg.cell? ⟨w.heap.size + 1, 2, none⟩ = some (.string oo1) ∧ wg.cell? ⟨w.heap.size + 1, 3, none⟩ = some (.int .i64 oa1) ∧ wg.cell? ⟨w.heap.size + 1, 4, none⟩ = some (.int .i64 ov1) ∧ wg.cell? ⟨w.heap.size + 1, 5, none⟩ = some (.int .i64 oe1) := ⟨at_cell kXk 0, at_cell kXk 1, at_cell kOk 0, at_cell kOk 1, at_cell kOk 2, at_cell kOk 3, at_cell kOk 4, at_cell kOk 5⟩)))
  have b : Below Wx.heap.size Wx wg := bw_call (bw_call (bw_drew (Below.refl _ _)) bj) bk
  clear S0 Sj Sk OX OXj kXj kOj kXk kOk bj bk
  replace d := bw_call d b
  replace kA := (b.block _ sA).trans kA
  replace sA := Nat.lt_of_lt_of_le sA b.size
  replace kO := (b.block _ sO).trans kO
  replace sO := Nat.lt_of_lt_of_le sO b.size
  replace r0 := r0.below (b.mono y0)
  replace y0 := Nat.le_trans y0 b.size
  replace ox := ox.below b
  replace kX := (b.block _ sX).trans kX
  replace sX := Nat.lt_of_lt_of_le sX b.size
  clear b
  have hself : (nv != nv) = false := by simp
  go_wp2_with fail
  have S0 : wg.drew.cell? ⟨wf.heap.size, 0, none⟩ = some (.int .i64 n0) ∧ wg.drew.cell? ⟨wf.heap.size, 1, none⟩ = some (.slice zax ms0.length zcx) ∧ wg.drew.cell? ⟨w.heap.size, 0, none⟩ = some (.int .i64 n0) ∧ wg.drew.cell? ⟨w.heap.size, 1, none⟩ = some (v0b) := ⟨at_cell kX 0, at_cell kX 1, at_cell kA 0, at_cell kA 1⟩
  have RA : RVw wg.drew.heap.size wg.drew v0b ms0 := (r0.mono y0).below ((Below.refl _ _).drew)
  have OX := ox.below (w' := wg.drew) ((Below.refl _ _).drew)
  go_region_held3 (fun w' => w'.cell? ⟨wf.heap.size, 0, none⟩ = some (.int .i64 n0) ∧ w'.cell? ⟨wf.heap.size, 1, none⟩ = some (.slice zax ms0.length zcx) ∧ w'.cell? ⟨w.heap.size, 0, none⟩ = some (.int .i64 n0) ∧ w'.cell? ⟨w.heap.size, 1, none⟩ = some (v0b))
    ((first | exact S0 | exact S1 | exact S2))
    ((first | (go_at_call 31; refine (toView_any n0 v0b ms0 _ hbms0 RA).mono ?_; rintro e wi ⟨t2, rfl, ot, bi⟩; have kXi := (bi.block _ (show _ < wg.heap.size from sX)).trans kX; have kAi := (bi.block _ (show _ < wg.heap.size from sA)).trans kA; have S1 := And.intro (at_cell kXi 0) (And.intro (at_cell kXi 1) (And.intro (at_cell kAi 0) (at_cell kAi 1))); have OXi := OX.below bi) | (go_at_call 34; refine (eqView_any n0 n0 (.slice zax ms0.length zcx) t2 ms0 ms0 _ OXi.reads ot.reads).mono ?_; rintro e wj ⟨rfl, bj⟩; have kXj := (bj.block _ (heap_lt kXi)).trans kXi; have kAj := (bj.block _ (heap_lt kAi)).trans kAi; have S2 := And.intro (at_cell kXj 0) (And.intro (at_cell kXj 1) (And.intro (at_cell kAj 0) (at_cell kAj 1))))))
  have b : Below wg.heap.size wg wj := bw_call (bw_call (bw_drew (Below.refl _ _)) bi) bj
  clear S0 S1 S2 RA OX OXi kXi kAi kXj kAj ot bi bj
  replace d := bw_call d b
  replace kA := (b.block _ sA).trans kA
  replace sA := Nat.lt_of_lt_of_le sA b.size
  replace kO := (b.block _ sO).trans kO
  replace sO := Nat.lt_of_lt_of_le sO b.size
  replace r0 := r0.below (b.mono y0)
  replace y0 := Nat.le_trans y0 b.size
  replace ox := ox.below b
  replace kX := (b.block _ sX).trans kX
  replace sX := Nat.lt_of_lt_of_le sX b.size
  clear b
  go_wp2_with fail
  go_ret
  exact ⟨rfl, d⟩

set_option maxRecDepth 100000 in
theorem lifted (os : Os) (started : os.Started) (H : Type) (enc : TypeId × Value → H) :
    ReturnsInHanded {} Try.checked os 7 .any (Rows.fnExactServesSpec.pre6 enc Try.prog Try.f7 Rows.fnExactServesRow.domain false) (Rows.fnExactServesSpec.post enc Try.prog Try.f7 false true false false) := by
  refine returnsInHanded_of_change (C := Try.checked) own started (by kernel_rfl) Try.func7
    (ChangeSpec.witness6 (enc := enc) (C := Try.checked) false ⟨#[], #[.agg #[.int .i64 0, .slice none 0 0], .agg #[.int .i64 0, .string ByteArray.empty, .string ByteArray.empty, .int .i64 0, .int .i64 0, .int .i64 0]], []⟩ 8 (by kernel_rfl) (by kernel_rfl) (by kernel_rfl) (by kernel_rfl)) ?_
  intro W base args ds gs before hval0 hW hcnd _
  have hval : ∀ (j : Nat) t v, Try.f7.params[j]? = some t → args[j]? = some v → Value.okWide Try.prog W .any base t v := hval0
  have hW' := hW
  obtain ⟨p, q, hA0, hV, rfl, hfz, hnd⟩ := hW
  have hA : DataW.TrodAll enc Try.prog W 0 (fun _ => true) true Try.f7.params.toList args.toList ds p := hA0
  rw [Try.params7] at hA hval
  obtain ⟨v0, vs0, d0, ds0, p0, q0, hargs, rfl, rfl, h0, rr0⟩ := trodAll_cons hA
  obtain ⟨v1, vs1, d1, ds1, p1, q1, rfl, rfl, rfl, h1, rr1⟩ := trodAll_cons rr0
  obtain ⟨rfl, rfl, rfl⟩ := trodAll_nil rr1
  obtain rfl : args = #[v0, v1] := by cases args; simp_all
  obtain ⟨rfl, rfl⟩ := trodVars_none hV
  have kk0 := h0
  have lt0 : ∀ x ∈ p0, x.block < W.heap.size := by obtain ⟨fuel, hfuel⟩ := kk0; exact DataW.trod_lt fuel _ _ _ hfuel
  obtain ⟨n0, v0b, ms0, rfl, w0, x0⟩ := open_view (hval 0 54 v0 rfl rfl) h0
  have kk1 := h1
  have lt1 : ∀ x ∈ p1, x.block < W.heap.size := by obtain ⟨fuel, hfuel⟩ := kk1; exact DataW.trod_lt fuel _ _ _ hfuel
  obtain ⟨ok1, on1, oo1, oa1, ov1, oe1, rfl, u1, x1, fk1, fa1, fv1, fe1⟩ := open_op (hval 1 55 v1 rfl rfl) h1
  clear hA0 hval0
  refine (walk n0 v0b ms0 ok1 on1 oo1 oa1 ov1 oe1 W w0 x0 u1 x1 fk1 fa1 fv1 fe1).mono fun e W' ⟨he, bel⟩ => ?_
  subst he
  exact ⟨_, rfl, _, _, _, [], _, [], hW', trodAll_mk1 (shut_bool Try.underlying4 _), (trodAll_cons_mk (Below.trod laidOut (by kernel_rfl) (of_decide_eq_true (by kernel_rfl)) kk0 bel lt0) (trodAll_cons_mk (Below.trod laidOut (by kernel_rfl) (of_decide_eq_true (by kernel_rfl)) kk1 bel lt1) trodAll_mk0)), rfl, bel.frame _, fun h => by cases h⟩

theorem over : Rows.fnExactServesRow.holds Try.pinned (OpenSpec.ofChange Rows.fnExactServesSpec) :=
  OpenClaim.holds_of_wide 7 Try.f7 rfl rfl rfl rfl rfl rfl rfl ⟨rfl, rfl, rfl, rfl, rfl⟩ rfl rfl rfl rfl rfl (by kernel_rfl) Try.func7 (by kernel_rfl)
    (of_decide_eq_true (by kernel_rfl)) (by unfold Func.isWrapper; first | (rw [if_pos (by decide +kernel)]; kernel_rfl) | (rw [if_neg (by decide +kernel)]; exact ⟨rfl, rfl⟩))
    (fun os started H enc _ => lifted os started H enc)

theorem proved : Rows.FnExactServesSaid :=
  over
#print axioms proved
end Go.Proofs.Ytghhphhnalfjaaa.fnExactServes
