/-
  The law FnExactPosted answers true at every input that the row speaks of, and its arguments read afterwards as before; the walk goes over the callees' contracts.
-/
import Derived.Test.YtghhphhnalfjaaaRows
import Derived.WalkKit
import Derived.ProofKit
import Derived.OpenShut
import Derived.ChangeOld
import Derived.Below
import Derived.Carry
import Derived.Test.YtghhphhnalfjaaaM01
import Derived.Test.YtghhphhnalfjaaaM04
import Derived.Test.YtghhphhnalfjaaaM05
import Derived.Test.YtghhphhnalfjaaaM06
import Derived.Test.YtghhphhnalfjaaaM11
namespace Go.Proofs.Ytghhphhnalfjaaa.fnExactPosted
open Go.ChangeShapes Go.WideShapes Go.ChangeAt Go.RowKit
set_option linter.unusedVariables false

theorem own : ownKnob Try.prog.godebug = none := by kernel_rfl
theorem laidOut : laidOutB Try.prog = true := by kernel_rfl

set_option maxRecDepth 100000 in
set_option maxHeartbeats 8000000 in
theorem walk (v0 : Value) (l0 : List Mg) (v1 : Value) (l1 : List Mg) (w : World) (w0 : ReadsR 15 mgC w.heap.size w v0 l0) (z0 : FitPost l0) (w1 : ReadsR 15 mgC w.heap.size w v1 l1) (z1 : FitPost l1) :
    Calls Try.prog 4 #[v0, v1] w fun e w' => e = .returned (.bool true) ∧ Below w.heap.size w w' := by
  have r0 := w0
  have y0 : w.heap.size ≤ w.heap.size := Nat.le_refl _
  clear w0
  have r1 := w1
  have y1 : w.heap.size ≤ w.heap.size := Nat.le_refl _
  clear w1
  have d : Below w.heap.size w w := Below.refl _ _
  go_enter Try.func4, Try.ntmps4
  go_wp2_with fail
  refine (szMsgs_any v0 l0 1048576 _ (by omega) (by omega) z0 (r0.mono y0)).mono ?_
  rintro e wb0 ⟨q0, rfl, hq, b⟩
  replace d := bw_call d b
  replace r0 := r0.below (b.mono y0)
  replace y0 := Nat.le_trans y0 b.size
  replace r1 := r1.below (b.mono y1)
  replace y1 := Nat.le_trans y1 b.size
  clear b
  rcases hq with rfl | ⟨hq00, hq10, hb0⟩
  · go_wp2_with fail
    go_ret
    exact ⟨rfl, d⟩
  go_wp2_with fail
  refine (szMsgs_any v1 l1 q0 _ (by omega) (by omega) z1 (r1.mono y1)).mono ?_
  rintro e wb1 ⟨q1, rfl, hq, b⟩
  replace d := bw_call d b
  replace r0 := r0.below (b.mono y0)
  replace y0 := Nat.le_trans y0 b.size
  replace r1 := r1.below (b.mono y1)
  replace y1 := Nat.le_trans y1 b.size
  clear b
  rcases hq with rfl | ⟨hq01, hq11, hb1⟩
  · go_wp2_with fail
    go_ret
    exact ⟨rfl, d⟩
  go_wp2_with fail
  refine (toMsgsV_any v0 l0 _ hb0 (r0.mono y0)).mono ?_
  rintro e wc0 ⟨ot0v, rfl, ot0, b⟩
  replace d := bw_call d b
  replace r0 := r0.below (b.mono y0)
  replace y0 := Nat.le_trans y0 b.size
  replace r1 := r1.below (b.mono y1)
  replace y1 := Nat.le_trans y1 b.size
  clear b
  go_wp2_with fail
  refine (toMsgsV_any v1 l1 _ hb1 (r1.mono y1)).mono ?_
  rintro e wc1 ⟨ot1v, rfl, ot1, b⟩
  replace d := bw_call d b
  replace r0 := r0.below (b.mono y0)
  replace y0 := Nat.le_trans y0 b.size
  replace r1 := r1.below (b.mono y1)
  replace y1 := Nat.le_trans y1 b.size
  replace ot0 := ot0.below b
  clear b
  have hlen := posted_len l0 l1
  obtain ⟨⟨nms, nv⟩, hfd⟩ : ∃ fd, posted l0 l1 = fd := ⟨_, rfl⟩
  have HFD : Hid (posted l0 l1 = (nms, nv)) := hfd
  go_wp2_with fail
  refine (specPosted_any ot0v ot1v l0 l1 _ z0 z1 ot0.r ot1.r).mono ?_
  rw [hfd] at hlen ⊢
  clear hfd
  simp only at hlen ⊢
  rintro e wd ⟨s2, rfl, os0, b⟩
  clear ot0 ot1
  replace d := bw_call d b
  replace r0 := r0.below (b.mono y0)
  replace y0 := Nat.le_trans y0 b.size
  replace r1 := r1.below (b.mono y1)
  replace y1 := Nat.le_trans y1 b.size
  clear b
  have os : OwnMs _ wd s2 nms := ⟨os0⟩
  have sr := os.r
  have ys : wd.heap.size ≤ wd.heap.size := Nat.le_refl _
  have cD := d.size
  obtain ⟨zas, zcs, rfl⟩ := os.forms
  clear os os0
  go_wp2_with fail
  refine (toMsgsV_any v0 l0 _ hb0 (r0.mono y0)).mono ?_
  rintro e wf0 ⟨ox0v, rfl, ox0, b⟩
  have cX0 := b.size
  replace d := bw_call d b
  replace r0 := r0.below (b.mono y0)
  replace y0 := Nat.le_trans y0 b.size
  replace r1 := r1.below (b.mono y1)
  replace y1 := Nat.le_trans y1 b.size
  replace sr := sr.below (b.mono ys)
  replace ys := Nat.le_trans ys b.size
  clear b
  have TX0 : Hid _ := ox0.span
  obtain ⟨zax0, zcx0, rfl⟩ := ox0.forms
  go_wp2_with fail
  refine (toMsgsV_any v1 l1 _ hb1 (r1.mono y1)).mono ?_
  rintro e wf1 ⟨ox1v, rfl, ox1, b⟩
  have cX1 := b.size
  replace d := bw_call d b
  replace r0 := r0.below (b.mono y0)
  replace y0 := Nat.le_trans y0 b.size
  replace r1 := r1.below (b.mono y1)
  replace y1 := Nat.le_trans y1 b.size
  replace sr := sr.below (b.mono ys)
  replace ys := Nat.le_trans ys b.size
  replace ox0 := ox0.below b
  clear b
  have TX1 : Hid _ := ox1.span
  obtain ⟨zax1, zcx1, rfl⟩ := ox1.forms
  go_wp2_with fail
  refine (implPosted_any (.slice zax0 l0.length zcx0) (.slice zax1 l1.length zcx1) l0 l1 _ z0 z1 hb0 hb1 ox0.r ox1.r).mono ?_
  rw [HFD.out]
  simp only
  rintro e wg ⟨g2, rfl, og0, b⟩
  have cG := b.size
  replace d := bw_call d b
  replace r0 := r0.below (b.mono y0)
  replace y0 := Nat.le_trans y0 b.size
  replace r1 := r1.below (b.mono y1)
  replace y1 := Nat.le_trans y1 b.size
  replace sr := sr.below (b.mono ys)
  replace ys := Nat.le_trans ys b.size
  replace ox0 := ox0.below b
  replace ox1 := ox1.below b
  clear b
  have og : OwnMs _ wg g2 nms := ⟨og0⟩
  clear og0
  have TG : Hid _ := og.span
  obtain ⟨zag, zcg, rfl⟩ := og.forms
  have hself : (nv != nv) = false := by simp
  go_wp2_with fail
  refine (eqMsgs_same (.slice zag nms.length zcg) (.slice zas nms.length zcs) nms _ og.r (sr.mono ys)).mono ?_
  rintro e we0 ⟨rfl, b⟩
  replace d := bw_call d b
  replace r0 := r0.below (b.mono y0)
  replace y0 := Nat.le_trans y0 b.size
  replace r1 := r1.below (b.mono y1)
  replace y1 := Nat.le_trans y1 b.size
  replace sr := sr.below (b.mono ys)
  replace ys := Nat.le_trans ys b.size
  replace ox0 := ox0.below b
  replace ox1 := ox1.below b
  replace og := og.below b
  clear b
  go_wp2_with fail
  refine (toMsgsV_any v0 l0 _ hb0 (r0.mono y0)).mono ?_
  rintro e wy0 ⟨oy0v, rfl, oy0, b⟩
  replace d := bw_call d b
  replace r0 := r0.below (b.mono y0)
  replace y0 := Nat.le_trans y0 b.size
  replace r1 := r1.below (b.mono y1)
  replace y1 := Nat.le_trans y1 b.size
  replace sr := sr.below (b.mono ys)
  replace ys := Nat.le_trans ys b.size
  replace ox0 := ox0.below b
  replace ox1 := ox1.below b
  replace og := og.below b
  clear b
  go_wp2_with fail
  refine (eqMsgs_same (.slice zax0 l0.length zcx0) oy0v l0 _ ox0.r oy0.r).mono ?_
  rintro e wi0 ⟨rfl, b⟩
  replace d := bw_call d b
  replace r0 := r0.below (b.mono y0)
  replace y0 := Nat.le_trans y0 b.size
  replace r1 := r1.below (b.mono y1)
  replace y1 := Nat.le_trans y1 b.size
  replace sr := sr.below (b.mono ys)
  replace ys := Nat.le_trans ys b.size
  replace ox0 := ox0.below b
  replace ox1 := ox1.below b
  replace og := og.below b
  replace oy0 := oy0.below b
  clear b
  clear oy0
  go_wp2_with fail
  refine (toMsgsV_any v1 l1 _ hb1 (r1.mono y1)).mono ?_
  rintro e wy1 ⟨oy1v, rfl, oy1, b⟩
  replace d := bw_call d b
  replace r0 := r0.below (b.mono y0)
  replace y0 := Nat.le_trans y0 b.size
  replace r1 := r1.below (b.mono y1)
  replace y1 := Nat.le_trans y1 b.size
  replace sr := sr.below (b.mono ys)
  replace ys := Nat.le_trans ys b.size
  replace ox0 := ox0.below b
  replace ox1 := ox1.below b
  replace og := og.below b
  clear b
  go_wp2_with fail
  refine (eqMsgs_same (.slice zax1 l1.length zcx1) oy1v l1 _ ox1.r oy1.r).mono ?_
  rintro e wi1 ⟨rfl, b⟩
  replace d := bw_call d b
  replace r0 := r0.below (b.mono y0)
  replace y0 := Nat.le_trans y0 b.size
  replace r1 := r1.below (b.mono y1)
  replace y1 := Nat.le_trans y1 b.size
  replace sr := sr.below (b.mono ys)
  replace ys := Nat.le_trans ys b.size
  replace ox0 := ox0.below b
  replace ox1 := ox1.below b
  replace og := og.below b
  replace oy1 := oy1.below b
  clear b
  clear oy1
  have cs := d.size
  go_wp2_with fail
  refine (markMsgsV_any (.slice zax0 l0.length zcx0) l0 wd.heap.size wf0.heap.size 1 _ (by omega) hb0 (by omega) ox0 TX0.out).mono ?_
  rintro e wk0 ⟨rfl, _, b⟩
  clear ox0
  clear cs
  have cs := d.size
  replace d := d.trans (b.toBelow (by omega) (by omega))
  replace r0 := r0.below (b.toBelow y0 (by omega))
  replace y0 := Nat.le_trans y0 b.size
  replace r1 := r1.below (b.toBelow y1 (by omega))
  replace y1 := Nat.le_trans y1 b.size
  replace sr := sr.below (b.toBelow ys (by omega))
  replace ys := Nat.le_trans ys b.size
  replace ox1 := ox1.rng b (by omega)
  replace og := og.rng b (by omega)
  clear b
  clear cs
  have cs := d.size
  go_wp2_with fail
  refine (markMsgsV_any (.slice zax1 l1.length zcx1) l1 wf0.heap.size wf1.heap.size (1 + 15 * (l0.length : Int)) _ (by omega) hb1 (by omega) ox1 TX1.out).mono ?_
  rintro e wk1 ⟨rfl, _, b⟩
  clear ox1
  clear cs
  have cs := d.size
  replace d := d.trans (b.toBelow (by omega) (by omega))
  replace r0 := r0.below (b.toBelow y0 (by omega))
  replace y0 := Nat.le_trans y0 b.size
  replace r1 := r1.below (b.toBelow y1 (by omega))
  replace y1 := Nat.le_trans y1 b.size
  replace sr := sr.below (b.toBelow ys (by omega))
  replace ys := Nat.le_trans ys b.size
  replace og := og.rng b (by omega)
  clear b
  clear cs
  have hkp : ¬ ((1 + 15 * (l0.length : Int)) + 15 * (l1.length : Int)) < 0 := by omega
  go_wp2_with fail
  refine (eqMsgs_same (.slice zag nms.length zcg) (.slice zas nms.length zcs) nms _ og.r (sr.mono ys)).mono ?_
  rintro e we1 ⟨rfl, b⟩
  replace d := bw_call d b
  replace r0 := r0.below (b.mono y0)
  replace y0 := Nat.le_trans y0 b.size
  replace r1 := r1.below (b.mono y1)
  replace y1 := Nat.le_trans y1 b.size
  replace sr := sr.below (b.mono ys)
  replace ys := Nat.le_trans ys b.size
  replace og := og.below b
  clear b
  have cs := d.size
  go_wp2_with fail
  refine (markMsgsV_any (.slice zag nms.length zcg) nms wf1.heap.size wg.heap.size 1 _ (by omega) (by omega) (by omega) og TG.out).mono ?_
  rintro e wm ⟨rfl, ogm, b⟩
  clear og
  replace d := d.trans (b.toBelow (by omega) (by omega))
  replace r0 := r0.below (b.toBelow y0 (by omega))
  replace y0 := Nat.le_trans y0 b.size
  replace r1 := r1.below (b.toBelow y1 (by omega))
  replace y1 := Nat.le_trans y1 b.size
  replace sr := sr.below (b.toBelow ys (by omega))
  replace ys := Nat.le_trans ys b.size
  clear b
  clear cs
  have hmp : ¬ 1 + 15 * (nms.length : Int) < 0 := by omega
  go_wp2_with fail
  refine (heldMsgs_any (.slice zag nms.length zcg) nms.length 1 _ (by omega) (by omega) (by omega) ogm.r).mono ?_
  rintro e wn ⟨rfl, b⟩
  replace d := bw_call d b
  replace r0 := r0.below (b.mono y0)
  replace y0 := Nat.le_trans y0 b.size
  replace r1 := r1.below (b.mono y1)
  replace y1 := Nat.le_trans y1 b.size
  replace sr := sr.below (b.mono ys)
  replace ys := Nat.le_trans ys b.size
  replace ogm := ogm.below b
  clear b
  go_wp2_with fail
  refine (toMsgsV_any v0 l0 _ hb0 (r0.mono y0)).mono ?_
  rintro e wo0 ⟨op0v, rfl, op0, b⟩
  replace d := bw_call d b
  replace r0 := r0.below (b.mono y0)
  replace y0 := Nat.le_trans y0 b.size
  replace r1 := r1.below (b.mono y1)
  replace y1 := Nat.le_trans y1 b.size
  replace sr := sr.below (b.mono ys)
  replace ys := Nat.le_trans ys b.size
  replace ogm := ogm.below b
  clear b
  go_wp2_with fail
  refine (toMsgsV_any v1 l1 _ hb1 (r1.mono y1)).mono ?_
  rintro e wo1 ⟨op1v, rfl, op1, b⟩
  replace d := bw_call d b
  replace r0 := r0.below (b.mono y0)
  replace y0 := Nat.le_trans y0 b.size
  replace r1 := r1.below (b.mono y1)
  replace y1 := Nat.le_trans y1 b.size
  replace sr := sr.below (b.mono ys)
  replace ys := Nat.le_trans ys b.size
  replace ogm := ogm.below b
  replace op0 := op0.below b
  clear b
  go_wp2_with fail
  refine (implPosted_any op0v op1v l0 l1 _ z0 z1 hb0 hb1 op0.r op1.r).mono ?_
  rw [HFD.out]
  simp only
  rintro e wp ⟨h2, rfl, oh0, b⟩
  clear op0 op1
  replace d := bw_call d b
  replace r0 := r0.below (b.mono y0)
  replace y0 := Nat.le_trans y0 b.size
  replace r1 := r1.below (b.mono y1)
  replace y1 := Nat.le_trans y1 b.size
  replace sr := sr.below (b.mono ys)
  replace ys := Nat.le_trans ys b.size
  replace ogm := ogm.below b
  clear b
  have oh : OwnMs _ wp h2 nms := ⟨oh0⟩
  clear oh0
  obtain ⟨zah, zch, rfl⟩ := oh.forms
  go_wp2_with fail
  refine (eqMsgs_same (.slice zah nms.length zch) (.slice zas nms.length zcs) nms _ oh.r (sr.mono ys)).mono ?_
  rintro e we2 ⟨rfl, b⟩
  replace d := bw_call d b
  replace r0 := r0.below (b.mono y0)
  replace y0 := Nat.le_trans y0 b.size
  replace r1 := r1.below (b.mono y1)
  replace y1 := Nat.le_trans y1 b.size
  replace sr := sr.below (b.mono ys)
  replace ys := Nat.le_trans ys b.size
  replace ogm := ogm.below b
  replace oh := oh.below b
  clear b
  clear oh
  go_wp2_with fail
  refine (heldMsgs_any (.slice zag nms.length zcg) nms.length 1 _ (by omega) (by omega) (by omega) ogm.r).mono ?_
  rintro e wr ⟨rfl, b⟩
  replace d := bw_call d b
  replace r0 := r0.below (b.mono y0)
  replace y0 := Nat.le_trans y0 b.size
  replace r1 := r1.below (b.mono y1)
  replace y1 := Nat.le_trans y1 b.size
  replace sr := sr.below (b.mono ys)
  replace ys := Nat.le_trans ys b.size
  replace ogm := ogm.below b
  clear b
  go_wp2_with fail
  go_ret
  exact ⟨rfl, d⟩

set_option maxRecDepth 100000 in
theorem lifted (os : Os) (started : os.Started) (H : Type) (enc : TypeId × Value → H) :
    ReturnsInHanded {} Try.checked os 4 .any (Rows.fnExactPostedSpec.pre6 enc Try.prog Try.f4 Rows.fnExactPostedRow.domain false) (Rows.fnExactPostedSpec.post enc Try.prog Try.f4 false true false false) := by
  refine returnsInHanded_of_change (C := Try.checked) own started (by kernel_rfl) Try.func4
    (ChangeSpec.witness6 (enc := enc) (C := Try.checked) false ⟨#[], #[.slice none 0 0, .slice none 0 0], []⟩ 8 (by kernel_rfl) (by kernel_rfl) (by kernel_rfl) (by kernel_rfl)) ?_
  intro W base args ds gs before hval0 hW hcnd _
  have hval : ∀ (j : Nat) t v, Try.f4.params[j]? = some t → args[j]? = some v → Value.okWide Try.prog W .any base t v := hval0
  have hW' := hW
  obtain ⟨p, q, hA0, hV, rfl, hfz, hnd⟩ := hW
  have hA : DataW.TrodAll enc Try.prog W 0 (fun _ => true) true Try.f4.params.toList args.toList ds p := hA0
  rw [Try.params4] at hA hval
  obtain ⟨v0, vs0, d0, ds0, p0, q0, hargs, rfl, rfl, h0, rr0⟩ := trodAll_cons hA
  obtain ⟨v1, vs1, d1, ds1, p1, q1, rfl, rfl, rfl, h1, rr1⟩ := trodAll_cons rr0
  obtain ⟨rfl, rfl, rfl⟩ := trodAll_nil rr1
  obtain rfl : args = #[v0, v1] := by cases args; simp_all
  obtain ⟨rfl, rfl⟩ := trodVars_none hV
  have kk0 := h0
  have lt0 : ∀ x ∈ p0, x.block < W.heap.size := by obtain ⟨fuel, hfuel⟩ := kk0; exact DataW.trod_lt fuel _ _ _ hfuel
  obtain ⟨l0, w0, z0⟩ := open_msgs (hval 0 45 v0 rfl rfl) h0
  have kk1 := h1
  have lt1 : ∀ x ∈ p1, x.block < W.heap.size := by obtain ⟨fuel, hfuel⟩ := kk1; exact DataW.trod_lt fuel _ _ _ hfuel
  obtain ⟨l1, w1, z1⟩ := open_msgs (hval 1 45 v1 rfl rfl) h1
  clear hA0 hval0
  refine (walk v0 l0 v1 l1 W w0 z0 w1 z1).mono fun e W' ⟨he, bel⟩ => ?_
  subst he
  exact ⟨_, rfl, _, _, _, [], _, [], hW', trodAll_mk1 (shut_bool Try.underlying4 _), (trodAll_cons_mk (Below.trod laidOut (by kernel_rfl) (of_decide_eq_true (by kernel_rfl)) kk0 bel lt0) (trodAll_cons_mk (Below.trod laidOut (by kernel_rfl) (of_decide_eq_true (by kernel_rfl)) kk1 bel lt1) trodAll_mk0)), rfl, bel.frame _, fun h => by cases h⟩

theorem over : Rows.fnExactPostedRow.holds Try.pinned (OpenSpec.ofChange Rows.fnExactPostedSpec) :=
  OpenClaim.holds_of_wide 4 Try.f4 rfl rfl rfl rfl rfl rfl rfl ⟨rfl, rfl, rfl, rfl, rfl⟩ rfl rfl rfl rfl rfl (by kernel_rfl) Try.func4 (by kernel_rfl)
    (of_decide_eq_true (by kernel_rfl)) (by unfold Func.isWrapper; first | (rw [if_pos (by decide +kernel)]; kernel_rfl) | (rw [if_neg (by decide +kernel)]; exact ⟨rfl, rfl⟩))
    (fun os started H enc _ => lifted os started H enc)

theorem proved : Rows.FnExactPostedSaid :=
  over
#print axioms proved
end Go.Proofs.Ytghhphhnalfjaaa.fnExactPosted
