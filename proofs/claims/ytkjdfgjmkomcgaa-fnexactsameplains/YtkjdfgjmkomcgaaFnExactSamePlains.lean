/-
  The law FnExactSamePlains answers true at every input that the row speaks of, and its arguments read afterwards as before; the walk goes over the callees' contracts.
-/
import Derived.Test.YtkjdfgjmkomcgaaRows
import Derived.WalkKit
import Derived.ProofKit
import Derived.OpenShut
import Derived.ChangeOld
import Derived.Below
import Derived.Carry
import Derived.Test.YtkjdfgjmkomcgaaM01
import Derived.Test.YtkjdfgjmkomcgaaM02
import Derived.Test.YtkjdfgjmkomcgaaM03
namespace Go.Proofs.Ytkjdfgjmkomcgaa.fnExactSamePlains
open Go.ChangeShapes Go.WideShapes Go.ChangeAt Go.RowKit
set_option linter.unusedVariables false

theorem own : ownKnob Try.prog.godebug = none := by kernel_rfl
theorem laidOut : laidOutB Try.prog = true := by kernel_rfl

set_option maxHeartbeats 4000000 in
theorem walk (v0 : Value) (bs0 : List Pk) (v1 : Value) (bs1 : List Pk) (w : World) (w0 : ReadsK w.heap.size w v0 bs0) (z0 : ∀ b ∈ bs0, b.nm.size ≤ maxLen) (w1 : ReadsK w.heap.size w v1 bs1) (z1 : ∀ b ∈ bs1, b.nm.size ≤ maxLen) :
    Calls Try.prog 6 #[v0, v1] w fun e w' => e = .returned (.bool true) ∧ Below w.heap.size w w' := by
  have r0 := w0
  have y0 : w.heap.size ≤ w.heap.size := Nat.le_refl _
  have r1 := w1
  have y1 : w.heap.size ≤ w.heap.size := Nat.le_refl _
  have d : Below w.heap.size w w := Below.refl _ _
  obtain ⟨o0, c0, rfl⟩ := w0.row.form
  have HN0 : Hid (∀ b ∈ bs0, b.nm.size ≤ maxLen) := fun b hb => z0 b hb
  clear w0 z0
  obtain ⟨o1, c1, rfl⟩ := w1.row.form
  have HN1 : Hid (∀ b ∈ bs1, b.nm.size ≤ maxLen) := fun b hb => z1 b hb
  clear w1 z1
  go_enter Try.func6, Try.ntmps6
  go_wp2_with fail
  refine (szPlains_any _ bs0 1048576 _ (by omega) (by omega) HN0.out (r0.mono y0)).mono ?_
  rintro e wb ⟨q0, rfl, hq, b⟩
  replace d := bw_call d b
  replace r0 := r0.below (b.mono y0)
  replace y0 := Nat.le_trans y0 b.size
  replace r1 := r1.below (b.mono y1)
  replace y1 := Nat.le_trans y1 b.size
  clear b
  rcases hq with rfl | ⟨hq00, hq10, hl0, hall⟩
  · go_wp2_with fail
    go_ret
    exact ⟨rfl, d⟩
  have HR0 : Hid (∀ b ∈ bs0, b.rs.length ≤ 1048576) := fun b hb => (hall b hb).2
  clear hall
  go_wp2_with fail
  refine (szPlains_any _ bs1 q0 _ (by omega) (by omega) HN1.out (r1.mono y1)).mono ?_
  rintro e wb1 ⟨q1, rfl, hq, b⟩
  replace d := bw_call d b
  replace r0 := r0.below (b.mono y0)
  replace y0 := Nat.le_trans y0 b.size
  replace r1 := r1.below (b.mono y1)
  replace y1 := Nat.le_trans y1 b.size
  clear b
  rcases hq with rfl | ⟨hq01, hq11, hl1, hall⟩
  · go_wp2_with fail
    go_ret
    exact ⟨rfl, d⟩
  have HR1 : Hid (∀ b ∈ bs1, b.rs.length ≤ 1048576) := fun b hb => (hall b hb).2
  clear hall
  obtain ⟨nv, hnv⟩ : ∃ x, samePlains (bs0.map Pk.pv) (bs1.map Pk.pv) = x := ⟨_, rfl⟩
  have HFD : Hid (samePlains (bs0.map Pk.pv) (bs1.map Pk.pv) = nv) := hnv
  clear hnv
  go_wp2_with fail
  refine (toPlains_any _ bs0 _ hl0 HR0.out (r0.mono y0)).mono ?_
  rintro e wc ⟨ms, rfl, hp, ot, b⟩
  replace d := bw_call d b
  replace r0 := r0.below (b.mono y0)
  replace y0 := Nat.le_trans y0 b.size
  replace r1 := r1.below (b.mono y1)
  replace y1 := Nat.le_trans y1 b.size
  clear b
  have HP : Hid _ := hp
  clear hp
  go_wp2_with fail
  refine (toPlains_any _ bs1 _ hl1 HR1.out (r1.mono y1)).mono ?_
  rintro e wc1 ⟨ns, rfl, hp, ot1, b⟩
  replace d := bw_call d b
  replace r0 := r0.below (b.mono y0)
  replace y0 := Nat.le_trans y0 b.size
  replace r1 := r1.below (b.mono y1)
  replace y1 := Nat.le_trans y1 b.size
  replace ot := ot.below b
  clear b
  have HP1 : Hid _ := hp
  clear hp
  go_wp2_with fail
  refine (specSamePlains_any _ _ ms ns _ ot.reads ot1.reads).mono ?_
  rw [pv_of_bare HP.out, pv_of_bare HP1.out, HFD.out]
  rintro e wd ⟨rfl, b⟩
  replace d := bw_call d b
  replace r0 := r0.below (b.mono y0)
  replace y0 := Nat.le_trans y0 b.size
  replace r1 := r1.below (b.mono y1)
  replace y1 := Nat.le_trans y1 b.size
  replace ot := ot.below b
  clear b
  clear ot1 HP1
  go_wp2_with fail
  refine (toPlains_any _ bs0 _ hl0 HR0.out (r0.mono y0)).mono ?_
  rintro e wf ⟨xs, rfl, hp, ox, b⟩
  replace d := bw_call d b
  replace r0 := r0.below (b.mono y0)
  replace y0 := Nat.le_trans y0 b.size
  replace r1 := r1.below (b.mono y1)
  replace y1 := Nat.le_trans y1 b.size
  replace ot := ot.below b
  clear b
  have HPX : Hid _ := hp
  clear hp
  go_wp2_with fail
  refine (toPlains_any _ bs1 _ hl1 HR1.out (r1.mono y1)).mono ?_
  rintro e wf1 ⟨xs1, rfl, hp, ox1, b⟩
  replace d := bw_call d b
  replace r0 := r0.below (b.mono y0)
  replace y0 := Nat.le_trans y0 b.size
  replace r1 := r1.below (b.mono y1)
  replace y1 := Nat.le_trans y1 b.size
  replace ot := ot.below b
  replace ox := ox.below b
  clear b
  have HPX1 : Hid _ := hp
  clear hp
  go_wp2_with fail
  refine (implSamePlains_any _ _ xs xs1 _ (bare_all (fun _ rs => rs.length ≤ 1048576) HPX.out HR0.out) (bare_all (fun _ rs => rs.length ≤ 1048576) HPX1.out HR1.out) ox.reads ox1.reads).mono ?_
  rw [pv_of_bare HPX.out, pv_of_bare HPX1.out, HFD.out]
  rintro e wg ⟨rfl, b⟩
  replace d := bw_call d b
  replace r0 := r0.below (b.mono y0)
  replace y0 := Nat.le_trans y0 b.size
  replace r1 := r1.below (b.mono y1)
  replace y1 := Nat.le_trans y1 b.size
  replace ot := ot.below b
  replace ox := ox.below b
  replace ox1 := ox1.below b
  clear b
  have hself : (nv != nv) = false := by simp
  go_wp2_with fail
  refine (toPlains_any _ bs0 _ hl0 HR0.out (r0.mono y0)).mono ?_
  rintro e wh0 ⟨ys0, rfl, hp, oy0, b⟩
  replace d := bw_call d b
  replace r0 := r0.below (b.mono y0)
  replace y0 := Nat.le_trans y0 b.size
  replace r1 := r1.below (b.mono y1)
  replace y1 := Nat.le_trans y1 b.size
  replace ot := ot.below b
  replace ox := ox.below b
  replace ox1 := ox1.below b
  clear b
  have HPY0 : Hid _ := hp
  clear hp
  go_wp2_with fail
  refine (eqPlains_same _ _ xs ys0 _ (HPY0.out.trans HPX.out.symm) ox.reads oy0.reads).mono ?_
  rintro e wi0 ⟨rfl, b⟩
  replace d := bw_call d b
  replace r0 := r0.below (b.mono y0)
  replace y0 := Nat.le_trans y0 b.size
  replace r1 := r1.below (b.mono y1)
  replace y1 := Nat.le_trans y1 b.size
  replace ot := ot.below b
  replace ox := ox.below b
  replace ox1 := ox1.below b
  clear b
  go_wp2_with fail
  refine (toPlains_any _ bs1 _ hl1 HR1.out (r1.mono y1)).mono ?_
  rintro e wh1 ⟨ys1, rfl, hp, oy1, b⟩
  replace d := bw_call d b
  replace r0 := r0.below (b.mono y0)
  replace y0 := Nat.le_trans y0 b.size
  replace r1 := r1.below (b.mono y1)
  replace y1 := Nat.le_trans y1 b.size
  replace ot := ot.below b
  replace ox := ox.below b
  replace ox1 := ox1.below b
  clear b
  have HPY1 : Hid _ := hp
  clear hp
  go_wp2_with fail
  refine (eqPlains_same _ _ xs1 ys1 _ (HPY1.out.trans HPX1.out.symm) ox1.reads oy1.reads).mono ?_
  rintro e wi1 ⟨rfl, b⟩
  replace d := bw_call d b
  replace r0 := r0.below (b.mono y0)
  replace y0 := Nat.le_trans y0 b.size
  replace r1 := r1.below (b.mono y1)
  replace y1 := Nat.le_trans y1 b.size
  replace ot := ot.below b
  replace ox := ox.below b
  replace ox1 := ox1.below b
  clear b
  go_wp2_with fail
  go_ret
  exact ⟨rfl, d⟩

set_option maxRecDepth 100000 in
theorem lifted (os : Os) (started : os.Started) (H : Type) (enc : TypeId × Value → H) :
    ReturnsInHanded {} Try.checked os 6 .any (Rows.fnExactSamePlainsSpec.pre6 enc Try.prog Try.f6 Rows.fnExactSamePlainsRow.domain false) (Rows.fnExactSamePlainsSpec.post enc Try.prog Try.f6 false true false false) := by
  refine returnsInHanded_of_change (C := Try.checked) own started (by kernel_rfl) Try.func6
    (ChangeSpec.witness6 (enc := enc) (C := Try.checked) false ⟨#[], #[.slice none 0 0, .slice none 0 0], []⟩ 8 (by kernel_rfl) (by kernel_rfl) (by kernel_rfl) (by kernel_rfl)) ?_
  intro W base args ds gs before hval0 hW hcnd _
  have hval : ∀ (j : Nat) t v, Try.f6.params[j]? = some t → args[j]? = some v → Value.okWide Try.prog W .any base t v := hval0
  have hW' := hW
  obtain ⟨p, q, hA0, hV, rfl, hfz, hnd⟩ := hW
  have hA : DataW.TrodAll enc Try.prog W 0 (fun _ => true) true Try.f6.params.toList args.toList ds p := hA0
  rw [Try.params6] at hA hval
  obtain ⟨v0, vs0, d0, ds0, p0, q0, hargs, rfl, rfl, h0, rr0⟩ := trodAll_cons hA
  obtain ⟨v1, vs1, d1, ds1, p1, q1, rfl, rfl, rfl, h1, rr1⟩ := trodAll_cons rr0
  obtain ⟨rfl, rfl, rfl⟩ := trodAll_nil rr1
  obtain rfl : args = #[v0, v1] := by cases args; simp_all
  obtain ⟨rfl, rfl⟩ := trodVars_none hV
  have kk0 := h0
  have lt0 : ∀ x ∈ p0, x.block < W.heap.size := by obtain ⟨fuel, hfuel⟩ := kk0; exact DataW.trod_lt fuel _ _ _ hfuel
  obtain ⟨bs0, w0, z0⟩ := open_plains (hval 0 48 v0 rfl rfl) h0
  have kk1 := h1
  have lt1 : ∀ x ∈ p1, x.block < W.heap.size := by obtain ⟨fuel, hfuel⟩ := kk1; exact DataW.trod_lt fuel _ _ _ hfuel
  obtain ⟨bs1, w1, z1⟩ := open_plains (hval 1 48 v1 rfl rfl) h1
  clear hA0 hval0
  refine (walk v0 bs0 v1 bs1 W w0 z0 w1 z1).mono fun e W' ⟨he, bel⟩ => ?_
  subst he
  exact ⟨_, rfl, _, _, _, [], _, [], hW', trodAll_mk1 (shut_bool Try.underlying4 _), (trodAll_cons_mk (Below.trod laidOut (by kernel_rfl) (of_decide_eq_true (by kernel_rfl)) kk0 bel lt0) (trodAll_cons_mk (Below.trod laidOut (by kernel_rfl) (of_decide_eq_true (by kernel_rfl)) kk1 bel lt1) trodAll_mk0)), rfl, bel.frame _, fun h => by cases h⟩

theorem over : Rows.fnExactSamePlainsRow.holds Try.pinned (OpenSpec.ofChange Rows.fnExactSamePlainsSpec) :=
  OpenClaim.holds_of_wide 6 Try.f6 rfl rfl rfl rfl rfl rfl rfl ⟨rfl, rfl, rfl, rfl, rfl⟩ rfl rfl rfl rfl rfl (by kernel_rfl) Try.func6 (by kernel_rfl)
    (of_decide_eq_true (by kernel_rfl)) (by unfold Func.isWrapper; first | (rw [if_pos (by decide +kernel)]; kernel_rfl) | (rw [if_neg (by decide +kernel)]; exact ⟨rfl, rfl⟩))
    (fun os started H enc _ => lifted os started H enc)

theorem proved : Rows.FnExactSamePlainsSaid :=
  over
#print axioms proved
end Go.Proofs.Ytkjdfgjmkomcgaa.fnExactSamePlains
