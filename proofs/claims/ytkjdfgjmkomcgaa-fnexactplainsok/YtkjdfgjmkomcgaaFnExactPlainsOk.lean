/-
  The law FnExactPlainsOk answers true at every input that the row speaks of, and its arguments read afterwards as before; the walk goes over the callees' contracts.
-/
import Derived.Test.YtkjdfgjmkomcgaaRows
import Derived.WalkKit
import Derived.ProofKit
import Derived.OpenShut
import Derived.ChangeOld
import Derived.Below
import Derived.Carry
import Derived.Test.YtkjdfgjmkomcgaaM01
import Derived.Test.YtkjdfgjmkomcgaaM02
import Derived.Test.YtkjdfgjmkomcgaaM03
import Derived.Test.YtkjdfgjmkomcgaaM04
namespace Go.Proofs.Ytkjdfgjmkomcgaa.fnExactPlainsOk
open Go.ChangeShapes Go.WideShapes Go.ChangeAt Go.RowKit
set_option linter.unusedVariables false

theorem own : ownKnob Try.prog.godebug = none := by kernel_rfl
theorem laidOut : laidOutB Try.prog = true := by kernel_rfl

set_option maxHeartbeats 4000000 in
theorem walk (v0 : Value) (bs0 : List Pk) (w : World) (w0 : ReadsK w.heap.size w v0 bs0) (z0 : ∀ b ∈ bs0, b.nm.size ≤ maxLen) :
    Calls Try.prog 4 #[v0] w fun e w' => e = .returned (.bool true) ∧ Below w.heap.size w w' := by
  have r0 := w0
  have y0 : w.heap.size ≤ w.heap.size := Nat.le_refl _
  have d : Below w.heap.size w w := Below.refl _ _
  obtain ⟨o0, c0, rfl⟩ := w0.row.form
  have HN0 : Hid (∀ b ∈ bs0, b.nm.size ≤ maxLen) := fun b hb => z0 b hb
  clear w0 z0
  go_enter Try.func4, Try.ntmps4
  go_wp2_with fail
  refine (szPlains_any _ bs0 1048576 _ (by omega) (by omega) HN0.out (r0.mono y0)).mono ?_
  rintro e wb ⟨q0, rfl, hq, b⟩
  replace d := bw_call d b
  replace r0 := r0.below (b.mono y0)
  replace y0 := Nat.le_trans y0 b.size
  clear b
  rcases hq with rfl | ⟨hq00, hq10, hl0, hall⟩
  · go_wp2_with fail
    go_ret
    exact ⟨rfl, d⟩
  have HR0 : Hid (∀ b ∈ bs0, b.rs.length ≤ 1048576) := fun b hb => (hall b hb).2
  clear hall
  obtain ⟨nv, hnv⟩ : ∃ x, plainsOk (bs0.map Pk.pv) = x := ⟨_, rfl⟩
  have HFD : Hid (plainsOk (bs0.map Pk.pv) = nv) := hnv
  clear hnv
  go_wp2_with fail
  refine (toPlains_any _ bs0 _ hl0 HR0.out (r0.mono y0)).mono ?_
  rintro e wc ⟨ms, rfl, hp, ot, b⟩
  replace d := bw_call d b
  replace r0 := r0.below (b.mono y0)
  replace y0 := Nat.le_trans y0 b.size
  clear b
  have HP : Hid _ := hp
  clear hp
  go_wp2_with fail
  refine (specPlainsOk_any _ ms _ (bare_all (fun nm _ => nm.size ≤ maxLen) HP.out HN0.out) ot.reads).mono ?_
  rw [pv_of_bare HP.out, HFD.out]
  rintro e wd ⟨rfl, b⟩
  replace d := bw_call d b
  replace r0 := r0.below (b.mono y0)
  replace y0 := Nat.le_trans y0 b.size
  clear b
  clear ot HP
  go_wp2_with fail
  refine (toPlains_any _ bs0 _ hl0 HR0.out (r0.mono y0)).mono ?_
  rintro e wf ⟨xs, rfl, hp, ox, b⟩
  replace d := bw_call d b
  replace r0 := r0.below (b.mono y0)
  replace y0 := Nat.le_trans y0 b.size
  clear b
  have HPX : Hid _ := hp
  clear hp
  go_wp2_with fail
  refine (implPlainsOk_any _ xs _ (bare_all (fun nm _ => nm.size ≤ maxLen) HPX.out HN0.out) ox.reads).mono ?_
  rw [pv_of_bare HPX.out, HFD.out]
  rintro e wg ⟨rfl, b⟩
  replace d := bw_call d b
  replace r0 := r0.below (b.mono y0)
  replace y0 := Nat.le_trans y0 b.size
  replace ox := ox.below b
  clear b
  have hself : (nv != nv) = false := by simp
  go_wp2_with fail
  refine (toPlains_any _ bs0 _ hl0 HR0.out (r0.mono y0)).mono ?_
  rintro e wh ⟨ys, rfl, hp, oy, b⟩
  replace d := bw_call d b
  replace r0 := r0.below (b.mono y0)
  replace y0 := Nat.le_trans y0 b.size
  replace ox := ox.below b
  clear b
  have HPY : Hid _ := hp
  clear hp
  go_wp2_with fail
  refine (eqPlains_same _ _ xs ys _ (HPY.out.trans HPX.out.symm) ox.reads oy.reads).mono ?_
  rintro e wi ⟨rfl, b⟩
  replace d := bw_call d b
  replace r0 := r0.below (b.mono y0)
  replace y0 := Nat.le_trans y0 b.size
  replace ox := ox.below b
  clear b
  go_wp2_with fail
  go_ret
  exact ⟨rfl, d⟩

set_option maxRecDepth 100000 in
theorem lifted (os : Os) (started : os.Started) (H : Type) (enc : TypeId × Value → H) :
    ReturnsInHanded {} Try.checked os 4 .any (Rows.fnExactPlainsOkSpec.pre6 enc Try.prog Try.f4 Rows.fnExactPlainsOkRow.domain false) (Rows.fnExactPlainsOkSpec.post enc Try.prog Try.f4 false true false false) := by
  refine returnsInHanded_of_change (C := Try.checked) own started (by kernel_rfl) Try.func4
    (ChangeSpec.witness6 (enc := enc) (C := Try.checked) false ⟨#[], #[.slice none 0 0], []⟩ 8 (by kernel_rfl) (by kernel_rfl) (by kernel_rfl) (by kernel_rfl)) ?_
  intro W base args ds gs before hval0 hW hcnd _
  have hval : ∀ (j : Nat) t v, Try.f4.params[j]? = some t → args[j]? = some v → Value.okWide Try.prog W .any base t v := hval0
  have hW' := hW
  obtain ⟨p, q, hA0, hV, rfl, hfz, hnd⟩ := hW
  have hA : DataW.TrodAll enc Try.prog W 0 (fun _ => true) true Try.f4.params.toList args.toList ds p := hA0
  rw [Try.params4] at hA hval
  obtain ⟨v0, vs0, d0, ds0, p0, q0, hargs, rfl, rfl, h0, rr0⟩ := trodAll_cons hA
  obtain ⟨rfl, rfl, rfl⟩ := trodAll_nil rr0
  obtain rfl : args = #[v0] := by cases args; simp_all
  obtain ⟨rfl, rfl⟩ := trodVars_none hV
  have kk0 := h0
  have lt0 : ∀ x ∈ p0, x.block < W.heap.size := by obtain ⟨fuel, hfuel⟩ := kk0; exact DataW.trod_lt fuel _ _ _ hfuel
  obtain ⟨bs0, w0, z0⟩ := open_plains (hval 0 48 v0 rfl rfl) h0
  clear hA0 hval0
  refine (walk v0 bs0 W w0 z0).mono fun e W' ⟨he, bel⟩ => ?_
  subst he
  exact ⟨_, rfl, _, _, _, [], _, [], hW', trodAll_mk1 (shut_bool Try.underlying4 _), (trodAll_cons_mk (Below.trod laidOut (by kernel_rfl) (of_decide_eq_true (by kernel_rfl)) kk0 bel lt0) trodAll_mk0), rfl, bel.frame _, fun h => by cases h⟩

theorem over : Rows.fnExactPlainsOkRow.holds Try.pinned (OpenSpec.ofChange Rows.fnExactPlainsOkSpec) :=
  OpenClaim.holds_of_wide 4 Try.f4 rfl rfl rfl rfl rfl rfl rfl ⟨rfl, rfl, rfl, rfl, rfl⟩ rfl rfl rfl rfl rfl (by kernel_rfl) Try.func4 (by kernel_rfl)
    (of_decide_eq_true (by kernel_rfl)) (by unfold Func.isWrapper; first | (rw [if_pos (by decide +kernel)]; kernel_rfl) | (rw [if_neg (by decide +kernel)]; exact ⟨rfl, rfl⟩))
    (fun os started H enc _ => lifted os started H enc)

theorem proved : Rows.FnExactPlainsOkSaid :=
  over
#print axioms proved
end Go.Proofs.Ytkjdfgjmkomcgaa.fnExactPlainsOk
