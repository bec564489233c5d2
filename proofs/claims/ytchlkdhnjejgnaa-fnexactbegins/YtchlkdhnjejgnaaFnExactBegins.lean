/-
  The law FnExactBegins answers true at every input that the row speaks of, and its arguments read afterwards as before; the walk goes over the callees' contracts.
-/
import Derived.Test.YtchlkdhnjejgnaaRows
import Derived.WalkKit
import Derived.ProofKit
import Derived.OpenShut
import Derived.ChangeOld
import Derived.Below
import Derived.Carry
import Derived.Test.YtchlkdhnjejgnaaArgs
import Derived.Test.YtchlkdhnjejgnaaEntRow
import Derived.Test.YtchlkdhnjejgnaaEnt2
import Derived.Test.YtchlkdhnjejgnaaImEnt2
namespace Go.Proofs.Ytchlkdhnjejgnaa.fnExactBegins
open Go.ChangeShapes Go.WideShapes Go.ChangeAt Go.RowKit
set_option linter.unusedVariables false

theorem own : ownKnob Try.prog.godebug = none := by kernel_rfl
theorem laidOut : laidOutB Try.prog = true := by kernel_rfl

set_option maxHeartbeats 4000000 in
theorem walk (v0 : Value) (xs0 : List Ent) (v1 : Value) (xs1 : List Ent) (w : World) (w0 : ReadsR 9 entC w.heap.size w v0 xs0) (z0 : FitLog xs0) (w1 : ReadsR 9 entC w.heap.size w v1 xs1) (z1 : FitLog xs1) :
    Calls Try.prog 7 #[v0, v1] w fun e w' => e = .returned (.bool true) ∧ Below w.heap.size w w' := by
  have r0 := w0
  obtain ⟨o0, c0, rfl⟩ := w0.form
  clear w0
  have y0 : w.heap.size ≤ w.heap.size := Nat.le_refl _
  have r1 := w1
  obtain ⟨o1, c1, rfl⟩ := w1.form
  clear w1
  have y1 : w.heap.size ≤ w.heap.size := Nat.le_refl _
  have d : Below w.heap.size w w := Below.refl _ _
  go_enter Try.func7, Try.ntmps7
  go_wp2_with fail
  refine (szEntries_any _ xs0 1048576 _ (by omega) (by omega) z0 (r0.mono y0)).mono ?_
  rintro e wb0 ⟨q0, rfl, hq, b⟩
  replace d := bw_call d b
  replace r0 := r0.below (b.mono y0)
  replace y0 := Nat.le_trans y0 b.size
  replace r1 := r1.below (b.mono y1)
  replace y1 := Nat.le_trans y1 b.size
  clear b
  rcases hq with rfl | ⟨hq00, hq10, hb0⟩
  · go_wp2_with fail
    go_ret
    exact ⟨rfl, d⟩
  go_wp2_with fail
  refine (szEntries_any _ xs1 q0 _ (by omega) (by omega) z1 (r1.mono y1)).mono ?_
  rintro e wb1 ⟨q1, rfl, hq, b⟩
  replace d := bw_call d b
  replace r0 := r0.below (b.mono y0)
  replace y0 := Nat.le_trans y0 b.size
  replace r1 := r1.below (b.mono y1)
  replace y1 := Nat.le_trans y1 b.size
  clear b
  rcases hq with rfl | ⟨hq01, hq11, hb1⟩
  · go_wp2_with fail
    go_ret
    exact ⟨rfl, d⟩
  obtain ⟨nv, hnv⟩ : ∃ x, begins xs0 xs1 = x := ⟨_, rfl⟩
  have HFD : Hid (begins xs0 xs1 = nv) := hnv
  clear hnv
  go_wp2_with fail
  refine (toEntries_any _ xs0 _ hb0 (r0.mono y0)).mono ?_
  rintro e wc0 ⟨rfl, ot0, b⟩
  replace d := bw_call d b
  replace r0 := r0.below (b.mono y0)
  replace y0 := Nat.le_trans y0 b.size
  replace r1 := r1.below (b.mono y1)
  replace y1 := Nat.le_trans y1 b.size
  clear b
  go_wp2_with fail
  refine (toEntries_any _ xs1 _ hb1 (r1.mono y1)).mono ?_
  rintro e wc1 ⟨rfl, ot1, b⟩
  replace d := bw_call d b
  replace r0 := r0.below (b.mono y0)
  replace y0 := Nat.le_trans y0 b.size
  replace r1 := r1.below (b.mono y1)
  replace y1 := Nat.le_trans y1 b.size
  replace ot0 := owns_below ot0 b
  clear b
  go_wp2_with fail
  refine (specBegins_any _ _ xs0 xs1 _ z0 z1 (ReadsR.of_own entC_len ot0) (ReadsR.of_own entC_len ot1)).mono ?_
  rw [HFD.out]
  rintro e wd ⟨rfl, b⟩
  replace d := bw_call d b
  replace r0 := r0.below (b.mono y0)
  replace y0 := Nat.le_trans y0 b.size
  replace r1 := r1.below (b.mono y1)
  replace y1 := Nat.le_trans y1 b.size
  replace ot0 := owns_below ot0 b
  replace ot1 := owns_below ot1 b
  clear b
  clear ot0 ot1
  go_wp2_with fail
  refine (toEntries_any _ xs0 _ hb0 (r0.mono y0)).mono ?_
  rintro e wf0 ⟨rfl, ox0, b⟩
  replace d := bw_call d b
  replace r0 := r0.below (b.mono y0)
  replace y0 := Nat.le_trans y0 b.size
  replace r1 := r1.below (b.mono y1)
  replace y1 := Nat.le_trans y1 b.size
  clear b
  go_wp2_with fail
  refine (toEntries_any _ xs1 _ hb1 (r1.mono y1)).mono ?_
  rintro e wf1 ⟨rfl, ox1, b⟩
  replace d := bw_call d b
  replace r0 := r0.below (b.mono y0)
  replace y0 := Nat.le_trans y0 b.size
  replace r1 := r1.below (b.mono y1)
  replace y1 := Nat.le_trans y1 b.size
  replace ox0 := owns_below ox0 b
  clear b
  go_wp2_with fail
  refine (implBegins_any _ _ xs0 xs1 _ z0 z1 (ReadsR.of_own entC_len ox0) (ReadsR.of_own entC_len ox1)).mono ?_
  rw [HFD.out]
  rintro e wg ⟨rfl, b⟩
  replace d := bw_call d b
  replace r0 := r0.below (b.mono y0)
  replace y0 := Nat.le_trans y0 b.size
  replace r1 := r1.below (b.mono y1)
  replace y1 := Nat.le_trans y1 b.size
  replace ox0 := owns_below ox0 b
  replace ox1 := owns_below ox1 b
  clear b
  have hself : (nv != nv) = false := by simp
  go_wp2_with fail
  refine (toEntries_any _ xs0 _ hb0 (r0.mono y0)).mono ?_
  rintro e wy0 ⟨rfl, oy0, b⟩
  replace d := bw_call d b
  replace r0 := r0.below (b.mono y0)
  replace y0 := Nat.le_trans y0 b.size
  replace r1 := r1.below (b.mono y1)
  replace y1 := Nat.le_trans y1 b.size
  replace ox0 := owns_below ox0 b
  replace ox1 := owns_below ox1 b
  clear b
  go_wp2_with fail
  refine (eqEntries_same _ _ xs0 _ (ReadsR.of_own entC_len ox0) (ReadsR.of_own entC_len oy0)).mono ?_
  rintro e wi0 ⟨rfl, b⟩
  replace d := bw_call d b
  replace r0 := r0.below (b.mono y0)
  replace y0 := Nat.le_trans y0 b.size
  replace r1 := r1.below (b.mono y1)
  replace y1 := Nat.le_trans y1 b.size
  replace ox0 := owns_below ox0 b
  replace ox1 := owns_below ox1 b
  replace oy0 := owns_below oy0 b
  clear b
  clear oy0
  go_wp2_with fail
  refine (toEntries_any _ xs1 _ hb1 (r1.mono y1)).mono ?_
  rintro e wy1 ⟨rfl, oy1, b⟩
  replace d := bw_call d b
  replace r0 := r0.below (b.mono y0)
  replace y0 := Nat.le_trans y0 b.size
  replace r1 := r1.below (b.mono y1)
  replace y1 := Nat.le_trans y1 b.size
  replace ox0 := owns_below ox0 b
  replace ox1 := owns_below ox1 b
  clear b
  go_wp2_with fail
  refine (eqEntries_same _ _ xs1 _ (ReadsR.of_own entC_len ox1) (ReadsR.of_own entC_len oy1)).mono ?_
  rintro e wi1 ⟨rfl, b⟩
  replace d := bw_call d b
  replace r0 := r0.below (b.mono y0)
  replace y0 := Nat.le_trans y0 b.size
  replace r1 := r1.below (b.mono y1)
  replace y1 := Nat.le_trans y1 b.size
  replace ox0 := owns_below ox0 b
  replace ox1 := owns_below ox1 b
  replace oy1 := owns_below oy1 b
  clear b
  clear oy1
  go_wp2_with fail
  go_ret
  exact ⟨rfl, d⟩

set_option maxRecDepth 100000 in
theorem lifted (os : Os) (started : os.Started) (H : Type) (enc : TypeId × Value → H) :
    ReturnsInHanded {} Try.checked os 7 .any (Rows.fnExactBeginsSpec.pre6 enc Try.prog Try.f7 Rows.fnExactBeginsRow.domain false) (Rows.fnExactBeginsSpec.post enc Try.prog Try.f7 false true false false) := by
  refine returnsInHanded_of_change (C := Try.checked) own started (by kernel_rfl) Try.func7
    (ChangeSpec.witness6 (enc := enc) (C := Try.checked) false ⟨#[], #[.slice none 0 0, .slice none 0 0], []⟩ 8 (by kernel_rfl) (by kernel_rfl) (by kernel_rfl) (by kernel_rfl)) ?_
  intro W base args ds gs before hval0 hW hcnd _
  have hval : ∀ (j : Nat) t v, Try.f7.params[j]? = some t → args[j]? = some v → Value.okWide Try.prog W .any base t v := hval0
  have hW' := hW
  obtain ⟨p, q, hA0, hV, rfl, hfz, hnd⟩ := hW
  have hA : DataW.TrodAll enc Try.prog W 0 (fun _ => true) true Try.f7.params.toList args.toList ds p := hA0
  rw [Try.params7] at hA hval
  obtain ⟨v0, vs0, d0, ds0, p0, q0, hargs, rfl, rfl, h0, rr0⟩ := trodAll_cons hA
  obtain ⟨v1, vs1, d1, ds1, p1, q1, rfl, rfl, rfl, h1, rr1⟩ := trodAll_cons rr0
  obtain ⟨rfl, rfl, rfl⟩ := trodAll_nil rr1
  obtain rfl : args = #[v0, v1] := by cases args; simp_all
  obtain ⟨rfl, rfl⟩ := trodVars_none hV
  have kk0 := h0
  have lt0 : ∀ x ∈ p0, x.block < W.heap.size := by obtain ⟨fuel, hfuel⟩ := kk0; exact DataW.trod_lt fuel _ _ _ hfuel
  obtain ⟨xs0, w0, z0⟩ := open_entries (hval 0 66 v0 rfl rfl) h0
  have kk1 := h1
  have lt1 : ∀ x ∈ p1, x.block < W.heap.size := by obtain ⟨fuel, hfuel⟩ := kk1; exact DataW.trod_lt fuel _ _ _ hfuel
  obtain ⟨xs1, w1, z1⟩ := open_entries (hval 1 66 v1 rfl rfl) h1
  clear hA0 hval0
  refine (walk v0 xs0 v1 xs1 W w0 z0 w1 z1).mono fun e W' ⟨he, bel⟩ => ?_
  subst he
  exact ⟨_, rfl, _, _, _, [], _, [], hW', trodAll_mk1 (shut_bool Try.underlying4 _), (trodAll_cons_mk (Below.trod laidOut (by kernel_rfl) (of_decide_eq_true (by kernel_rfl)) kk0 bel lt0) (trodAll_cons_mk (Below.trod laidOut (by kernel_rfl) (of_decide_eq_true (by kernel_rfl)) kk1 bel lt1) trodAll_mk0)), rfl, bel.frame _, fun h => by cases h⟩

theorem over : Rows.fnExactBeginsRow.holds Try.pinned (OpenSpec.ofChange Rows.fnExactBeginsSpec) :=
  OpenClaim.holds_of_wide 7 Try.f7 rfl rfl rfl rfl rfl rfl rfl ⟨rfl, rfl, rfl, rfl, rfl⟩ rfl rfl rfl rfl rfl (by kernel_rfl) Try.func7 (by kernel_rfl)
    (of_decide_eq_true (by kernel_rfl)) (by unfold Func.isWrapper; first | (rw [if_pos (by decide +kernel)]; kernel_rfl) | (rw [if_neg (by decide +kernel)]; exact ⟨rfl, rfl⟩))
    (fun os started H enc _ => lifted os started H enc)

theorem proved : Rows.FnExactBeginsSaid :=
  over
#print axioms proved
end Go.Proofs.Ytchlkdhnjejgnaa.fnExactBegins
