/-
  The law FnExactMapOk answers true at every input that the row speaks of, and its arguments read afterwards as before; the walk goes over the callees' contracts.
-/
import Derived.Test.YtombgdjklajanaiRows
import Derived.WalkKit
import Derived.ProofKit
import Derived.OpenShut
import Derived.ChangeOld
import Derived.Below
import Derived.Carry
import Derived.Test.YtombgdjklajanaiArgs
import Derived.Test.YtombgdjklajanaiArgsR
import Derived.Test.YtombgdjklajanaiMap4
import Derived.Test.YtombgdjklajanaiImMap7
import Derived.Test.YtombgdjklajanaiMap5
import Derived.Test.YtombgdjklajanaiInts
namespace Go.Proofs.Ytombgdjklajanai.fnExactMapOk
open Go.ChangeShapes Go.WideShapes Go.ChangeAt Go.RowKit
set_option linter.unusedVariables false

theorem own : ownKnob Try.prog.godebug = none := by kernel_rfl
theorem laidOut : laidOutB Try.prog = true := by kernel_rfl

set_option maxHeartbeats 4000000 in
theorem walk (v0 : Value) (xs0 : List (Int × Int × Int)) (w : World) (w0 : ReadsR 3 runC w.heap.size w v0 xs0) (z0 : FitRuns xs0) :
    Calls Try.prog 7 #[v0] w fun e w' => e = .returned (.bool true) ∧ Below w.heap.size w w' := by
  have r0 := w0
  obtain ⟨o0, c0, rfl⟩ := w0.form
  obtain ⟨_, _, -, hm0, -⟩ := w0
  have d : Below w.heap.size w w := Below.refl _ _
  have y0 : w.heap.size ≤ w.heap.size := Nat.le_refl _
  go_enter Try.func7, Try.ntmps7
  go_wp2_with fail
  refine (szRuns_any o0 xs0.length c0 1048576 _ (by omega) (by omega) hm0).mono ?_
  rintro e wb ⟨rfl, rfl⟩
  by_cases hbig : (1048576 : Int) < (xs0.length : Int)
  · rw [if_pos hbig]
    go_wp2_with fail
    go_ret
    exact ⟨rfl, d⟩
  rw [if_neg hbig]
  have hb0 : xs0.length ≤ 1048576 := by omega
  have hq0 : 0 ≤ (1048576 : Int) - xs0.length := by omega
  clear hbig
  go_wp2_with fail
  refine (toRuns_any _ xs0 _ hb0 (r0.mono y0)).mono ?_
  rintro e wc ⟨rfl, ot, b⟩
  replace d := bw_call d b
  replace r0 := r0.below (b.mono y0)
  replace y0 := Nat.le_trans y0 b.size
  clear b
  go_wp2_with fail
  obtain ⟨nv, hnv⟩ : ∃ x, mapOk xs0 = x := ⟨_, rfl⟩
  have HFD : Hid (mapOk xs0 = nv) := hnv
  refine (specMapOk_any _ xs0 _ (ReadsR.of_own runC_len ot)).mono ?_
  rw [hnv]
  clear hnv
  rintro e wd ⟨rfl, b⟩
  replace d := bw_call d b
  replace r0 := r0.below (b.mono y0)
  replace y0 := Nat.le_trans y0 b.size
  clear b
  clear ot
  go_wp2_with fail
  refine (toRuns_any _ xs0 _ hb0 (r0.mono y0)).mono ?_
  rintro e wf ⟨rfl, ox, b⟩
  replace d := bw_call d b
  replace r0 := r0.below (b.mono y0)
  replace y0 := Nat.le_trans y0 b.size
  clear b
  go_wp2_with fail
  refine (implMapOk_any _ xs0 _ z0 (ReadsR.of_own runC_len ox)).mono ?_
  rw [HFD.out]
  rintro e wg ⟨rfl, b⟩
  replace d := bw_call d b
  replace r0 := r0.below (b.mono y0)
  replace y0 := Nat.le_trans y0 b.size
  replace ox := owns_below ox b
  clear b
  go_wp2_with fail
  refine (toRuns_any _ xs0 _ hb0 (r0.mono y0)).mono ?_
  rintro e wy ⟨rfl, oy, b⟩
  replace d := bw_call d b
  replace r0 := r0.below (b.mono y0)
  replace y0 := Nat.le_trans y0 b.size
  replace ox := owns_below ox b
  clear b
  go_wp2_with fail
  refine (eqRuns_any _ _ xs0 xs0 _ (ReadsR.of_own runC_len ox) (ReadsR.of_own runC_len oy)).mono ?_
  rintro e wi ⟨rfl, b⟩
  replace d := bw_call d b
  replace r0 := r0.below (b.mono y0)
  replace y0 := Nat.le_trans y0 b.size
  replace ox := owns_below ox b
  clear b
  clear oy
  simp only [decide_true]
  go_wp2_with fail
  go_ret
  exact ⟨rfl, d⟩

set_option maxRecDepth 100000 in
theorem lifted (os : Os) (started : os.Started) (H : Type) (enc : TypeId × Value → H) :
    ReturnsInHanded {} Try.checked os 7 .any (Rows.fnExactMapOkSpec.pre6 enc Try.prog Try.f7 Rows.fnExactMapOkRow.domain false) (Rows.fnExactMapOkSpec.post enc Try.prog Try.f7 false true false false) := by
  refine returnsInHanded_of_change (C := Try.checked) own started (by kernel_rfl) Try.func7
    (ChangeSpec.witness6 (enc := enc) (C := Try.checked) false ⟨#[], #[.slice none 0 0], []⟩ 8 (by kernel_rfl) (by kernel_rfl) (by kernel_rfl) (by kernel_rfl)) ?_
  intro W base args ds gs before hval0 hW hcnd _
  have hval : ∀ (j : Nat) t v, Try.f7.params[j]? = some t → args[j]? = some v → Value.okWide Try.prog W .any base t v := hval0
  have hW' := hW
  obtain ⟨p, q, hA0, hV, rfl, hfz, hnd⟩ := hW
  have hA : DataW.TrodAll enc Try.prog W 0 (fun _ => true) true Try.f7.params.toList args.toList ds p := hA0
  rw [Try.params7] at hA hval
  obtain ⟨v0, vs0, d0, ds0, p0, q0, hargs, rfl, rfl, h0, rr0⟩ := trodAll_cons hA
  obtain ⟨rfl, rfl, rfl⟩ := trodAll_nil rr0
  obtain rfl : args = #[v0] := by cases args; simp_all
  obtain ⟨rfl, rfl⟩ := trodVars_none hV
  have kk0 := h0
  have lt0 : ∀ x ∈ p0, x.block < W.heap.size := by obtain ⟨fuel, hfuel⟩ := kk0; exact DataW.trod_lt fuel _ _ _ hfuel
  obtain ⟨xs0, w0, z0⟩ := open_runs (hval 0 37 v0 rfl rfl) h0
  clear hA0 hval0
  refine (walk v0 xs0 W w0 z0).mono fun e W' ⟨he, bel⟩ => ?_
  subst he
  exact ⟨_, rfl, _, _, _, [], _, [], hW', trodAll_mk1 (shut_bool Try.underlying4 _), (trodAll_cons_mk (Below.trod laidOut (by kernel_rfl) (of_decide_eq_true (by kernel_rfl)) kk0 bel lt0) trodAll_mk0), rfl, bel.frame _, fun h => by cases h⟩

theorem over : Rows.fnExactMapOkRow.holds Try.pinned (OpenSpec.ofChange Rows.fnExactMapOkSpec) :=
  OpenClaim.holds_of_wide 7 Try.f7 rfl rfl rfl rfl rfl rfl rfl ⟨rfl, rfl, rfl, rfl, rfl⟩ rfl rfl rfl rfl rfl (by kernel_rfl) Try.func7 (by kernel_rfl)
    (of_decide_eq_true (by kernel_rfl)) (by unfold Func.isWrapper; first | (rw [if_pos (by decide +kernel)]; kernel_rfl) | (rw [if_neg (by decide +kernel)]; exact ⟨rfl, rfl⟩))
    (fun os started H enc _ => lifted os started H enc)

theorem proved : Rows.FnExactMapOkSaid :=
  over
#print axioms proved
end Go.Proofs.Ytombgdjklajanai.fnExactMapOk
