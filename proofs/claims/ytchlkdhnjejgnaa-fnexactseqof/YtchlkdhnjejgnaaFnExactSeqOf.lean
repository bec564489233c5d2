/-
  The law FnExactSeqOf answers true at every input that the row speaks of, and its arguments read afterwards as before; the walk goes over the callees' contracts.
-/
import Derived.Test.YtchlkdhnjejgnaaRows
import Derived.WalkKit
import Derived.ProofKit
import Derived.OpenShut
import Derived.ChangeOld
import Derived.Below
import Derived.Carry
import Derived.Test.YtchlkdhnjejgnaaArgs
import Derived.Test.YtchlkdhnjejgnaaEntRow
import Derived.Test.YtchlkdhnjejgnaaEnt2
import Derived.Test.YtchlkdhnjejgnaaImEnt2
namespace Go.Proofs.Ytchlkdhnjejgnaa.fnExactSeqOf
open Go.ChangeShapes Go.WideShapes Go.ChangeAt Go.RowKit
set_option linter.unusedVariables false

theorem own : ownKnob Try.prog.godebug = none := by kernel_rfl
theorem laidOut : laidOutB Try.prog = true := by kernel_rfl

set_option maxHeartbeats 4000000 in
theorem walk (v0 : Value) (xs0 : List Ent) (a1 : Int) (a2 : Int) (w : World) (w0 : ReadsR 9 entC w.heap.size w v0 xs0) (z0 : FitLog xs0) (w1 : (Lit.int .i64 a1).wf = true) (w2 : (Lit.int .i64 a2).wf = true) :
    Calls Try.prog 8 #[v0, .int .i64 a1, .int .i64 a2] w fun e w' => e = .returned (.bool true) ∧ Below w.heap.size w w' := by
  have r0 := w0
  obtain ⟨o0, c0, rfl⟩ := w0.form
  clear w0
  have y0 : w.heap.size ≤ w.heap.size := Nat.le_refl _
  clear w1 w2
  have d : Below w.heap.size w w := Below.refl _ _
  go_enter Try.func8, Try.ntmps8
  go_wp2_with fail
  refine (szEntries_any _ xs0 1048576 _ (by omega) (by omega) z0 (r0.mono y0)).mono ?_
  rintro e wb0 ⟨q0, rfl, hq, b⟩
  replace d := bw_call d b
  replace r0 := r0.below (b.mono y0)
  replace y0 := Nat.le_trans y0 b.size
  clear b
  rcases hq with rfl | ⟨hq00, hq10, hb0⟩
  · go_wp2_with fail
    go_ret
    exact ⟨rfl, d⟩
  obtain ⟨nv, hnv⟩ : ∃ x, seqOf xs0 a1 a2 = x := ⟨_, rfl⟩
  have HFD : Hid (seqOf xs0 a1 a2 = nv) := hnv
  clear hnv
  go_wp2_with fail
  refine (toEntries_any _ xs0 _ hb0 (r0.mono y0)).mono ?_
  rintro e wc0 ⟨rfl, ot0, b⟩
  replace d := bw_call d b
  replace r0 := r0.below (b.mono y0)
  replace y0 := Nat.le_trans y0 b.size
  clear b
  go_wp2_with fail
  refine (specSeqOf_any _ xs0 a1 a2 _ z0 (ReadsR.of_own entC_len ot0)).mono ?_
  rw [HFD.out]
  rintro e wd ⟨rfl, b⟩
  replace d := bw_call d b
  replace r0 := r0.below (b.mono y0)
  replace y0 := Nat.le_trans y0 b.size
  replace ot0 := owns_below ot0 b
  clear b
  clear ot0
  go_wp2_with fail
  refine (toEntries_any _ xs0 _ hb0 (r0.mono y0)).mono ?_
  rintro e wf0 ⟨rfl, ox0, b⟩
  replace d := bw_call d b
  replace r0 := r0.below (b.mono y0)
  replace y0 := Nat.le_trans y0 b.size
  clear b
  go_wp2_with fail
  refine (implSeqOf_any _ xs0 a1 a2 _ z0 (ReadsR.of_own entC_len ox0)).mono ?_
  rw [HFD.out]
  rintro e wg ⟨rfl, b⟩
  replace d := bw_call d b
  replace r0 := r0.below (b.mono y0)
  replace y0 := Nat.le_trans y0 b.size
  replace ox0 := owns_below ox0 b
  clear b
  have hself : (nv != nv) = false := by simp
  go_wp2_with fail
  refine (toEntries_any _ xs0 _ hb0 (r0.mono y0)).mono ?_
  rintro e wy0 ⟨rfl, oy0, b⟩
  replace d := bw_call d b
  replace r0 := r0.below (b.mono y0)
  replace y0 := Nat.le_trans y0 b.size
  replace ox0 := owns_below ox0 b
  clear b
  go_wp2_with fail
  refine (eqEntries_same _ _ xs0 _ (ReadsR.of_own entC_len ox0) (ReadsR.of_own entC_len oy0)).mono ?_
  rintro e wi0 ⟨rfl, b⟩
  replace d := bw_call d b
  replace r0 := r0.below (b.mono y0)
  replace y0 := Nat.le_trans y0 b.size
  replace ox0 := owns_below ox0 b
  replace oy0 := owns_below oy0 b
  clear b
  clear oy0
  go_wp2_with fail
  go_ret
  exact ⟨rfl, d⟩

set_option maxRecDepth 100000 in
theorem lifted (os : Os) (started : os.Started) (H : Type) (enc : TypeId × Value → H) :
    ReturnsInHanded {} Try.checked os 8 .any (Rows.fnExactSeqOfSpec.pre6 enc Try.prog Try.f8 Rows.fnExactSeqOfRow.domain false) (Rows.fnExactSeqOfSpec.post enc Try.prog Try.f8 false true false false) := by
  refine returnsInHanded_of_change (C := Try.checked) own started (by kernel_rfl) Try.func8
    (ChangeSpec.witness6 (enc := enc) (C := Try.checked) false ⟨#[], #[.slice none 0 0, .int .i64 0, .int .i64 0], []⟩ 8 (by kernel_rfl) (by kernel_rfl) (by kernel_rfl) (by kernel_rfl)) ?_
  intro W base args ds gs before hval0 hW hcnd _
  have hval : ∀ (j : Nat) t v, Try.f8.params[j]? = some t → args[j]? = some v → Value.okWide Try.prog W .any base t v := hval0
  have hW' := hW
  obtain ⟨p, q, hA0, hV, rfl, hfz, hnd⟩ := hW
  have hA : DataW.TrodAll enc Try.prog W 0 (fun _ => true) true Try.f8.params.toList args.toList ds p := hA0
  rw [Try.params8] at hA hval
  obtain ⟨v0, vs0, d0, ds0, p0, q0, hargs, rfl, rfl, h0, rr0⟩ := trodAll_cons hA
  obtain ⟨v1, vs1, d1, ds1, p1, q1, rfl, rfl, rfl, h1, rr1⟩ := trodAll_cons rr0
  obtain ⟨v2, vs2, d2, ds2, p2, q2, rfl, rfl, rfl, h2, rr2⟩ := trodAll_cons rr1
  obtain ⟨rfl, rfl, rfl⟩ := trodAll_nil rr2
  obtain rfl : args = #[v0, v1, v2] := by cases args; simp_all
  obtain ⟨rfl, rfl⟩ := trodVars_none hV
  have kk0 := h0
  have lt0 : ∀ x ∈ p0, x.block < W.heap.size := by obtain ⟨fuel, hfuel⟩ := kk0; exact DataW.trod_lt fuel _ _ _ hfuel
  obtain ⟨xs0, w0, z0⟩ := open_entries (hval 0 66 v0 rfl rfl) h0
  have kk1 := h1
  have lt1 : ∀ x ∈ p1, x.block < W.heap.size := by obtain ⟨fuel, hfuel⟩ := kk1; exact DataW.trod_lt fuel _ _ _ hfuel
  obtain ⟨a1, rfl, w1⟩ := open_i64 (hval 1 2 v1 rfl rfl) h1
  have kk2 := h2
  have lt2 : ∀ x ∈ p2, x.block < W.heap.size := by obtain ⟨fuel, hfuel⟩ := kk2; exact DataW.trod_lt fuel _ _ _ hfuel
  obtain ⟨a2, rfl, w2⟩ := open_i64 (hval 2 2 v2 rfl rfl) h2
  clear hA0 hval0
  refine (walk v0 xs0 a1 a2 W w0 z0 w1 w2).mono fun e W' ⟨he, bel⟩ => ?_
  subst he
  exact ⟨_, rfl, _, _, _, [], _, [], hW', trodAll_mk1 (shut_bool Try.underlying4 _), (trodAll_cons_mk (Below.trod laidOut (by kernel_rfl) (of_decide_eq_true (by kernel_rfl)) kk0 bel lt0) (trodAll_cons_mk (Below.trod laidOut (by kernel_rfl) (of_decide_eq_true (by kernel_rfl)) kk1 bel lt1) (trodAll_cons_mk (Below.trod laidOut (by kernel_rfl) (of_decide_eq_true (by kernel_rfl)) kk2 bel lt2) trodAll_mk0))), rfl, bel.frame _, fun h => by cases h⟩

theorem over : Rows.fnExactSeqOfRow.holds Try.pinned (OpenSpec.ofChange Rows.fnExactSeqOfSpec) :=
  OpenClaim.holds_of_wide 8 Try.f8 rfl rfl rfl rfl rfl rfl rfl ⟨rfl, rfl, rfl, rfl, rfl⟩ rfl rfl rfl rfl rfl (by kernel_rfl) Try.func8 (by kernel_rfl)
    (of_decide_eq_true (by kernel_rfl)) (by unfold Func.isWrapper; first | (rw [if_pos (by decide +kernel)]; kernel_rfl) | (rw [if_neg (by decide +kernel)]; exact ⟨rfl, rfl⟩))
    (fun os started H enc _ => lifted os started H enc)

theorem proved : Rows.FnExactSeqOfSaid :=
  over
#print axioms proved
end Go.Proofs.Ytchlkdhnjejgnaa.fnExactSeqOf
