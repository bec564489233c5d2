/-
  The law FnExactMsgOk answers true at every input that the row speaks of, and its arguments read afterwards as before; the walk goes over the callees' contracts.
-/
import Derived.Test.YtnncbikmapjlfaaRows
import Derived.WalkKit
import Derived.ProofKit
import Derived.OpenShut
import Derived.ChangeOld
import Derived.Below
import Derived.Carry
import Derived.Test.YtnncbikmapjlfaaArgs
import Derived.Test.YtnncbikmapjlfaaMsgLaw
import Derived.Test.YtnncbikmapjlfaaMsg1
import Derived.Test.YtnncbikmapjlfaaImMsg3
namespace Go.Proofs.Ytnncbikmapjlfaa.fnExactMsgOk
open Go.ChangeShapes Go.WideShapes Go.ChangeAt Go.RowKit
set_option linter.unusedVariables false

theorem own : ownKnob Try.prog.godebug = none := by kernel_rfl
theorem laidOut : laidOutB Try.prog = true := by kernel_rfl

set_option maxRecDepth 100000 in
set_option maxHeartbeats 8000000 in
theorem walk (mkd0 mds0 mvw0 msq0 mcl0 mtg0 mk0 mat0 mva0 mep0 ms0 mrc0 mrv0 : Int) (mnm0 mot0 : ByteArray) (w : World) (z0 : FitMsg ⟨mkd0, mds0, mvw0, ⟨msq0, mcl0, mtg0, ⟨mk0, mnm0, mot0, mat0, mva0, mep0⟩⟩, ms0, mrc0, mrv0⟩) :
    Calls Try.prog 4 #[.agg #[.int .i64 mkd0, .int .i64 mds0, .int .i64 mvw0, .int .i64 msq0, .int .i64 mcl0, .int .i64 mtg0, .int .i64 mk0, .string mnm0, .string mot0, .int .i64 mat0, .int .i64 mva0, .int .i64 mep0, .int .i64 ms0, .int .i64 mrc0, .int .i64 mrv0]] w fun e w' => e = .returned (.bool true) ∧ Below w.heap.size w w' := by
  have u0 : mnm0.size ≤ maxLen := z0.1.1.1
  have x0 : mot0.size ≤ maxLen := z0.1.1.2
  obtain ⟨WA, hWA, kA, d, zA⟩ := box1 w #[.int .i64 mkd0, .int .i64 mds0, .int .i64 mvw0, .int .i64 msq0, .int .i64 mcl0, .int .i64 mtg0, .int .i64 mk0, .string mnm0, .string mot0, .int .i64 mat0, .int .i64 mva0, .int .i64 mep0, .int .i64 ms0, .int .i64 mrc0, .int .i64 mrv0] 50
  have sA : w.heap.size < WA.heap.size := by omega
  have HWA : Hid (WA = _) := hWA
  clear hWA zA
  obtain ⟨nv, hnv⟩ : ∃ x, msgOk ⟨mkd0, mds0, mvw0, ⟨msq0, mcl0, mtg0, ⟨mk0, mnm0, mot0, mat0, mva0, mep0⟩⟩, ms0, mrc0, mrv0⟩ = x := ⟨_, rfl⟩
  have HFD : Hid (msgOk ⟨mkd0, mds0, mvw0, ⟨msq0, mcl0, mtg0, ⟨mk0, mnm0, mot0, mat0, mva0, mep0⟩⟩, ms0, mrc0, mrv0⟩ = nv) := hnv
  clear hnv
  have pA0 := at_cell kA 0
  have pA1 := at_cell kA 1
  have pA2 := at_cell kA 2
  have pA3 := at_cell kA 3
  have pA4 := at_cell kA 4
  have pA5 := at_cell kA 5
  have pA6 := at_cell kA 6
  have pA7 := at_cell kA 7
  have pA8 := at_cell kA 8
  have pA9 := at_cell kA 9
  have pA10 := at_cell kA 10
  have pA11 := at_cell kA 11
  have pA12 := at_cell kA 12
  have pA13 := at_cell kA 13
  have pA14 := at_cell kA 14
  go_enter Try.func4, Try.ntmps4
  go_upto_region 2 with fail
  rw [← HWA.out]
  clear HWA
  go_wp2_with fail
  clear pA0 pA1 pA2 pA3 pA4 pA5 pA6 pA7 pA8 pA9 pA10 pA11 pA12 pA13 pA14
  refine (szMsg_any mkd0 mds0 mvw0 msq0 mcl0 mtg0 mk0 mnm0 mot0 mat0 mva0 mep0 ms0 mrc0 mrv0 1048576 _ u0 x0 (by omega) (by omega)).mono ?_
  rintro e wb ⟨q, rfl, hq, b⟩
  replace d := bw_call d b
  replace kA := (b.block _ sA).trans kA
  replace sA := Nat.lt_of_lt_of_le sA b.size
  clear b
  rcases hq with rfl | ⟨hq0, hq1, hb1, hb2⟩
  · go_wp2_with fail
    go_ret
    exact ⟨rfl, d⟩
  have pA0 := at_cell kA 0
  have pA1 := at_cell kA 1
  have pA2 := at_cell kA 2
  have pA3 := at_cell kA 3
  have pA4 := at_cell kA 4
  have pA5 := at_cell kA 5
  have pA6 := at_cell kA 6
  have pA7 := at_cell kA 7
  have pA8 := at_cell kA 8
  have pA9 := at_cell kA 9
  have pA10 := at_cell kA 10
  have pA11 := at_cell kA 11
  have pA12 := at_cell kA 12
  have pA13 := at_cell kA 13
  have pA14 := at_cell kA 14
  go_wp2_with fail
  clear pA0 pA1 pA2 pA3 pA4 pA5 pA6 pA7 pA8 pA9 pA10 pA11 pA12 pA13 pA14
  refine (toMsg_any mkd0 mds0 mvw0 msq0 mcl0 mtg0 mk0 mnm0 mot0 mat0 mva0 mep0 ms0 mrc0 mrv0 _).mono ?_
  rintro e wc ⟨rfl, b⟩
  replace d := bw_call d b
  replace kA := (b.block _ sA).trans kA
  replace sA := Nat.lt_of_lt_of_le sA b.size
  clear b
  go_wp2_with fail
  refine (specMsgOk_any mkd0 mds0 mvw0 msq0 mcl0 mtg0 mk0 mnm0 mot0 mat0 mva0 mep0 ms0 mrc0 mrv0 _ u0 x0).mono ?_
  rw [HFD.out]
  rintro e wc' ⟨rfl, b⟩
  replace d := bw_call d b
  replace kA := (b.block _ sA).trans kA
  replace sA := Nat.lt_of_lt_of_le sA b.size
  clear b
  have pA0 := at_cell kA 0
  have pA1 := at_cell kA 1
  have pA2 := at_cell kA 2
  have pA3 := at_cell kA 3
  have pA4 := at_cell kA 4
  have pA5 := at_cell kA 5
  have pA6 := at_cell kA 6
  have pA7 := at_cell kA 7
  have pA8 := at_cell kA 8
  have pA9 := at_cell kA 9
  have pA10 := at_cell kA 10
  have pA11 := at_cell kA 11
  have pA12 := at_cell kA 12
  have pA13 := at_cell kA 13
  have pA14 := at_cell kA 14
  go_wp2_with fail
  clear pA0 pA1 pA2 pA3 pA4 pA5 pA6 pA7 pA8 pA9 pA10 pA11 pA12 pA13 pA14
  refine (toMsg_any mkd0 mds0 mvw0 msq0 mcl0 mtg0 mk0 mnm0 mot0 mat0 mva0 mep0 ms0 mrc0 mrv0 _).mono ?_
  rintro e we ⟨rfl, b⟩
  replace d := bw_call d b
  replace kA := (b.block _ sA).trans kA
  replace sA := Nat.lt_of_lt_of_le sA b.size
  clear b
  go_wp2_with fail
  refine (implMsgOk_any mkd0 mds0 mvw0 msq0 mcl0 mtg0 mk0 mnm0 mot0 mat0 mva0 mep0 ms0 mrc0 mrv0 _ z0.1).mono ?_
  rw [HFD.out]
  rintro e we' ⟨rfl, b⟩
  replace d := bw_call d b
  replace kA := (b.block _ sA).trans kA
  replace sA := Nat.lt_of_lt_of_le sA b.size
  clear b
  have hself : (nv != nv) = false := by simp
  go_wp2_with fail
  go_ret
  exact ⟨rfl, d⟩

set_option maxRecDepth 100000 in
theorem lifted (os : Os) (started : os.Started) (H : Type) (enc : TypeId × Value → H) :
    ReturnsInHanded {} Try.checked os 4 .any (Rows.fnExactMsgOkSpec.pre6 enc Try.prog Try.f4 Rows.fnExactMsgOkRow.domain false) (Rows.fnExactMsgOkSpec.post enc Try.prog Try.f4 false true false false) := by
  refine returnsInHanded_of_change (C := Try.checked) own started (by kernel_rfl) Try.func4
    (ChangeSpec.witness6 (enc := enc) (C := Try.checked) false ⟨#[], #[.agg #[.int .i64 0, .int .i64 0, .int .i64 0, .int .i64 0, .int .i64 0, .int .i64 0, .int .i64 0, .string ByteArray.empty, .string ByteArray.empty, .int .i64 0, .int .i64 0, .int .i64 0, .int .i64 0, .int .i64 0, .int .i64 0]], []⟩ 8 (by kernel_rfl) (by kernel_rfl) (by kernel_rfl) (by kernel_rfl)) ?_
  intro W base args ds gs before hval0 hW hcnd _
  have hval : ∀ (j : Nat) t v, Try.f4.params[j]? = some t → args[j]? = some v → Value.okWide Try.prog W .any base t v := hval0
  have hW' := hW
  obtain ⟨p, q, hA0, hV, rfl, hfz, hnd⟩ := hW
  have hA : DataW.TrodAll enc Try.prog W 0 (fun _ => true) true Try.f4.params.toList args.toList ds p := hA0
  rw [Try.params4] at hA hval
  obtain ⟨v0, vs0, d0, ds0, p0, q0, hargs, rfl, rfl, h0, rr0⟩ := trodAll_cons hA
  obtain ⟨rfl, rfl, rfl⟩ := trodAll_nil rr0
  obtain rfl : args = #[v0] := by cases args; simp_all
  obtain ⟨rfl, rfl⟩ := trodVars_none hV
  have kk0 := h0
  have lt0 : ∀ x ∈ p0, x.block < W.heap.size := by obtain ⟨fuel, hfuel⟩ := kk0; exact DataW.trod_lt fuel _ _ _ hfuel
  obtain ⟨mkd0, mds0, mvw0, msq0, mcl0, mtg0, mk0, mnm0, mot0, mat0, mva0, mep0, ms0, mrc0, mrv0, rfl, z0⟩ := open_msg (hval 0 50 v0 rfl rfl) h0
  clear hA0 hval0
  refine (walk mkd0 mds0 mvw0 msq0 mcl0 mtg0 mk0 mat0 mva0 mep0 ms0 mrc0 mrv0 mnm0 mot0 W z0).mono fun e W' ⟨he, bel⟩ => ?_
  subst he
  exact ⟨_, rfl, _, _, _, [], _, [], hW', trodAll_mk1 (shut_bool Try.underlying4 _), (trodAll_cons_mk (Below.trod laidOut (by kernel_rfl) (of_decide_eq_true (by kernel_rfl)) kk0 bel lt0) trodAll_mk0), rfl, bel.frame _, fun h => by cases h⟩

theorem over : Rows.fnExactMsgOkRow.holds Try.pinned (OpenSpec.ofChange Rows.fnExactMsgOkSpec) :=
  OpenClaim.holds_of_wide 4 Try.f4 rfl rfl rfl rfl rfl rfl rfl ⟨rfl, rfl, rfl, rfl, rfl⟩ rfl rfl rfl rfl rfl (by kernel_rfl) Try.func4 (by kernel_rfl)
    (of_decide_eq_true (by kernel_rfl)) (by unfold Func.isWrapper; first | (rw [if_pos (by decide +kernel)]; kernel_rfl) | (rw [if_neg (by decide +kernel)]; exact ⟨rfl, rfl⟩))
    (fun os started H enc _ => lifted os started H enc)

theorem proved : Rows.FnExactMsgOkSaid :=
  over
#print axioms proved
end Go.Proofs.Ytnncbikmapjlfaa.fnExactMsgOk
