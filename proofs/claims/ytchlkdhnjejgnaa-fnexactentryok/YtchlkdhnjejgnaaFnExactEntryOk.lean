/-
  The law FnExactEntryOk answers true at every input that the row speaks of, and its arguments read afterwards as before; the walk goes over the callees' contracts.
-/
import Derived.Test.YtchlkdhnjejgnaaRows
import Derived.WalkKit
import Derived.ProofKit
import Derived.OpenShut
import Derived.ChangeOld
import Derived.Below
import Derived.Carry
import Derived.Test.YtchlkdhnjejgnaaArgs
import Derived.Test.YtchlkdhnjejgnaaEntRow
import Derived.Test.YtchlkdhnjejgnaaEnt2
import Derived.Test.YtchlkdhnjejgnaaImEnt2
namespace Go.Proofs.Ytchlkdhnjejgnaa.fnExactEntryOk
open Go.ChangeShapes Go.WideShapes Go.ChangeAt Go.RowKit
set_option linter.unusedVariables false

theorem own : ownKnob Try.prog.godebug = none := by kernel_rfl
theorem laidOut : laidOutB Try.prog = true := by kernel_rfl

set_option maxHeartbeats 4000000 in
theorem walk (es0 ec0 et0 ok0 : Int) (on0 oo0 : ByteArray) (oa0 ov0 oe0 : Int) (w : World) (z0 : FitEnt ⟨es0, ec0, et0, ⟨ok0, on0, oo0, oa0, ov0, oe0⟩⟩) :
    Calls Try.prog 5 #[.agg #[.int .i64 es0, .int .i64 ec0, .int .i64 et0, .int .i64 ok0, .string on0, .string oo0, .int .i64 oa0, .int .i64 ov0, .int .i64 oe0]] w fun e w' => e = .returned (.bool true) ∧ Below w.heap.size w w' := by
  have u0 : on0.size ≤ maxLen := z0.1.1
  have x0 : oo0.size ≤ maxLen := z0.1.2
  obtain ⟨WA, hWA, kA, d, zA⟩ := box1 w #[.int .i64 es0, .int .i64 ec0, .int .i64 et0, .int .i64 ok0, .string on0, .string oo0, .int .i64 oa0, .int .i64 ov0, .int .i64 oe0] 62
  have sA : w.heap.size < WA.heap.size := by omega
  have HWA : Hid (WA = _) := hWA
  clear hWA zA
  obtain ⟨nv, hnv⟩ : ∃ x, entOk ⟨es0, ec0, et0, ⟨ok0, on0, oo0, oa0, ov0, oe0⟩⟩ = x := ⟨_, rfl⟩
  have HFD : Hid (entOk ⟨es0, ec0, et0, ⟨ok0, on0, oo0, oa0, ov0, oe0⟩⟩ = nv) := hnv
  clear hnv
  go_enter Try.func5, Try.ntmps5
  go_wp2_with fail
  rw [← HWA.out]
  clear HWA
  refine (szEntry_any es0 ec0 et0 ok0 on0 oo0 oa0 ov0 oe0 1048576 _ u0 x0 (by omega) (by omega)).mono ?_
  rintro e wb ⟨q, rfl, hq, b⟩
  replace d := bw_call d b
  replace kA := (b.block _ sA).trans kA
  replace sA := Nat.lt_of_lt_of_le sA b.size
  clear b
  rcases hq with rfl | ⟨hq0, hq1, hb1, hb2⟩
  · go_wp2_with fail
    go_ret
    exact ⟨rfl, d⟩
  have pA0 := at_cell kA 0
  have pA1 := at_cell kA 1
  have pA2 := at_cell kA 2
  have pA3 := at_cell kA 3
  have pA4 := at_cell kA 4
  have pA5 := at_cell kA 5
  have pA6 := at_cell kA 6
  have pA7 := at_cell kA 7
  have pA8 := at_cell kA 8
  go_wp2_with fail
  clear pA0 pA1 pA2 pA3 pA4 pA5 pA6 pA7 pA8
  refine (toEntry_any es0 ec0 et0 ok0 on0 oo0 oa0 ov0 oe0 _).mono ?_
  rintro e wc ⟨rfl, b⟩
  replace d := bw_call d b
  replace kA := (b.block _ sA).trans kA
  replace sA := Nat.lt_of_lt_of_le sA b.size
  clear b
  go_wp2_with fail
  refine (specEntryOk_any es0 ec0 et0 ok0 on0 oo0 oa0 ov0 oe0 _ u0 x0).mono ?_
  rw [HFD.out]
  rintro e wc' ⟨rfl, b⟩
  replace d := bw_call d b
  replace kA := (b.block _ sA).trans kA
  replace sA := Nat.lt_of_lt_of_le sA b.size
  clear b
  have pA0 := at_cell kA 0
  have pA1 := at_cell kA 1
  have pA2 := at_cell kA 2
  have pA3 := at_cell kA 3
  have pA4 := at_cell kA 4
  have pA5 := at_cell kA 5
  have pA6 := at_cell kA 6
  have pA7 := at_cell kA 7
  have pA8 := at_cell kA 8
  go_wp2_with fail
  clear pA0 pA1 pA2 pA3 pA4 pA5 pA6 pA7 pA8
  refine (toEntry_any es0 ec0 et0 ok0 on0 oo0 oa0 ov0 oe0 _).mono ?_
  rintro e we ⟨rfl, b⟩
  replace d := bw_call d b
  replace kA := (b.block _ sA).trans kA
  replace sA := Nat.lt_of_lt_of_le sA b.size
  clear b
  go_wp2_with fail
  refine (implEntryOk_any es0 ec0 et0 ok0 on0 oo0 oa0 ov0 oe0 _ z0).mono ?_
  rw [HFD.out]
  rintro e we' ⟨rfl, b⟩
  replace d := bw_call d b
  replace kA := (b.block _ sA).trans kA
  replace sA := Nat.lt_of_lt_of_le sA b.size
  clear b
  have hself : (nv != nv) = false := by simp
  go_wp2_with fail
  go_ret
  exact ⟨rfl, d⟩

set_option maxRecDepth 100000 in
theorem lifted (os : Os) (started : os.Started) (H : Type) (enc : TypeId × Value → H) :
    ReturnsInHanded {} Try.checked os 5 .any (Rows.fnExactEntryOkSpec.pre6 enc Try.prog Try.f5 Rows.fnExactEntryOkRow.domain false) (Rows.fnExactEntryOkSpec.post enc Try.prog Try.f5 false true false false) := by
  refine returnsInHanded_of_change (C := Try.checked) own started (by kernel_rfl) Try.func5
    (ChangeSpec.witness6 (enc := enc) (C := Try.checked) false ⟨#[], #[.agg #[.int .i64 0, .int .i64 0, .int .i64 0, .int .i64 0, .string ByteArray.empty, .string ByteArray.empty, .int .i64 0, .int .i64 0, .int .i64 0]], []⟩ 8 (by kernel_rfl) (by kernel_rfl) (by kernel_rfl) (by kernel_rfl)) ?_
  intro W base args ds gs before hval0 hW hcnd _
  have hval : ∀ (j : Nat) t v, Try.f5.params[j]? = some t → args[j]? = some v → Value.okWide Try.prog W .any base t v := hval0
  have hW' := hW
  obtain ⟨p, q, hA0, hV, rfl, hfz, hnd⟩ := hW
  have hA : DataW.TrodAll enc Try.prog W 0 (fun _ => true) true Try.f5.params.toList args.toList ds p := hA0
  rw [Try.params5] at hA hval
  obtain ⟨v0, vs0, d0, ds0, p0, q0, hargs, rfl, rfl, h0, rr0⟩ := trodAll_cons hA
  obtain ⟨rfl, rfl, rfl⟩ := trodAll_nil rr0
  obtain rfl : args = #[v0] := by cases args; simp_all
  obtain ⟨rfl, rfl⟩ := trodVars_none hV
  have kk0 := h0
  have lt0 : ∀ x ∈ p0, x.block < W.heap.size := by obtain ⟨fuel, hfuel⟩ := kk0; exact DataW.trod_lt fuel _ _ _ hfuel
  obtain ⟨es0, ec0, et0, ok0, on0, oo0, oa0, ov0, oe0, rfl, z0⟩ := open_entry (hval 0 62 v0 rfl rfl) h0
  clear hA0 hval0
  refine (walk es0 ec0 et0 ok0 on0 oo0 oa0 ov0 oe0 W z0).mono fun e W' ⟨he, bel⟩ => ?_
  subst he
  exact ⟨_, rfl, _, _, _, [], _, [], hW', trodAll_mk1 (shut_bool Try.underlying4 _), (trodAll_cons_mk (Below.trod laidOut (by kernel_rfl) (of_decide_eq_true (by kernel_rfl)) kk0 bel lt0) trodAll_mk0), rfl, bel.frame _, fun h => by cases h⟩

theorem over : Rows.fnExactEntryOkRow.holds Try.pinned (OpenSpec.ofChange Rows.fnExactEntryOkSpec) :=
  OpenClaim.holds_of_wide 5 Try.f5 rfl rfl rfl rfl rfl rfl rfl ⟨rfl, rfl, rfl, rfl, rfl⟩ rfl rfl rfl rfl rfl (by kernel_rfl) Try.func5 (by kernel_rfl)
    (of_decide_eq_true (by kernel_rfl)) (by unfold Func.isWrapper; first | (rw [if_pos (by decide +kernel)]; kernel_rfl) | (rw [if_neg (by decide +kernel)]; exact ⟨rfl, rfl⟩))
    (fun os started H enc _ => lifted os started H enc)

theorem proved : Rows.FnExactEntryOkSaid :=
  over
#print axioms proved
end Go.Proofs.Ytchlkdhnjejgnaa.fnExactEntryOk
