/-
  The law FnExactShowReply answers true at every input that the row speaks of, and its arguments read afterwards as before; the walk goes over the callees' contracts.
-/
import Derived.Test.YtdkciaeibkhbgaaRows
import Derived.WalkKit
import Derived.ProofKit
import Derived.OpenShut
import Derived.ChangeOld
import Derived.Below
import Derived.Carry
import Derived.Test.YtdkciaeibkhbgaaArgs
import Derived.Test.YtdkciaeibkhbgaaArgsRep
import Derived.Test.YtdkciaeibkhbgaaRep1
import Derived.Test.YtdkciaeibkhbgaaImRep
import Derived.Test.YtdkciaeibkhbgaaReplyLaw
namespace Go.Proofs.Ytdkciaeibkhbgaa.fnExactShowReply
open Go.ChangeShapes Go.WideShapes Go.ChangeAt Go.RowKit
set_option linter.unusedVariables false

theorem own : ownKnob Try.prog.godebug = none := by kernel_rfl
theorem laidOut : laidOutB Try.prog = true := by kernel_rfl

set_option maxHeartbeats 4000000 in
theorem walk (rc0 rv0 : Int) (w : World) (fc0 : I64 rc0) (fv0 : I64 rv0) :
    Calls Try.prog 6 #[.agg #[.int .i64 rc0, .int .i64 rv0]] w fun e w' => e = .returned (.bool true) ∧ Below w.heap.size w w' := by
  obtain ⟨WA, hWA, kA, d, zA⟩ := box1 w #[.int .i64 rc0, .int .i64 rv0] 54
  have sA : w.heap.size < WA.heap.size := by omega
  have HWA : Hid (WA = _) := hWA
  clear hWA zA
  obtain ⟨nv, hnv⟩ : ∃ x, showRep rc0 rv0 = x := ⟨_, rfl⟩
  have HFD : Hid (showRep rc0 rv0 = nv) := hnv
  clear hnv
  go_enter Try.func6, Try.ntmps6
  go_wp2_with fail
  rw [← HWA.out]
  clear HWA
  refine (toReply_any rc0 rv0 _).mono ?_
  rintro e wc ⟨rfl, b⟩
  replace d := bw_call d b
  replace kA := (b.block _ sA).trans kA
  replace sA := Nat.lt_of_lt_of_le sA b.size
  clear b
  go_wp2_with fail
  refine (specShowReply_any rc0 rv0 _).mono ?_
  rw [HFD.out]
  rintro e wc' ⟨rfl, b⟩
  replace d := bw_call d b
  replace kA := (b.block _ sA).trans kA
  replace sA := Nat.lt_of_lt_of_le sA b.size
  clear b
  have pA0 := at_cell kA 0
  have pA1 := at_cell kA 1
  go_wp2_with fail
  clear pA0 pA1
  refine (toReply_any rc0 rv0 _).mono ?_
  rintro e we ⟨rfl, b⟩
  replace d := bw_call d b
  replace kA := (b.block _ sA).trans kA
  replace sA := Nat.lt_of_lt_of_le sA b.size
  clear b
  go_wp2_with fail
  refine (implShowReply_any rc0 rv0 _).mono ?_
  rw [HFD.out]
  rintro e we' ⟨rfl, b⟩
  replace d := bw_call d b
  replace kA := (b.block _ sA).trans kA
  replace sA := Nat.lt_of_lt_of_le sA b.size
  clear b
  have hself : (nv.toList == nv.toList) = true := by simp
  go_wp2_with fail
  go_ret
  exact ⟨rfl, d⟩

set_option maxRecDepth 100000 in
theorem lifted (os : Os) (started : os.Started) (H : Type) (enc : TypeId × Value → H) :
    ReturnsInHanded {} Try.checked os 6 .any (Rows.fnExactShowReplySpec.pre6 enc Try.prog Try.f6 Rows.fnExactShowReplyRow.domain false) (Rows.fnExactShowReplySpec.post enc Try.prog Try.f6 false true false false) := by
  refine returnsInHanded_of_change (C := Try.checked) own started (by kernel_rfl) Try.func6
    (ChangeSpec.witness6 (enc := enc) (C := Try.checked) false ⟨#[], #[.agg #[.int .i64 0, .int .i64 0]], []⟩ 8 (by kernel_rfl) (by kernel_rfl) (by kernel_rfl) (by kernel_rfl)) ?_
  intro W base args ds gs before hval0 hW hcnd _
  have hval : ∀ (j : Nat) t v, Try.f6.params[j]? = some t → args[j]? = some v → Value.okWide Try.prog W .any base t v := hval0
  have hW' := hW
  obtain ⟨p, q, hA0, hV, rfl, hfz, hnd⟩ := hW
  have hA : DataW.TrodAll enc Try.prog W 0 (fun _ => true) true Try.f6.params.toList args.toList ds p := hA0
  rw [Try.params6] at hA hval
  obtain ⟨v0, vs0, d0, ds0, p0, q0, hargs, rfl, rfl, h0, rr0⟩ := trodAll_cons hA
  obtain ⟨rfl, rfl, rfl⟩ := trodAll_nil rr0
  obtain rfl : args = #[v0] := by cases args; simp_all
  obtain ⟨rfl, rfl⟩ := trodVars_none hV
  have kk0 := h0
  have lt0 : ∀ x ∈ p0, x.block < W.heap.size := by obtain ⟨fuel, hfuel⟩ := kk0; exact DataW.trod_lt fuel _ _ _ hfuel
  obtain ⟨rc0, rv0, rfl, fc0, fv0⟩ := open_reply (hval 0 54 v0 rfl rfl) h0
  clear hA0 hval0
  refine (walk rc0 rv0 W fc0 fv0).mono fun e W' ⟨he, bel⟩ => ?_
  subst he
  exact ⟨_, rfl, _, _, _, [], _, [], hW', trodAll_mk1 (shut_bool Try.underlying4 _), (trodAll_cons_mk (Below.trod laidOut (by kernel_rfl) (of_decide_eq_true (by kernel_rfl)) kk0 bel lt0) trodAll_mk0), rfl, bel.frame _, fun h => by cases h⟩

theorem over : Rows.fnExactShowReplyRow.holds Try.pinned (OpenSpec.ofChange Rows.fnExactShowReplySpec) :=
  OpenClaim.holds_of_wide 6 Try.f6 rfl rfl rfl rfl rfl rfl rfl ⟨rfl, rfl, rfl, rfl, rfl⟩ rfl rfl rfl rfl rfl (by kernel_rfl) Try.func6 (by kernel_rfl)
    (of_decide_eq_true (by kernel_rfl)) (by unfold Func.isWrapper; first | (rw [if_pos (by decide +kernel)]; kernel_rfl) | (rw [if_neg (by decide +kernel)]; exact ⟨rfl, rfl⟩))
    (fun os started H enc _ => lifted os started H enc)

theorem proved : Rows.FnExactShowReplySaid :=
  over
#print axioms proved
end Go.Proofs.Ytdkciaeibkhbgaa.fnExactShowReply
