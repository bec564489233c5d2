/-
  The law FnExactFeedOk answers true at every input that the row speaks of, and its arguments read afterwards as before; the walk goes over the callees' contracts.
-/
import Derived.Test.YtbjkbhchcoabcahRows
import Derived.WalkKit
import Derived.ProofKit
import Derived.OpenShut
import Derived.ChangeOld
import Derived.Below
import Derived.Carry
import Derived.Test.YtbjkbhchcoabcahArgs
import Derived.Test.YtbjkbhchcoabcahFeed
import Derived.Test.YtbjkbhchcoabcahImFeed
namespace Go.Proofs.Ytbjkbhchcoabcah.fnExactFeedOk
open Go.ChangeShapes Go.WideShapes Go.ChangeAt Go.RowKit
set_option linter.unusedVariables false

theorem own : ownKnob Try.prog.godebug = none := by kernel_rfl
theorem laidOut : laidOutB Try.prog = true := by kernel_rfl

set_option maxHeartbeats 4000000 in
theorem walk (r0 : ByteArray) (k0 : Int) (w : World) (w0 : r0.size ≤ maxLen) (x0 : (Lit.int .i64 k0).wf = true) :
    Calls Try.prog 4 #[.agg #[.string r0, .int .i64 k0]] w fun e w' => e = .returned (.bool true) ∧ Below w.heap.size w w' := by
  by_cases h : (1048576 : Int) < (r0.size : Int)
  · go_enter Try.func4, Try.ntmps4
    go_wp2_with fail
    refine (szFeed_any _ _ _ _ w0 (by omega) (by omega)).mono ?_
    rintro e w1 ⟨rfl, b1⟩
    rw [if_pos h]
    go_wp2_with fail
    go_ret
    exact ⟨rfl, ((Below.refl _ _).alloc (Nat.le_refl _) _).trans (b1.mono (by simp))⟩
  · have hr : r0.size ≤ 1099511627776 := by omega
    have hl : 0 ≤ (1048576 : Int) - (r0.size : Int) := by omega
    go_enter Try.func4, Try.ntmps4
    go_wp2_with fail
    refine (szFeed_any _ _ _ _ w0 (by omega) (by omega)).mono ?_
    rintro e w1 ⟨rfl, b1⟩
    rw [if_neg (by omega)]
    have a1 := ((Below.refl w.heap.size w).alloc (Nat.le_refl _) (.cells #[.string r0, .int .i64 k0] 29)).trans (b1.mono (by simp))
    have q0 : w1.cell? ⟨w.heap.size, 0, none⟩ = some (.string r0) := (b1.cell (p := ⟨w.heap.size, 0, none⟩) (by simp [go_sem])).trans (by simp [go_sem])
    have q1 : w1.cell? ⟨w.heap.size, 1, none⟩ = some (.int .i64 k0) := (b1.cell (p := ⟨w.heap.size, 1, none⟩) (by simp [go_sem])).trans (by simp [go_sem])
    have hz1 : w.heap.size < w1.heap.size := by have := b1.size; simp [go_sem] at this; omega
    clear b1
    go_wp2_with fail
    refine (toFeed_any _ _ _).mono ?_
    rintro e w2 ⟨rfl, b2⟩
    go_wp2_with fail
    refine (specFeedOk_any _ _ _ hr).mono ?_
    rintro e w3 ⟨rfl, b3⟩
    have c3 := b2.trans (b3.mono b2.size)
    have p0 : w3.cell? ⟨w.heap.size, 0, none⟩ = some (.string r0) := (c3.cell (p := ⟨w.heap.size, 0, none⟩) hz1).trans q0
    have p1 : w3.cell? ⟨w.heap.size, 1, none⟩ = some (.int .i64 k0) := (c3.cell (p := ⟨w.heap.size, 1, none⟩) hz1).trans q1
    have a3 := a1.trans (c3.mono a1.size)
    clear q0 q1 b2 b3 c3 a1
    go_wp2_with fail
    refine (toFeed_any _ _ _).mono ?_
    rintro e w4 ⟨rfl, b4⟩
    go_wp2_with fail
    refine (implFeedOk_any _ _ _ hr).mono ?_
    rintro e w5 ⟨rfl, b5⟩
    have a5 := (a3.trans (b4.mono a3.size)).trans (b5.mono (a3.trans (b4.mono a3.size)).size)
    go_wp2_with fail
    go_ret
    exact ⟨rfl, a5⟩

set_option maxRecDepth 100000 in
theorem lifted (os : Os) (started : os.Started) (H : Type) (enc : TypeId × Value → H) :
    ReturnsInHanded {} Try.checked os 4 .any (Rows.fnExactFeedOkSpec.pre6 enc Try.prog Try.f4 Rows.fnExactFeedOkRow.domain false) (Rows.fnExactFeedOkSpec.post enc Try.prog Try.f4 false true false false) := by
  refine returnsInHanded_of_change (C := Try.checked) own started (by kernel_rfl) Try.func4
    (ChangeSpec.witness6 (enc := enc) (C := Try.checked) false ⟨#[], #[.agg #[.string ByteArray.empty, .int .i64 0]], []⟩ 8 (by kernel_rfl) (by kernel_rfl) (by kernel_rfl) (by kernel_rfl)) ?_
  intro W base args ds gs before hval0 hW hcnd _
  have hval : ∀ (j : Nat) t v, Try.f4.params[j]? = some t → args[j]? = some v → Value.okWide Try.prog W .any base t v := hval0
  have hW' := hW
  obtain ⟨p, q, hA0, hV, rfl, hfz, hnd⟩ := hW
  have hA : DataW.TrodAll enc Try.prog W 0 (fun _ => true) true Try.f4.params.toList args.toList ds p := hA0
  rw [Try.params4] at hA hval
  obtain ⟨v0, vs0, d0, ds0, p0, q0, hargs, rfl, rfl, h0, rr0⟩ := trodAll_cons hA
  obtain ⟨rfl, rfl, rfl⟩ := trodAll_nil rr0
  obtain rfl : args = #[v0] := by cases args; simp_all
  obtain ⟨rfl, rfl⟩ := trodVars_none hV
  have kk0 := h0
  have lt0 : ∀ x ∈ p0, x.block < W.heap.size := by obtain ⟨fuel, hfuel⟩ := kk0; exact DataW.trod_lt fuel _ _ _ hfuel
  obtain ⟨r0, k0, rfl, w0, x0⟩ := open_feed (hval 0 29 v0 rfl rfl) h0
  clear hA0 hval0
  refine (walk r0 k0 W w0 x0).mono fun e W' ⟨he, bel⟩ => ?_
  subst he
  exact ⟨_, rfl, _, _, _, [], _, [], hW', trodAll_mk1 (shut_bool Try.underlying4 _), (trodAll_cons_mk (Below.trod laidOut (by kernel_rfl) (of_decide_eq_true (by kernel_rfl)) kk0 bel lt0) trodAll_mk0), rfl, bel.frame _, fun h => by cases h⟩

theorem over : Rows.fnExactFeedOkRow.holds Try.pinned (OpenSpec.ofChange Rows.fnExactFeedOkSpec) :=
  OpenClaim.holds_of_wide 4 Try.f4 rfl rfl rfl rfl rfl rfl rfl ⟨rfl, rfl, rfl, rfl, rfl⟩ rfl rfl rfl rfl rfl (by kernel_rfl) Try.func4 (by kernel_rfl)
    (of_decide_eq_true (by kernel_rfl)) (by unfold Func.isWrapper; first | (rw [if_pos (by decide +kernel)]; kernel_rfl) | (rw [if_neg (by decide +kernel)]; exact ⟨rfl, rfl⟩))
    (fun os started H enc _ => lifted os started H enc)

theorem proved : Rows.FnExactFeedOkSaid :=
  over
#print axioms proved
end Go.Proofs.Ytbjkbhchcoabcah.fnExactFeedOk
