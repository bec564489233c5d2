/-
  The law FnExactFrames answers true at every input that the row speaks of, and its arguments read afterwards as before; the walk goes over the callees' contracts.
-/
import Derived.Test.YtbjkbhchcoabcahRows
import Derived.WalkKit
import Derived.Below
import Derived.Test.YtbjkbhchcoabcahFrame3
import Derived.Test.YtbjkbhchcoabcahImFrame3
import Derived.Test.YtbjkbhchcoabcahTexts
import Derived.ProofKit
import Derived.OpenShut
import Derived.ShutString
namespace Go.Proofs.Ytbjkbhchcoabcah.fnExactFrames
open Go.ChangeShapes Go.WideShapes Go.ChangeAt Go.RowKit
open Go.ChangeMaps (open_string shut_string)
set_option linter.unusedVariables false

theorem own : ownKnob Try.prog.godebug = none := by kernel_rfl

set_option maxRecDepth 100000 in
set_option maxHeartbeats 8000000 in
theorem walk (a0 : ByteArray) (w0 : a0.size ≤ maxLen) (w : World) :
    Calls Try.prog 3 #[.string a0] w fun e w' => e = .returned (.bool true) ∧ Below w.heap.size w w' := by
  by_cases h : (a0.size : Int) ≤ 1048576
  · have hs : a0.size ≤ 1099511627776 := by omega
    have hl := Fr.frAll_le a0
    go_enter Try.func3, Try.ntmps3
    go_wp2_with fail
    refine (specFrames_any _ _ hs).mono ?_
    rintro e w1 ⟨sv, rfl, so, b1⟩
    go_wp2_with fail
    refine (implFrames_any _ _ hs).mono ?_
    rintro e w2 ⟨gv, rfl, go, b2⟩
    have sr : Reads w1.heap.size w1 sv _ := Reads.of_own so
    have sr2 : Reads w1.heap.size w2 sv _ := sr.below b2
    clear so sr
    obtain ⟨xs, n, hall⟩ : ∃ xs n, Fr.frAll a0 = (xs, n) := ⟨_, _, rfl⟩
    rw [hall] at hl go sr2 ⊢
    have HA : Hid (Fr.frAll a0 = (xs, n)) := hall
    have b2s := b2.size
    clear hall
    simp only at hl go sr2 ⊢
    go_wp2_with fail
    refine (eqTexts_any gv sv xs xs _ (Reads.of_own go) (sr2.mono b2.size)).mono ?_
    rintro e w3 ⟨rfl, b3⟩
    have go3 := owns_below go b3
    have sr3 := sr2.below (b3.mono b2.size)
    have bw3 := b1.trans ((b2.trans (b3.mono b2.size)).mono b1.size)
    have d1 : decide (xs = xs) = true := by simp
    rw [d1]
    clear d1 go sr2 b2
    have hb3 : w1.heap.size ≤ w3.heap.size := Nat.le_trans b2s b3.size
    go_wp2_with fail
    refine (markedRow_any gv xs.length w1.heap.size 1 _ _ (by omega) (by omega) hb3 go3).mono ?_
    rintro e w4 ⟨rfl, go4, b4⟩
    have sr4 := sr3.below b4
    have bw4 := bw3.trans (b4.mono b1.size)
    clear go3 sr3 bw3 b3
    go_wp2_with fail
    refine (held_any gv xs.length 1 _ (by omega) (by omega) (Reads.of_own go4)).mono ?_
    rintro e w5 ⟨rfl, b5⟩
    have hb4 : w1.heap.size ≤ w4.heap.size := Nat.le_trans hb3 b4.size
    have go5 := owns_below go4 b5
    have sr5 := sr4.below (b5.mono hb4)
    have bw5 := bw4.trans (b5.mono bw4.size)
    have hb5 : w1.heap.size ≤ w5.heap.size := Nat.le_trans hb4 b5.size
    clear go4 sr4 bw4 b5 b4
    go_wp2_with fail
    refine (implFrames_any _ _ hs).mono ?_
    rw [HA.out]
    rintro e w6 ⟨hv, rfl, ho, b6⟩
    have go6 := owns_below go5 b6
    have sr6 := sr5.below (b6.mono hb5)
    have bw6 := bw5.trans (b6.mono bw5.size)
    have hb6 : w1.heap.size ≤ w6.heap.size := Nat.le_trans hb5 b6.size
    clear go5 sr5 bw5 b6
    go_wp2_with fail
    refine (eqTexts_any hv sv xs xs _ (Reads.of_own ho) (sr6.mono hb6)).mono ?_
    rintro e w7 ⟨rfl, b7⟩
    have go7 := owns_below go6 b7
    have bw7 := bw6.trans (b7.mono bw6.size)
    have d2 : decide (xs = xs) = true := by simp
    rw [d2]
    clear d2 go6 sr6 bw6 b7 ho
    go_wp2_with fail
    refine (held_any gv xs.length 1 _ (by omega) (by omega) (Reads.of_own go7)).mono ?_
    rintro e w8 ⟨rfl, b8⟩
    have bw8 := bw7.trans (b8.mono bw7.size)
    clear go7 bw7 b8
    go_wp2_with fail
    go_ret
    exact ⟨rfl, bw8⟩
  · unfold maxLen at w0
    go_enter Try.func3, Try.ntmps3
    go_wp2_with fail
    go_ret
    exact ⟨rfl, Below.refl _ _⟩

set_option maxRecDepth 100000 in
theorem lifted (os : Os) (started : os.Started) (H : Type) (enc : TypeId × Value → H) :
    ReturnsInHanded {} Try.checked os 3 .any (Rows.fnExactFramesSpec.pre6 enc Try.prog Try.f3 Rows.fnExactFramesRow.domain false) (Rows.fnExactFramesSpec.post enc Try.prog Try.f3 false true false false) := by
  refine returnsInHanded_of_change (C := Try.checked) own started (by kernel_rfl) Try.func3
    (ChangeSpec.witness6 (enc := enc) (C := Try.checked) false ⟨#[], #[.string ByteArray.empty], []⟩ 8 (by kernel_rfl) (by kernel_rfl) (by kernel_rfl) (by kernel_rfl)) ?_
  intro W base args ds gs before hval0 hW hcnd _
  have hval : ∀ (j : Nat) t v, Try.f3.params[j]? = some t → args[j]? = some v → Value.okWide Try.prog W .any base t v := hval0
  have hW' := hW
  obtain ⟨p, q, hA0, hV, rfl, hfz, hnd⟩ := hW
  have hA : DataW.TrodAll enc Try.prog W 0 (fun _ => true) true Try.f3.params.toList args.toList ds p := hA0
  rw [Try.params3] at hA hval
  obtain ⟨v0, vs0, d0, ds0, p0, q0, hargs, rfl, rfl, h0, r0⟩ := trodAll_cons hA
  obtain ⟨rfl, rfl, rfl⟩ := trodAll_nil r0
  obtain rfl : args = #[v0] := by cases args; simp_all
  obtain ⟨rfl, rfl⟩ := trodVars_none hV
  obtain ⟨a0, rfl, rfl, rfl, w0⟩ := open_string Try.underlying9 (hval 0 9 v0 rfl rfl) h0
  clear hA0 hval0
  simp only [List.append_nil] at hW'
  refine (walk a0 w0 W).mono fun e W' ⟨he, hg⟩ => ?_
  subst he
  exact ⟨_, rfl, _, _, _, [], [], [], hW', (trodAll_cons_mk (shut_bool Try.underlying4 _) trodAll_mk0), (trodAll_cons_mk (shut_string Try.underlying9 w0) trodAll_mk0), rfl, hg.frame _, fun h => by cases h⟩

theorem over : Rows.fnExactFramesRow.holds Try.pinned (OpenSpec.ofChange Rows.fnExactFramesSpec) :=
  OpenClaim.holds_of_wide 3 Try.f3 rfl rfl rfl rfl rfl rfl rfl ⟨rfl, rfl, rfl, rfl, rfl⟩ rfl rfl rfl rfl rfl (by kernel_rfl) Try.func3 (by kernel_rfl)
    (of_decide_eq_true (by kernel_rfl)) (by unfold Func.isWrapper; first | (rw [if_pos (by decide +kernel)]; kernel_rfl) | (rw [if_neg (by decide +kernel)]; exact ⟨rfl, rfl⟩))
    (fun os started H enc _ => lifted os started H enc)

theorem proved : Rows.FnExactFramesSaid :=
  over
#print axioms proved
end Go.Proofs.Ytbjkbhchcoabcah.fnExactFrames
