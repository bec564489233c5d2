/-
  The law FnExactNewBook answers true at every input that the row speaks of, and its arguments read afterwards as before; the walk goes over the callees' contracts.
-/
import Derived.Test.YtehjahegokeofajRows
import Derived.WalkKit
import Derived.ProofKit
import Derived.OpenShut
import Derived.ChangeOld
import Derived.Below
import Derived.Carry
import Derived.Test.YtehjahegokeofajArgs
import Derived.Test.YtehjahegokeofajBook2
import Derived.Test.YtehjahegokeofajImBook3
import Derived.Test.YtehjahegokeofajBookLaw
namespace Go.Proofs.Ytehjahegokeofaj.fnExactNewBook
open Go.ChangeShapes Go.WideShapes Go.ChangeAt Go.RowKit
set_option linter.unusedVariables false

theorem own : ownKnob Try.prog.godebug = none := by kernel_rfl
theorem laidOut : laidOutB Try.prog = true := by kernel_rfl

set_option maxHeartbeats 4000000 in
theorem walk (a0 : ByteArray) (a1 : Int) (w : World) (w0 : a0.size ≤ maxLen) (w1 : (Lit.int .i64 a1).wf = true) :
    Calls Try.prog 7 #[.string a0, .int .i64 a1] w fun e w' => e = .returned (.bool true) ∧ Below w.heap.size w w' := by
  have d : Below w.heap.size w w := Below.refl _ _
  have HW0 : Hid _ := w0
  unfold maxLen at w0
  by_cases hbig : (1048576 : Int) < (a0.size : Int)
  · go_enter Try.func7, Try.ntmps7
    go_wp2_with fail
    go_ret
    exact ⟨rfl, d⟩
  have hsz : a0.size ≤ 1099511627776 := by omega
  obtain ⟨nv, hnv⟩ : ∃ x, newOk a0 a1 = x := ⟨_, rfl⟩
  have HFD : Hid (newOk a0 a1 = nv) := hnv
  clear hnv
  go_enter Try.func7, Try.ntmps7
  go_wp2_with fail
  refine (specNewBook_any a0 a1 _ HW0.out).mono ?_
  rw [HFD.out]
  rintro e wd ⟨rfl, b⟩
  replace d := bw_call d b
  clear b
  have b : Below wd.heap.size wd (wd.alloc (.cells #[.string (newName a0 a1), .int .i64 (newSize a0 a1), .slice none 0 0, .bool false, .int .i64 0] 43)) := bw_alloc (Below.refl _ _)
  have kB := heap_alloc_new wd (.cells #[.string (newName a0 a1), .int .i64 (newSize a0 a1), .slice none 0 0, .bool false, .int .i64 0] 43)
  have sB : wd.heap.size < (wd.alloc (.cells #[.string (newName a0 a1), .int .i64 (newSize a0 a1), .slice none 0 0, .bool false, .int .i64 0] 43)).heap.size := by simp
  replace d := bw_call d b
  clear b
  go_wp2_with fail
  generalize wd.alloc (.cells #[.string (newName a0 a1), .int .i64 (newSize a0 a1), .slice none 0 0, .bool false, .int .i64 0] 43) = We at *
  have cE := d.size
  have yE : We.heap.size ≤ We.heap.size := Nat.le_refl _
  refine (implNewBook_any a0 a1 _ HW0.out hsz).mono ?_
  rw [HFD.out]
  rintro e wg ⟨m1, rfl, og, b⟩
  replace d := bw_call d b
  replace kB := (b.block _ sB).trans kB
  replace sB := Nat.lt_of_lt_of_le sB b.size
  replace yE := Nat.le_trans yE b.size
  clear b
  obtain ⟨o1, c1, rfl⟩ := own_slice og
  have b : Below wg.heap.size wg (wg.alloc (.cells #[.string (newName a0 a1), .int .i64 (newSize a0 a1), .slice o1 0 c1, .bool false, .int .i64 0] 43)) := bw_alloc (Below.refl _ _)
  have kG := heap_alloc_new wg (.cells #[.string (newName a0 a1), .int .i64 (newSize a0 a1), .slice o1 0 c1, .bool false, .int .i64 0] 43)
  have sG : wg.heap.size < (wg.alloc (.cells #[.string (newName a0 a1), .int .i64 (newSize a0 a1), .slice o1 0 c1, .bool false, .int .i64 0] 43)).heap.size := by simp
  replace d := bw_call d b
  replace kB := (b.block _ sB).trans kB
  replace sB := Nat.lt_of_lt_of_le sB b.size
  replace yE := Nat.le_trans yE b.size
  replace og := owns_below og b
  clear b
  have pG0 := at_cell kG 0
  have pG1 := at_cell kG 1
  have pG2 := at_cell kG 2
  have pG3 := at_cell kG 3
  have pG4 := at_cell kG 4
  have pB0 := at_cell kB 0
  have pB1 := at_cell kB 1
  have pB2 := at_cell kB 2
  have pB3 := at_cell kB 3
  have pB4 := at_cell kB 4
  go_wp2_with fail
  clear pG0 pG1 pG2 pG3 pG4 pB0 pB1 pB2 pB3 pB4
  generalize wg.alloc (.cells #[.string (newName a0 a1), .int .i64 (newSize a0 a1), .slice o1 0 c1, .bool false, .int .i64 0] 43) = Wy at *
  refine (eqBook_same (newName a0 a1) (newSize a0 a1) (.slice o1 0 c1) (.slice none 0 0) [] false 0 _ (ReadsR.of_own (xs := []) runC_len og) (ReadsR.nil _ _ _ _)).mono ?_
  rintro e wh ⟨rfl, b⟩
  replace d := bw_call d b
  replace kB := (b.block _ sB).trans kB
  replace sB := Nat.lt_of_lt_of_le sB b.size
  replace yE := Nat.le_trans yE b.size
  replace og := owns_below og b
  replace kG := (b.block _ sG).trans kG
  replace sG := Nat.lt_of_lt_of_le sG b.size
  clear b
  have pG0 := at_cell kG 0
  have pG1 := at_cell kG 1
  have pG2 := at_cell kG 2
  have pG3 := at_cell kG 3
  have pG4 := at_cell kG 4
  go_wp2_with fail
  clear pG0 pG1 pG2 pG3 pG4
  have TG : Hid _ := own_not_box og kG (by decide)
  have TB : Hid _ := own_not_box og kB (by decide)
  refine (markBook_any (newName a0 a1) (newSize a0 a1) (.slice o1 0 c1) [] false 0 We.heap.size 1 _ (by omega) (by omega) (by simp) yE og).mono ?_
  rintro e wm ⟨rfl, om, b, hz, hh⟩
  replace kG := (hh _ sG TG.out).trans kG
  replace sG := Nat.lt_of_lt_of_le sG hz
  replace kB := (hh _ sB TB.out).trans kB
  replace sB := Nat.lt_of_lt_of_le sB hz
  replace d := d.trans (b.mono (by omega))
  clear og hh b yE hz
  have pG0 := at_cell kG 0
  have pG1 := at_cell kG 1
  have pG2 := at_cell kG 2
  have pG3 := at_cell kG 3
  have pG4 := at_cell kG 4
  go_wp2_with fail
  clear pG0 pG1 pG2 pG3 pG4
  refine (heldBook_any (newName a0 a1) (newSize a0 a1) (.slice o1 0 c1) 0 false 0 1 _ (by omega) (by omega) (by omega) (ReadsR.of_own runC_len om)).mono ?_
  rintro e wn ⟨rfl, b⟩
  replace d := bw_call d b
  replace kB := (b.block _ sB).trans kB
  replace sB := Nat.lt_of_lt_of_le sB b.size
  replace kG := (b.block _ sG).trans kG
  replace sG := Nat.lt_of_lt_of_le sG b.size
  replace om := owns_below om b
  clear b
  go_wp2_with fail
  refine (implNewBook_any a0 a1 _ HW0.out hsz).mono ?_
  rw [HFD.out]
  rintro e wp ⟨m2, rfl, oh, b⟩
  replace d := bw_call d b
  replace kB := (b.block _ sB).trans kB
  replace sB := Nat.lt_of_lt_of_le sB b.size
  replace kG := (b.block _ sG).trans kG
  replace sG := Nat.lt_of_lt_of_le sG b.size
  replace om := owns_below om b
  clear b
  obtain ⟨o2, c2, rfl⟩ := own_slice oh
  have b : Below wp.heap.size wp (wp.alloc (.cells #[.string (newName a0 a1), .int .i64 (newSize a0 a1), .slice o2 0 c2, .bool false, .int .i64 0] 43)) := bw_alloc (Below.refl _ _)
  have kH := heap_alloc_new wp (.cells #[.string (newName a0 a1), .int .i64 (newSize a0 a1), .slice o2 0 c2, .bool false, .int .i64 0] 43)
  have sH : wp.heap.size < (wp.alloc (.cells #[.string (newName a0 a1), .int .i64 (newSize a0 a1), .slice o2 0 c2, .bool false, .int .i64 0] 43)).heap.size := by simp
  replace d := bw_call d b
  replace kB := (b.block _ sB).trans kB
  replace sB := Nat.lt_of_lt_of_le sB b.size
  replace kG := (b.block _ sG).trans kG
  replace sG := Nat.lt_of_lt_of_le sG b.size
  replace om := owns_below om b
  replace oh := owns_below oh b
  clear b
  have pH0 := at_cell kH 0
  have pH1 := at_cell kH 1
  have pH2 := at_cell kH 2
  have pH3 := at_cell kH 3
  have pH4 := at_cell kH 4
  have pB0 := at_cell kB 0
  have pB1 := at_cell kB 1
  have pB2 := at_cell kB 2
  have pB3 := at_cell kB 3
  have pB4 := at_cell kB 4
  go_wp2_with fail
  clear pH0 pH1 pH2 pH3 pH4 pB0 pB1 pB2 pB3 pB4
  generalize wp.alloc (.cells #[.string (newName a0 a1), .int .i64 (newSize a0 a1), .slice o2 0 c2, .bool false, .int .i64 0] 43) = Wz at *
  refine (eqBook_same (newName a0 a1) (newSize a0 a1) (.slice o2 0 c2) (.slice none 0 0) [] false 0 _ (ReadsR.of_own (xs := []) runC_len oh) (ReadsR.nil _ _ _ _)).mono ?_
  rintro e wq ⟨rfl, b⟩
  replace d := bw_call d b
  replace kB := (b.block _ sB).trans kB
  replace sB := Nat.lt_of_lt_of_le sB b.size
  replace kG := (b.block _ sG).trans kG
  replace sG := Nat.lt_of_lt_of_le sG b.size
  replace om := owns_below om b
  replace oh := owns_below oh b
  replace kH := (b.block _ sH).trans kH
  replace sH := Nat.lt_of_lt_of_le sH b.size
  clear b
  have pG0 := at_cell kG 0
  have pG1 := at_cell kG 1
  have pG2 := at_cell kG 2
  have pG3 := at_cell kG 3
  have pG4 := at_cell kG 4
  go_wp2_with fail
  clear pG0 pG1 pG2 pG3 pG4
  refine (heldBook_any (newName a0 a1) (newSize a0 a1) (.slice o1 0 c1) 0 false 0 1 _ (by omega) (by omega) (by omega) (ReadsR.of_own runC_len om)).mono ?_
  rintro e wr ⟨rfl, b⟩
  replace d := bw_call d b
  replace kB := (b.block _ sB).trans kB
  replace sB := Nat.lt_of_lt_of_le sB b.size
  replace kG := (b.block _ sG).trans kG
  replace sG := Nat.lt_of_lt_of_le sG b.size
  replace om := owns_below om b
  replace oh := owns_below oh b
  replace kH := (b.block _ sH).trans kH
  replace sH := Nat.lt_of_lt_of_le sH b.size
  clear b
  go_wp2_with fail
  go_ret
  exact ⟨rfl, d⟩

set_option maxRecDepth 100000 in
theorem lifted (os : Os) (started : os.Started) (H : Type) (enc : TypeId × Value → H) :
    ReturnsInHanded {} Try.checked os 7 .any (Rows.fnExactNewBookSpec.pre6 enc Try.prog Try.f7 Rows.fnExactNewBookRow.domain false) (Rows.fnExactNewBookSpec.post enc Try.prog Try.f7 false true false false) := by
  refine returnsInHanded_of_change (C := Try.checked) own started (by kernel_rfl) Try.func7
    (ChangeSpec.witness6 (enc := enc) (C := Try.checked) false ⟨#[], #[.string ByteArray.empty, .int .i64 0], []⟩ 8 (by kernel_rfl) (by kernel_rfl) (by kernel_rfl) (by kernel_rfl)) ?_
  intro W base args ds gs before hval0 hW hcnd _
  have hval : ∀ (j : Nat) t v, Try.f7.params[j]? = some t → args[j]? = some v → Value.okWide Try.prog W .any base t v := hval0
  have hW' := hW
  obtain ⟨p, q, hA0, hV, rfl, hfz, hnd⟩ := hW
  have hA : DataW.TrodAll enc Try.prog W 0 (fun _ => true) true Try.f7.params.toList args.toList ds p := hA0
  rw [Try.params7] at hA hval
  obtain ⟨v0, vs0, d0, ds0, p0, q0, hargs, rfl, rfl, h0, rr0⟩ := trodAll_cons hA
  obtain ⟨v1, vs1, d1, ds1, p1, q1, rfl, rfl, rfl, h1, rr1⟩ := trodAll_cons rr0
  obtain ⟨rfl, rfl, rfl⟩ := trodAll_nil rr1
  obtain rfl : args = #[v0, v1] := by cases args; simp_all
  obtain ⟨rfl, rfl⟩ := trodVars_none hV
  have kk0 := h0
  have lt0 : ∀ x ∈ p0, x.block < W.heap.size := by obtain ⟨fuel, hfuel⟩ := kk0; exact DataW.trod_lt fuel _ _ _ hfuel
  obtain ⟨a0, rfl, w0⟩ := open_str (hval 0 9 v0 rfl rfl) h0
  have kk1 := h1
  have lt1 : ∀ x ∈ p1, x.block < W.heap.size := by obtain ⟨fuel, hfuel⟩ := kk1; exact DataW.trod_lt fuel _ _ _ hfuel
  obtain ⟨a1, rfl, w1⟩ := open_i64 (hval 1 2 v1 rfl rfl) h1
  clear hA0 hval0
  refine (walk a0 a1 W w0 w1).mono fun e W' ⟨he, bel⟩ => ?_
  subst he
  exact ⟨_, rfl, _, _, _, [], _, [], hW', trodAll_mk1 (shut_bool Try.underlying4 _), (trodAll_cons_mk (Below.trod laidOut (by kernel_rfl) (of_decide_eq_true (by kernel_rfl)) kk0 bel lt0) (trodAll_cons_mk (Below.trod laidOut (by kernel_rfl) (of_decide_eq_true (by kernel_rfl)) kk1 bel lt1) trodAll_mk0)), rfl, bel.frame _, fun h => by cases h⟩

theorem over : Rows.fnExactNewBookRow.holds Try.pinned (OpenSpec.ofChange Rows.fnExactNewBookSpec) :=
  OpenClaim.holds_of_wide 7 Try.f7 rfl rfl rfl rfl rfl rfl rfl ⟨rfl, rfl, rfl, rfl, rfl⟩ rfl rfl rfl rfl rfl (by kernel_rfl) Try.func7 (by kernel_rfl)
    (of_decide_eq_true (by kernel_rfl)) (by unfold Func.isWrapper; first | (rw [if_pos (by decide +kernel)]; kernel_rfl) | (rw [if_neg (by decide +kernel)]; exact ⟨rfl, rfl⟩))
    (fun os started H enc _ => lifted os started H enc)

theorem proved : Rows.FnExactNewBookSaid :=
  over
#print axioms proved
end Go.Proofs.Ytehjahegokeofaj.fnExactNewBook
