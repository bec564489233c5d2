/-
  The law FnExactFindBook answers true at every input that the row speaks of, and its arguments read afterwards as before; the walk goes over the callees' contracts.
-/
import Derived.Test.YtehjahegokeofakRows
import Derived.WalkKit
import Derived.ProofKit
import Derived.OpenShut
import Derived.ChangeOld
import Derived.Below
import Derived.Carry
import Derived.Test.YtehjahegokeofakArgs
import Derived.Test.YtehjahegokeofakArgsB
import Derived.Test.YtehjahegokeofakBook2
import Derived.Test.YtehjahegokeofakImBook4
import Derived.Test.YtehjahegokeofakBookRow2
namespace Go.Proofs.Ytehjahegokeofak.fnExactFindBook
open Go.ChangeShapes Go.WideShapes Go.ChangeAt Go.RowKit
set_option linter.unusedVariables false

theorem own : ownKnob Try.prog.godebug = none := by kernel_rfl
theorem laidOut : laidOutB Try.prog = true := by kernel_rfl

set_option maxHeartbeats 4000000 in
theorem walk (v0 : Value) (bs0 : List Bk) (a1 : ByteArray) (w : World) (w0 : ReadsB w.heap.size w v0 bs0) (z0 : ∀ b ∈ bs0, FitRuns b.rs ∧ b.nm.size ≤ maxLen) (w1 : a1.size ≤ maxLen) :
    Calls Try.prog 3 #[v0, .string a1] w fun e w' => e = .returned (.bool true) ∧ Below w.heap.size w w' := by
  have r0 := w0
  have y0 : w.heap.size ≤ w.heap.size := Nat.le_refl _
  have d : Below w.heap.size w w := Below.refl _ _
  obtain ⟨o0, c0, rfl⟩ := w0.row.form
  have HN : Hid (∀ b ∈ bs0, b.nm.size ≤ maxLen) := fun b hb => (z0 b hb).2
  have HW1 : Hid _ := w1
  unfold maxLen at w1
  clear w0 z0
  by_cases hbig : (1048576 : Int) < (a1.size : Int)
  · go_enter Try.func3, Try.ntmps3
    go_wp2_with fail
    go_ret
    exact ⟨rfl, d⟩
  go_enter Try.func3, Try.ntmps3
  go_wp2_with fail
  refine (szBooks_any _ bs0 1048576 _ (by omega) (by omega) HN.out (r0.mono y0)).mono ?_
  rintro e wb ⟨q, rfl, hq, b⟩
  replace d := bw_call d b
  replace r0 := r0.below (b.mono y0)
  replace y0 := Nat.le_trans y0 b.size
  clear b
  rcases hq with rfl | ⟨hq0, hq1, hl, hall⟩
  · go_wp2_with fail
    go_ret
    exact ⟨rfl, d⟩
  have HR : Hid (∀ b ∈ bs0, b.rs.length ≤ 1048576) := fun b hb => (hall b hb).2
  clear hall
  go_wp2_with fail
  refine (toBooks_any _ bs0 _ hl HR.out (r0.mono y0)).mono ?_
  rintro e wc ⟨ms, rfl, hp, ot, b⟩
  replace d := bw_call d b
  replace r0 := r0.below (b.mono y0)
  replace y0 := Nat.le_trans y0 b.size
  clear b
  have HP : Hid _ := hp
  clear hp
  go_wp2_with fail
  refine (specFindBook_any _ ms a1 _ ot.reads.row).mono ?_
  rintro e wd ⟨rfl, hw⟩
  rw [plain_find HP.out a1]
  subst hw
  obtain ⟨nv, hnv⟩ : ∃ x, findB bs0 a1 = x := ⟨_, rfl⟩
  have HFD : Hid (findB bs0 a1 = nv) := hnv
  rw [hnv]
  clear hnv ot HP
  go_wp2_with fail
  refine (toBooks_any _ bs0 _ hl HR.out (r0.mono y0)).mono ?_
  rintro e wf ⟨xs, rfl, hp, ox, b⟩
  replace d := bw_call d b
  replace r0 := r0.below (b.mono y0)
  replace y0 := Nat.le_trans y0 b.size
  clear b
  have HP : Hid _ := hp
  have HF : Hid (∀ b ∈ xs, ∃ o k cap, b.m = .slice o k cap) := fun b hb => by obtain ⟨o, cap, h⟩ := own_slice (ox.maps b hb); exact ⟨o, _, cap, h⟩
  clear hp
  go_wp2_with fail
  refine (implFindBook_any _ xs a1 _ HF.out ox.reads.row).mono ?_
  rintro e wg ⟨rfl, b⟩
  rw [plain_find HP.out a1, HFD.out]
  replace d := bw_call d b
  replace r0 := r0.below (b.mono y0)
  replace y0 := Nat.le_trans y0 b.size
  replace ox := ox.below b
  clear b
  go_wp2_with fail
  refine (toBooks_any _ bs0 _ hl HR.out (r0.mono y0)).mono ?_
  rintro e wh ⟨ys, rfl, hp2, oy, b⟩
  replace d := bw_call d b
  replace r0 := r0.below (b.mono y0)
  replace y0 := Nat.le_trans y0 b.size
  replace ox := ox.below b
  clear b
  have HP2 : Hid _ := hp2
  clear hp2
  go_wp2_with fail
  refine (eqBooks_same _ _ xs ys _ (HP2.out.trans HP.out.symm) ox.reads oy.reads).mono ?_
  rintro e wi ⟨rfl, b⟩
  replace d := bw_call d b
  replace r0 := r0.below (b.mono y0)
  replace y0 := Nat.le_trans y0 b.size
  replace ox := ox.below b
  clear b
  go_wp2_with fail
  go_ret
  exact ⟨rfl, d⟩

set_option maxRecDepth 100000 in
theorem lifted (os : Os) (started : os.Started) (H : Type) (enc : TypeId × Value → H) :
    ReturnsInHanded {} Try.checked os 3 .any (Rows.fnExactFindBookSpec.pre6 enc Try.prog Try.f3 Rows.fnExactFindBookRow.domain false) (Rows.fnExactFindBookSpec.post enc Try.prog Try.f3 false true false false) := by
  refine returnsInHanded_of_change (C := Try.checked) own started (by kernel_rfl) Try.func3
    (ChangeSpec.witness6 (enc := enc) (C := Try.checked) false ⟨#[], #[.slice none 0 0, .string ByteArray.empty], []⟩ 8 (by kernel_rfl) (by kernel_rfl) (by kernel_rfl) (by kernel_rfl)) ?_
  intro W base args ds gs before hval0 hW hcnd _
  have hval : ∀ (j : Nat) t v, Try.f3.params[j]? = some t → args[j]? = some v → Value.okWide Try.prog W .any base t v := hval0
  have hW' := hW
  obtain ⟨p, q, hA0, hV, rfl, hfz, hnd⟩ := hW
  have hA : DataW.TrodAll enc Try.prog W 0 (fun _ => true) true Try.f3.params.toList args.toList ds p := hA0
  rw [Try.params3] at hA hval
  obtain ⟨v0, vs0, d0, ds0, p0, q0, hargs, rfl, rfl, h0, rr0⟩ := trodAll_cons hA
  obtain ⟨v1, vs1, d1, ds1, p1, q1, rfl, rfl, rfl, h1, rr1⟩ := trodAll_cons rr0
  obtain ⟨rfl, rfl, rfl⟩ := trodAll_nil rr1
  obtain rfl : args = #[v0, v1] := by cases args; simp_all
  obtain ⟨rfl, rfl⟩ := trodVars_none hV
  have kk0 := h0
  have lt0 : ∀ x ∈ p0, x.block < W.heap.size := by obtain ⟨fuel, hfuel⟩ := kk0; exact DataW.trod_lt fuel _ _ _ hfuel
  obtain ⟨bs0, w0, z0⟩ := open_books (hval 0 22 v0 rfl rfl) h0
  have kk1 := h1
  have lt1 : ∀ x ∈ p1, x.block < W.heap.size := by obtain ⟨fuel, hfuel⟩ := kk1; exact DataW.trod_lt fuel _ _ _ hfuel
  obtain ⟨a1, rfl, w1⟩ := open_str (hval 1 9 v1 rfl rfl) h1
  clear hA0 hval0
  refine (walk v0 bs0 a1 W w0 z0 w1).mono fun e W' ⟨he, bel⟩ => ?_
  subst he
  exact ⟨_, rfl, _, _, _, [], _, [], hW', trodAll_mk1 (shut_bool Try.underlying4 _), (trodAll_cons_mk (Below.trod laidOut (by kernel_rfl) (of_decide_eq_true (by kernel_rfl)) kk0 bel lt0) (trodAll_cons_mk (Below.trod laidOut (by kernel_rfl) (of_decide_eq_true (by kernel_rfl)) kk1 bel lt1) trodAll_mk0)), rfl, bel.frame _, fun h => by cases h⟩

theorem over : Rows.fnExactFindBookRow.holds Try.pinned (OpenSpec.ofChange Rows.fnExactFindBookSpec) :=
  OpenClaim.holds_of_wide 3 Try.f3 rfl rfl rfl rfl rfl rfl rfl ⟨rfl, rfl, rfl, rfl, rfl⟩ rfl rfl rfl rfl rfl (by kernel_rfl) Try.func3 (by kernel_rfl)
    (of_decide_eq_true (by kernel_rfl)) (by unfold Func.isWrapper; first | (rw [if_pos (by decide +kernel)]; kernel_rfl) | (rw [if_neg (by decide +kernel)]; exact ⟨rfl, rfl⟩))
    (fun os started H enc _ => lifted os started H enc)

theorem proved : Rows.FnExactFindBookSaid :=
  over
#print axioms proved
end Go.Proofs.Ytehjahegokeofak.fnExactFindBook
