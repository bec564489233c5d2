/-
  The law FnExactBookOk answers true at every input that the row speaks of, and its arguments read afterwards as before; the walk goes over the callees' contracts.
-/
import Derived.Test.YtehjahegokeofajRows
import Derived.WalkKit
import Derived.ProofKit
import Derived.OpenShut
import Derived.ChangeOld
import Derived.Below
import Derived.Carry
import Derived.Test.YtehjahegokeofajArgs
import Derived.Test.YtehjahegokeofajArgsB
import Derived.Test.YtehjahegokeofajBook1
import Derived.Test.YtehjahegokeofajImBook1
import Derived.Test.YtehjahegokeofajBookLaw
namespace Go.Proofs.Ytehjahegokeofaj.fnExactBookOk
open Go.ChangeShapes Go.WideShapes Go.ChangeAt Go.RowKit
set_option linter.unusedVariables false

theorem own : ownKnob Try.prog.godebug = none := by kernel_rfl
theorem laidOut : laidOutB Try.prog = true := by kernel_rfl

set_option maxHeartbeats 4000000 in
theorem walk (bn0 : ByteArray) (bs0 : Int) (bm0 : Value) (xs0 : List (Int × Int × Int)) (bf0 : Bool) (be0 : Int) (w : World) (w0 : ReadsR 3 runC w.heap.size w bm0 xs0) (z0 : FitRuns xs0) (u0 : bn0.size ≤ maxLen) :
    Calls Try.prog 6 #[.agg #[.string bn0, .int .i64 bs0, bm0, .bool bf0, .int .i64 be0]] w fun e w' => e = .returned (.bool true) ∧ Below w.heap.size w w' := by
  obtain ⟨o0, c0, rfl⟩ := w0.form
  have r0 := w0
  clear w0
  obtain ⟨WA, hWA, kA0, d, zA⟩ := box1 w #[.string bn0, .int .i64 bs0, .slice o0 xs0.length c0, .bool bf0, .int .i64 be0] 39
  have sA0 : w.heap.size < WA.heap.size := by omega
  have y0 := d.size
  replace r0 := r0.below d
  have HWA : Hid (WA = _) := hWA
  clear hWA zA
  go_enter Try.func6, Try.ntmps6
  go_wp2_with fail
  rw [← HWA.out]
  clear HWA
  refine (szBook_any bn0 bs0 _ xs0 bf0 be0 1048576 _ u0 (by omega) (by omega) (r0.mono y0)).mono ?_
  rintro e wb0 ⟨q0, rfl, hq, b⟩
  replace d := bw_call d b
  replace kA0 := (b.block _ sA0).trans kA0
  replace sA0 := Nat.lt_of_lt_of_le sA0 b.size
  replace r0 := r0.below (b.mono y0)
  replace y0 := Nat.le_trans y0 b.size
  clear b
  rcases hq with rfl | ⟨hq00, hq10, hbn0, hbr0⟩
  · go_wp2_with fail
    go_ret
    exact ⟨rfl, d⟩
  obtain ⟨nv, hnv⟩ : ∃ x, bookOk bn0 bs0 xs0 be0 = x := ⟨_, rfl⟩
  have HFD : Hid (bookOk bn0 bs0 xs0 be0 = nv) := hnv
  clear hnv
  have pA00 := at_cell kA0 0
  have pA01 := at_cell kA0 1
  have pA02 := at_cell kA0 2
  have pA03 := at_cell kA0 3
  have pA04 := at_cell kA0 4
  go_wp2_with fail
  clear pA00 pA01 pA02 pA03 pA04
  refine (toBook_any bn0 bs0 _ xs0 bf0 be0 _ hbr0 (r0.mono y0)).mono ?_
  rintro e wc ⟨gt, rfl, ot, b⟩
  replace d := bw_call d b
  replace kA0 := (b.block _ sA0).trans kA0
  replace sA0 := Nat.lt_of_lt_of_le sA0 b.size
  replace r0 := r0.below (b.mono y0)
  replace y0 := Nat.le_trans y0 b.size
  clear b
  go_wp2_with fail
  refine (specBookOk_any bn0 bs0 _ xs0 bf0 be0 _ u0 (ReadsR.of_own runC_len ot)).mono ?_
  rw [HFD.out]
  rintro e wd ⟨rfl, b⟩
  replace d := bw_call d b
  replace kA0 := (b.block _ sA0).trans kA0
  replace sA0 := Nat.lt_of_lt_of_le sA0 b.size
  replace r0 := r0.below (b.mono y0)
  replace y0 := Nat.le_trans y0 b.size
  clear b
  clear ot
  have pA00 := at_cell kA0 0
  have pA01 := at_cell kA0 1
  have pA02 := at_cell kA0 2
  have pA03 := at_cell kA0 3
  have pA04 := at_cell kA0 4
  go_wp2_with fail
  clear pA00 pA01 pA02 pA03 pA04
  refine (toBook_any bn0 bs0 _ xs0 bf0 be0 _ hbr0 (r0.mono y0)).mono ?_
  rintro e wf0 ⟨gx0, rfl, ox0, b⟩
  replace d := bw_call d b
  replace kA0 := (b.block _ sA0).trans kA0
  replace sA0 := Nat.lt_of_lt_of_le sA0 b.size
  replace r0 := r0.below (b.mono y0)
  replace y0 := Nat.le_trans y0 b.size
  clear b
  have b : Below wf0.heap.size wf0 (wf0.alloc (.cells #[.string bn0, .int .i64 bs0, .slice (some ⟨gx0, 0, none⟩) xs0.length xs0.length, .bool bf0, .int .i64 be0] 43)) := bw_alloc (Below.refl _ _)
  have kX0 := heap_alloc_new wf0 (.cells #[.string bn0, .int .i64 bs0, .slice (some ⟨gx0, 0, none⟩) xs0.length xs0.length, .bool bf0, .int .i64 be0] 43)
  have sX0 : wf0.heap.size < (wf0.alloc (.cells #[.string bn0, .int .i64 bs0, .slice (some ⟨gx0, 0, none⟩) xs0.length xs0.length, .bool bf0, .int .i64 be0] 43)).heap.size := by simp
  replace d := bw_call d b
  replace kA0 := (b.block _ sA0).trans kA0
  replace sA0 := Nat.lt_of_lt_of_le sA0 b.size
  replace r0 := r0.below (b.mono y0)
  replace y0 := Nat.le_trans y0 b.size
  replace ox0 := owns_below ox0 b
  clear b
  have pX00 := at_cell kX0 0
  have pX01 := at_cell kX0 1
  have pX02 := at_cell kX0 2
  have pX03 := at_cell kX0 3
  have pX04 := at_cell kX0 4
  go_wp2_with fail
  clear pX00 pX01 pX02 pX03 pX04
  generalize wf0.alloc (.cells #[.string bn0, .int .i64 bs0, .slice (some ⟨gx0, 0, none⟩) xs0.length xs0.length, .bool bf0, .int .i64 be0] 43) = Wx0 at *
  refine (implBookOk_any bn0 bs0 _ xs0 bf0 be0 _ u0 z0 (ReadsR.of_own runC_len ox0)).mono ?_
  rw [HFD.out]
  rintro e wg ⟨rfl, b⟩
  replace d := bw_call d b
  replace kA0 := (b.block _ sA0).trans kA0
  replace sA0 := Nat.lt_of_lt_of_le sA0 b.size
  replace r0 := r0.below (b.mono y0)
  replace y0 := Nat.le_trans y0 b.size
  replace ox0 := owns_below ox0 b
  replace kX0 := (b.block _ sX0).trans kX0
  replace sX0 := Nat.lt_of_lt_of_le sX0 b.size
  clear b
  go_wp2_with fail
  have S0 : wg.drew.cell? ⟨wf0.heap.size, 0, none⟩ = some (.string bn0) ∧ wg.drew.cell? ⟨wf0.heap.size, 1, none⟩ = some (.int .i64 bs0) ∧ wg.drew.cell? ⟨wf0.heap.size, 2, none⟩ = some (.slice (some ⟨gx0, 0, none⟩) xs0.length xs0.length) ∧ wg.drew.cell? ⟨wf0.heap.size, 3, none⟩ = some (.bool bf0) ∧ wg.drew.cell? ⟨wf0.heap.size, 4, none⟩ = some (.int .i64 be0) ∧ wg.drew.cell? ⟨w.heap.size, 0, none⟩ = some (.string bn0) ∧ wg.drew.cell? ⟨w.heap.size, 1, none⟩ = some (.int .i64 bs0) ∧ wg.drew.cell? ⟨w.heap.size, 2, none⟩ = some (.slice o0 xs0.length c0) ∧ wg.drew.cell? ⟨w.heap.size, 3, none⟩ = some (.bool bf0) ∧ wg.drew.cell? ⟨w.heap.size, 4, none⟩ = some (.int .i64 be0) := ⟨at_cell kX0 0, at_cell kX0 1, at_cell kX0 2, at_cell kX0 3, at_cell kX0 4, at_cell kA0 0, at_cell kA0 1, at_cell kA0 2, at_cell kA0 3, at_cell kA0 4⟩
  have RA : ReadsR 3 runC wg.drew.heap.size wg.drew (.slice o0 xs0.length c0) xs0 := (r0.mono y0).below ((Below.refl _ _).drew)
  have OX := owns_below (w' := wg.drew) ox0 ((Below.refl _ _).drew)
  go_region_held3 (fun w' => w'.cell? ⟨wf0.heap.size, 0, none⟩ = some (.string bn0) ∧ w'.cell? ⟨wf0.heap.size, 1, none⟩ = some (.int .i64 bs0) ∧ w'.cell? ⟨wf0.heap.size, 2, none⟩ = some (.slice (some ⟨gx0, 0, none⟩) xs0.length xs0.length) ∧ w'.cell? ⟨wf0.heap.size, 3, none⟩ = some (.bool bf0) ∧ w'.cell? ⟨wf0.heap.size, 4, none⟩ = some (.int .i64 be0) ∧ w'.cell? ⟨w.heap.size, 0, none⟩ = some (.string bn0) ∧ w'.cell? ⟨w.heap.size, 1, none⟩ = some (.int .i64 bs0) ∧ w'.cell? ⟨w.heap.size, 2, none⟩ = some (.slice o0 xs0.length c0) ∧ w'.cell? ⟨w.heap.size, 3, none⟩ = some (.bool bf0) ∧ w'.cell? ⟨w.heap.size, 4, none⟩ = some (.int .i64 be0))
    ((first | exact S0 | exact S1 | exact S2))
    ((first | (go_at_call 25; refine (toBook_any bn0 bs0 _ xs0 bf0 be0 _ hbr0 RA).mono ?_; rintro e wi ⟨gt, rfl, ot, bi⟩; have kXi := (bi.block _ (show _ < wg.heap.size from sX0)).trans kX0; have kAi := (bi.block _ (show _ < wg.heap.size from sA0)).trans kA0; have S1 := And.intro (at_cell kXi 0) (And.intro (at_cell kXi 1) (And.intro (at_cell kXi 2) (And.intro (at_cell kXi 3) (And.intro (at_cell kXi 4) (And.intro (at_cell kAi 0) (And.intro (at_cell kAi 1) (And.intro (at_cell kAi 2) (And.intro (at_cell kAi 3) (at_cell kAi 4))))))))); have OXi := owns_below OX bi) | (go_at_call 27; refine (eqBook_same bn0 bs0 _ _ xs0 bf0 be0 _ (ReadsR.of_own runC_len OXi) (ReadsR.of_own runC_len ot)).mono ?_; rintro e wj0 ⟨rfl, bj⟩; have kXj := (bj.block _ (heap_lt kXi)).trans kXi; have kAj := (bj.block _ (heap_lt kAi)).trans kAi; have S2 := And.intro (at_cell kXj 0) (And.intro (at_cell kXj 1) (And.intro (at_cell kXj 2) (And.intro (at_cell kXj 3) (And.intro (at_cell kXj 4) (And.intro (at_cell kAj 0) (And.intro (at_cell kAj 1) (And.intro (at_cell kAj 2) (And.intro (at_cell kAj 3) (at_cell kAj 4))))))))))))
  have b : Below wg.heap.size wg wj0 := bw_call (bw_call (bw_drew (Below.refl _ _)) bi) bj
  clear S0 S1 S2 RA OX OXi kXi kAi kXj kAj ot bi bj
  replace d := bw_call d b
  replace kA0 := (b.block _ sA0).trans kA0
  replace sA0 := Nat.lt_of_lt_of_le sA0 b.size
  replace r0 := r0.below (b.mono y0)
  replace y0 := Nat.le_trans y0 b.size
  replace ox0 := owns_below ox0 b
  replace kX0 := (b.block _ sX0).trans kX0
  replace sX0 := Nat.lt_of_lt_of_le sX0 b.size
  clear b
  go_wp2_with fail
  go_ret
  exact ⟨rfl, d⟩

set_option maxRecDepth 100000 in
theorem lifted (os : Os) (started : os.Started) (H : Type) (enc : TypeId × Value → H) :
    ReturnsInHanded {} Try.checked os 6 .any (Rows.fnExactBookOkSpec.pre6 enc Try.prog Try.f6 Rows.fnExactBookOkRow.domain false) (Rows.fnExactBookOkSpec.post enc Try.prog Try.f6 false true false false) := by
  refine returnsInHanded_of_change (C := Try.checked) own started (by kernel_rfl) Try.func6
    (ChangeSpec.witness6 (enc := enc) (C := Try.checked) false ⟨#[], #[.agg #[.string ByteArray.empty, .int .i64 0, .slice none 0 0, .bool false, .int .i64 0]], []⟩ 8 (by kernel_rfl) (by kernel_rfl) (by kernel_rfl) (by kernel_rfl)) ?_
  intro W base args ds gs before hval0 hW hcnd _
  have hval : ∀ (j : Nat) t v, Try.f6.params[j]? = some t → args[j]? = some v → Value.okWide Try.prog W .any base t v := hval0
  have hW' := hW
  obtain ⟨p, q, hA0, hV, rfl, hfz, hnd⟩ := hW
  have hA : DataW.TrodAll enc Try.prog W 0 (fun _ => true) true Try.f6.params.toList args.toList ds p := hA0
  rw [Try.params6] at hA hval
  obtain ⟨v0, vs0, d0, ds0, p0, q0, hargs, rfl, rfl, h0, rr0⟩ := trodAll_cons hA
  obtain ⟨rfl, rfl, rfl⟩ := trodAll_nil rr0
  obtain rfl : args = #[v0] := by cases args; simp_all
  obtain ⟨rfl, rfl⟩ := trodVars_none hV
  have kk0 := h0
  have lt0 : ∀ x ∈ p0, x.block < W.heap.size := by obtain ⟨fuel, hfuel⟩ := kk0; exact DataW.trod_lt fuel _ _ _ hfuel
  obtain ⟨bn0, bs0, bm0, xs0, bf0, be0, rfl, w0, z0, u0⟩ := open_book (hval 0 39 v0 rfl rfl) h0
  clear hA0 hval0
  refine (walk bn0 bs0 bm0 xs0 bf0 be0 W w0 z0 u0).mono fun e W' ⟨he, bel⟩ => ?_
  subst he
  exact ⟨_, rfl, _, _, _, [], _, [], hW', trodAll_mk1 (shut_bool Try.underlying4 _), (trodAll_cons_mk (Below.trod laidOut (by kernel_rfl) (of_decide_eq_true (by kernel_rfl)) kk0 bel lt0) trodAll_mk0), rfl, bel.frame _, fun h => by cases h⟩

theorem over : Rows.fnExactBookOkRow.holds Try.pinned (OpenSpec.ofChange Rows.fnExactBookOkSpec) :=
  OpenClaim.holds_of_wide 6 Try.f6 rfl rfl rfl rfl rfl rfl rfl ⟨rfl, rfl, rfl, rfl, rfl⟩ rfl rfl rfl rfl rfl (by kernel_rfl) Try.func6 (by kernel_rfl)
    (of_decide_eq_true (by kernel_rfl)) (by unfold Func.isWrapper; first | (rw [if_pos (by decide +kernel)]; kernel_rfl) | (rw [if_neg (by decide +kernel)]; exact ⟨rfl, rfl⟩))
    (fun os started H enc _ => lifted os started H enc)

theorem proved : Rows.FnExactBookOkSaid :=
  over
#print axioms proved
end Go.Proofs.Ytehjahegokeofaj.fnExactBookOk
