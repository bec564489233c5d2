/-
  The law FnExactNewMemo answers true at every input that the row speaks of, and its arguments read afterwards as before; the walk goes over the callees' contracts.
-/
import Derived.Test.YtpmoefagpglddaaRows
import Derived.WalkKit
import Derived.Below
import Derived.ProofKit
import Derived.OpenShut
import Derived.ShutString
import Derived.Test.YtpmoefagpglddaaM04
import Derived.Test.YtpmoefagpglddaaM07
namespace Go.Proofs.Ytpmoefagpglddaa.fnExactNewMemo
open Go.ChangeShapes Go.WideShapes Go.ChangeAt Go.RowKit
open Go.ChangeMaps (open_string shut_string)
set_option linter.unusedVariables false

theorem own : ownKnob Try.prog.godebug = none := by kernel_rfl

set_option maxRecDepth 100000 in
set_option maxHeartbeats 8000000 in
theorem walk  (w : World) :
    Calls Try.prog 5 #[] w fun e w' => e = .returned (.bool true) ∧ Below w.heap.size w w' := by
  have d : Below w.heap.size w w := Below.refl _ _
  go_enter Try.func5, Try.ntmps5
  go_wp2_with fail
  have hlen := newM_len
  obtain ⟨⟨nts, nrs⟩, hfd⟩ : ∃ fd, newM = fd := ⟨_, rfl⟩
  have HFD : Hid (newM = (nts, nrs)) := hfd
  refine (specNewMemoM_any _).mono ?_
  rw [hfd] at hlen ⊢
  clear hfd
  simp only at hlen ⊢
  have hlens : nts.length ≤ 1048576 ∧ nrs.length ≤ 1048576 := by omega
  obtain ⟨hlnts, hlnrs⟩ := hlens
  clear hlen
  rintro e wd ⟨s1, s2, rfl, os, b⟩
  replace d := bw_call d b
  clear b
  have cD := d.size
  have sr := os.reads
  have ys : wd.heap.size ≤ wd.heap.size := Nat.le_refl _
  obtain ⟨os1, cs1, os2, cs2, rfl, rfl⟩ := os.forms
  clear os
  have b : Below wd.heap.size wd (wd.alloc (.cells #[.slice os1 nts.length cs1, .slice os2 nrs.length cs2] 27)) := bw_alloc (Below.refl _ _)
  have kB := heap_alloc_new wd (.cells #[.slice os1 nts.length cs1, .slice os2 nrs.length cs2] 27)
  have sB : wd.heap.size < (wd.alloc (.cells #[.slice os1 nts.length cs1, .slice os2 nrs.length cs2] 27)).heap.size := by simp
  replace d := bw_call d b
  replace sr := sr.below (b.mono ys)
  replace ys := Nat.le_trans ys b.size
  clear b
  go_wp2_with fail
  generalize wd.alloc (.cells #[.slice os1 nts.length cs1, .slice os2 nrs.length cs2] 27) = We at *
  have cX2 : wd.heap.size < We.heap.size := sB
  refine (implNewMemoM_any _).mono ?_
  rw [HFD.out]
  simp only
  rintro e wg ⟨g1, g2, rfl, og, b⟩
  have cG1 := b.size
  replace d := bw_call d b
  replace sr := sr.below (b.mono ys)
  replace ys := Nat.le_trans ys b.size
  replace kB := (b.block _ sB).trans kB
  replace sB := Nat.lt_of_lt_of_le sB b.size
  clear b
  have TG : Hid _ := og.span
  obtain ⟨og1, cg1, og2, cg2, rfl, rfl⟩ := og.forms
  have b : Below wg.heap.size wg (wg.alloc (.cells #[.slice og1 nts.length cg1, .slice og2 nrs.length cg2] 27)) := bw_alloc (Below.refl _ _)
  have kG := heap_alloc_new wg (.cells #[.slice og1 nts.length cg1, .slice og2 nrs.length cg2] 27)
  have sG : wg.heap.size < (wg.alloc (.cells #[.slice og1 nts.length cg1, .slice og2 nrs.length cg2] 27)).heap.size := by simp
  replace d := bw_call d b
  replace sr := sr.below (b.mono ys)
  replace ys := Nat.le_trans ys b.size
  replace kB := (b.block _ sB).trans kB
  replace sB := Nat.lt_of_lt_of_le sB b.size
  replace og := og.below b
  clear b
  have pG0 := at_cell kG 0
  have pB0 := at_cell kB 0
  have pG1 := at_cell kG 1
  have pB1 := at_cell kB 1
  go_wp2_with fail
  clear pG0 pG1 pB0 pB1
  generalize wg.alloc (.cells #[.slice og1 nts.length cg1, .slice og2 nrs.length cg2] 27) = Wy at *
  have cG2 : wg.heap.size < Wy.heap.size := sG
  refine (eqMemo_any (.slice og1 nts.length cg1) (.slice og2 nrs.length cg2) (.slice os1 nts.length cs1) (.slice os2 nrs.length cs2) nts nrs nts nrs _ og.reads (sr.mono ys)).mono ?_
  rintro e wh ⟨rfl, b⟩
  rw [show (decide (nts = nts) && decide (nrs = nrs)) = true by simp]
  replace d := bw_call d b
  replace sr := sr.below (b.mono ys)
  replace ys := Nat.le_trans ys b.size
  replace kB := (b.block _ sB).trans kB
  replace sB := Nat.lt_of_lt_of_le sB b.size
  replace og := og.below b
  replace kG := (b.block _ sG).trans kG
  replace sG := Nat.lt_of_lt_of_le sG b.size
  clear b
  have pG0 := at_cell kG 0
  have pG1 := at_cell kG 1
  go_wp2_with fail
  clear pG0 pG1
  refine (markMemo_any (.slice og1 nts.length cg1) (.slice og2 nrs.length cg2) nts nrs We.heap.size wg.heap.size 1 _ (by omega) hlnts hlnrs (by omega) og TG.out (by omega) (by omega)).mono ?_
  rintro e wm ⟨rfl, ogm, b⟩
  clear og
  replace d := d.trans (b.toBelow (by omega) (by omega))
  replace sr := sr.below (b.toBelow ys (by omega))
  replace ys := Nat.le_trans ys b.size
  replace kB := (b.block _ sB (by omega)).trans kB
  replace sB := Nat.lt_of_lt_of_le sB b.size
  replace kG := (b.block _ sG (by omega)).trans kG
  replace sG := Nat.lt_of_lt_of_le sG b.size
  clear b
  have hposn : 0 ≤ 1 + (nts.length : Int) + (nrs.length : Int) := by omega
  have pG0 := at_cell kG 0
  have pG1 := at_cell kG 1
  go_wp2_with fail
  clear pG0 pG1
  refine (heldMemo_any (.slice og1 nts.length cg1) (.slice og2 nrs.length cg2) nts.length nrs.length 1 _ (by omega) (by omega) hlnts hlnrs ogm.reads).mono ?_
  rintro e wn ⟨rfl, b⟩
  replace d := bw_call d b
  replace sr := sr.below (b.mono ys)
  replace ys := Nat.le_trans ys b.size
  replace kB := (b.block _ sB).trans kB
  replace sB := Nat.lt_of_lt_of_le sB b.size
  replace kG := (b.block _ sG).trans kG
  replace sG := Nat.lt_of_lt_of_le sG b.size
  replace ogm := ogm.below b
  clear b
  go_wp2_with fail
  refine (implNewMemoM_any _).mono ?_
  rw [HFD.out]
  simp only
  rintro e wp ⟨h1, h2, rfl, oh, b⟩
  replace d := bw_call d b
  replace sr := sr.below (b.mono ys)
  replace ys := Nat.le_trans ys b.size
  replace kB := (b.block _ sB).trans kB
  replace sB := Nat.lt_of_lt_of_le sB b.size
  replace kG := (b.block _ sG).trans kG
  replace sG := Nat.lt_of_lt_of_le sG b.size
  replace ogm := ogm.below b
  clear b
  obtain ⟨oh1, ch1, oh2, ch2, rfl, rfl⟩ := oh.forms
  have b : Below wp.heap.size wp (wp.alloc (.cells #[.slice oh1 nts.length ch1, .slice oh2 nrs.length ch2] 27)) := bw_alloc (Below.refl _ _)
  have kH := heap_alloc_new wp (.cells #[.slice oh1 nts.length ch1, .slice oh2 nrs.length ch2] 27)
  have sH : wp.heap.size < (wp.alloc (.cells #[.slice oh1 nts.length ch1, .slice oh2 nrs.length ch2] 27)).heap.size := by simp
  replace d := bw_call d b
  replace sr := sr.below (b.mono ys)
  replace ys := Nat.le_trans ys b.size
  replace kB := (b.block _ sB).trans kB
  replace sB := Nat.lt_of_lt_of_le sB b.size
  replace kG := (b.block _ sG).trans kG
  replace sG := Nat.lt_of_lt_of_le sG b.size
  replace ogm := ogm.below b
  replace oh := oh.below b
  clear b
  have pH0 := at_cell kH 0
  have pB0 := at_cell kB 0
  have pH1 := at_cell kH 1
  have pB1 := at_cell kB 1
  go_wp2_with fail
  clear pH0 pH1 pB0 pB1
  generalize wp.alloc (.cells #[.slice oh1 nts.length ch1, .slice oh2 nrs.length ch2] 27) = Wz at *
  refine (eqMemo_any (.slice oh1 nts.length ch1) (.slice oh2 nrs.length ch2) (.slice os1 nts.length cs1) (.slice os2 nrs.length cs2) nts nrs nts nrs _ oh.reads (sr.mono ys)).mono ?_
  rintro e wq ⟨rfl, b⟩
  rw [show (decide (nts = nts) && decide (nrs = nrs)) = true by simp]
  replace d := bw_call d b
  replace sr := sr.below (b.mono ys)
  replace ys := Nat.le_trans ys b.size
  replace kB := (b.block _ sB).trans kB
  replace sB := Nat.lt_of_lt_of_le sB b.size
  replace kG := (b.block _ sG).trans kG
  replace sG := Nat.lt_of_lt_of_le sG b.size
  replace ogm := ogm.below b
  replace oh := oh.below b
  replace kH := (b.block _ sH).trans kH
  replace sH := Nat.lt_of_lt_of_le sH b.size
  clear b
  have pG0 := at_cell kG 0
  have pG1 := at_cell kG 1
  go_wp2_with fail
  clear pG0 pG1
  refine (heldMemo_any (.slice og1 nts.length cg1) (.slice og2 nrs.length cg2) nts.length nrs.length 1 _ (by omega) (by omega) hlnts hlnrs ogm.reads).mono ?_
  rintro e wr ⟨rfl, b⟩
  replace d := bw_call d b
  replace sr := sr.below (b.mono ys)
  replace ys := Nat.le_trans ys b.size
  replace kB := (b.block _ sB).trans kB
  replace sB := Nat.lt_of_lt_of_le sB b.size
  replace kG := (b.block _ sG).trans kG
  replace sG := Nat.lt_of_lt_of_le sG b.size
  replace ogm := ogm.below b
  replace oh := oh.below b
  replace kH := (b.block _ sH).trans kH
  replace sH := Nat.lt_of_lt_of_le sH b.size
  clear b
  go_wp2_with fail
  go_ret
  exact ⟨rfl, d⟩

set_option maxRecDepth 100000 in
theorem lifted (os : Os) (started : os.Started) (H : Type) (enc : TypeId × Value → H) :
    ReturnsInHanded {} Try.checked os 5 .any (Rows.fnExactNewMemoSpec.pre6 enc Try.prog Try.f5 Rows.fnExactNewMemoRow.domain false) (Rows.fnExactNewMemoSpec.post enc Try.prog Try.f5 false true false false) := by
  refine returnsInHanded_of_change (C := Try.checked) own started (by kernel_rfl) Try.func5
    (ChangeSpec.witness6 (enc := enc) (C := Try.checked) false ⟨#[], #[], []⟩ 8 (by kernel_rfl) (by kernel_rfl) (by kernel_rfl) (by kernel_rfl)) ?_
  intro W base args ds gs before hval0 hW hcnd _
  have hval : ∀ (j : Nat) t v, Try.f5.params[j]? = some t → args[j]? = some v → Value.okWide Try.prog W .any base t v := hval0
  have hW' := hW
  obtain ⟨p, q, hA0, hV, rfl, hfz, hnd⟩ := hW
  have hA : DataW.TrodAll enc Try.prog W 0 (fun _ => true) true Try.f5.params.toList args.toList ds p := hA0
  rw [Try.params5] at hA hval
  obtain ⟨rfl, rfl, rfl⟩ := trodAll_none hA
  obtain ⟨rfl, rfl⟩ := trodVars_none hV
  clear hA0 hval0
  simp only [List.append_nil] at hW'
  refine (walk  W).mono fun e W' ⟨he, hg⟩ => ?_
  subst he
  exact ⟨_, rfl, _, _, _, [], [], [], hW', (trodAll_cons_mk (shut_bool Try.underlying4 _) trodAll_mk0), rfl, rfl, hg.frame _, fun h => by cases h⟩

theorem over : Rows.fnExactNewMemoRow.holds Try.pinned (OpenSpec.ofChange Rows.fnExactNewMemoSpec) :=
  OpenClaim.holds_of_wide 5 Try.f5 rfl rfl rfl rfl rfl rfl rfl ⟨rfl, rfl, rfl, rfl, rfl⟩ rfl rfl rfl rfl rfl (by kernel_rfl) Try.func5 (by kernel_rfl)
    (of_decide_eq_true (by kernel_rfl)) (by unfold Func.isWrapper; first | (rw [if_pos (by decide +kernel)]; kernel_rfl) | (rw [if_neg (by decide +kernel)]; exact ⟨rfl, rfl⟩))
    (fun os started H enc _ => lifted os started H enc)

theorem proved : Rows.FnExactNewMemoSaid :=
  over
#print axioms proved
end Go.Proofs.Ytpmoefagpglddaa.fnExactNewMemo
