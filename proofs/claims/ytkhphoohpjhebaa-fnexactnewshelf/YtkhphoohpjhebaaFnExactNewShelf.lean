/-
  The law FnExactNewShelf answers true at every input that the row speaks of, and its arguments read afterwards as before; the walk goes over the callees' contracts.
-/
import Derived.Test.YtkhphoohpjhebaaRows
import Derived.WalkKit
import Derived.ProofKit
import Derived.OpenShut
import Derived.ChangeOld
import Derived.Below
import Derived.Carry
import Derived.Test.YtkhphoohpjhebaaM01
import Derived.Test.YtkhphoohpjhebaaM03
import Derived.Test.YtkhphoohpjhebaaM05
import Derived.Test.YtkhphoohpjhebaaM08
namespace Go.Proofs.Ytkhphoohpjhebaa.fnExactNewShelf
open Go.ChangeShapes Go.WideShapes Go.ChangeAt Go.RowKit
set_option linter.unusedVariables false

theorem own : ownKnob Try.prog.godebug = none := by kernel_rfl
theorem laidOut : laidOutB Try.prog = true := by kernel_rfl

set_option maxHeartbeats 4000000 in
theorem walk (a0 : Int) (w : World) (w0 : (Lit.int .i64 a0).wf = true) :
    Calls Try.prog 4 #[.int .i64 a0] w fun e w' => e = .returned (.bool true) ∧ Below w.heap.size w w' := by
  have d : Below w.heap.size w w := Below.refl _ _
  go_enter Try.func4, Try.ntmps4
  go_wp2_with fail
  have hlen := newPool_len a0
  obtain ⟨⟨⟨ncs, nps⟩, nv⟩, hfd⟩ : ∃ fd, newPool a0 = fd := ⟨_, rfl⟩
  have HFD : Hid (newPool a0 = ((ncs, nps), nv)) := hfd
  refine (specNewShelf_any a0 _).mono ?_
  rw [hfd] at hlen ⊢
  clear hfd
  simp only at hlen ⊢
  have hlens : ncs.length ≤ 1048576 ∧ nps.length ≤ 1048576 := by omega
  obtain ⟨hlncs, hlnps⟩ := hlens
  clear hlen
  rintro e wd ⟨s1, s2, rfl, os, b⟩
  replace d := bw_call d b
  clear b
  have cD := d.size
  have sr := os.reads
  have ys : wd.heap.size ≤ wd.heap.size := Nat.le_refl _
  obtain ⟨os1, cs1, os2, cs2, rfl, rfl⟩ := os.forms
  clear os
  have b : Below wd.heap.size wd (wd.alloc (.cells #[.slice os1 ncs.length cs1, .slice os2 nps.length cs2, .slice none 0 0] 33)) := bw_alloc (Below.refl _ _)
  have kB := heap_alloc_new wd (.cells #[.slice os1 ncs.length cs1, .slice os2 nps.length cs2, .slice none 0 0] 33)
  have sB : wd.heap.size < (wd.alloc (.cells #[.slice os1 ncs.length cs1, .slice os2 nps.length cs2, .slice none 0 0] 33)).heap.size := by simp
  replace d := bw_call d b
  replace sr := sr.below (b.mono ys)
  replace ys := Nat.le_trans ys b.size
  clear b
  go_wp2_with fail
  generalize wd.alloc (.cells #[.slice os1 ncs.length cs1, .slice os2 nps.length cs2, .slice none 0 0] 33) = We at *
  have cX2 : wd.heap.size < We.heap.size := sB
  refine (implNewShelf_any a0 _).mono ?_
  rw [HFD.out]
  simp only
  rintro e wg ⟨g1, g2, gb, rfl, opp, obb, b⟩
  have cG1 := b.size
  have og : OwnS _ _ _ _ _ _ _ _ := ⟨opp, obb, List.Pairwise.nil⟩
  clear opp obb
  replace d := bw_call d b
  replace sr := sr.below (b.mono ys)
  replace ys := Nat.le_trans ys b.size
  replace kB := (b.block _ sB).trans kB
  replace sB := Nat.lt_of_lt_of_le sB b.size
  clear b
  have TG : Hid _ := og.span
  obtain ⟨og1, cga, og2, cgb, ogb, cgc, rfl, rfl, rfl⟩ := og.forms
  have b : Below wg.heap.size wg (wg.alloc (.cells #[.slice og1 ncs.length cga, .slice og2 nps.length cgb, .slice ogb 0 cgc] 33)) := bw_alloc (Below.refl _ _)
  have kG := heap_alloc_new wg (.cells #[.slice og1 ncs.length cga, .slice og2 nps.length cgb, .slice ogb 0 cgc] 33)
  have sG : wg.heap.size < (wg.alloc (.cells #[.slice og1 ncs.length cga, .slice og2 nps.length cgb, .slice ogb 0 cgc] 33)).heap.size := by simp
  replace d := bw_call d b
  replace sr := sr.below (b.mono ys)
  replace ys := Nat.le_trans ys b.size
  replace kB := (b.block _ sB).trans kB
  replace sB := Nat.lt_of_lt_of_le sB b.size
  replace og := og.below b
  clear b
  have pG0 := at_cell kG 0
  have pG1 := at_cell kG 1
  have pG2 := at_cell kG 2
  have pB0 := at_cell kB 0
  have pB1 := at_cell kB 1
  have pB2 := at_cell kB 2
  go_wp2_with fail
  clear pG0 pG1 pG2
  clear pB0 pB1 pB2
  generalize wg.alloc (.cells #[.slice og1 ncs.length cga, .slice og2 nps.length cgb, .slice ogb 0 cgc] 33) = Wy at *
  have cG2 : wg.heap.size < Wy.heap.size := sG
  refine (eqShelf_same _ _ _ _ _ _ ncs nps [] [] _ rfl og.reads ⟨sr.mono ys, readsB_nil _ _⟩).mono ?_
  rintro e wh ⟨rfl, b⟩
  replace d := bw_call d b
  replace sr := sr.below (b.mono ys)
  replace ys := Nat.le_trans ys b.size
  replace kB := (b.block _ sB).trans kB
  replace sB := Nat.lt_of_lt_of_le sB b.size
  replace og := og.below b
  replace kG := (b.block _ sG).trans kG
  replace sG := Nat.lt_of_lt_of_le sG b.size
  clear b
  have pG0 := at_cell kG 0
  have pG1 := at_cell kG 1
  have pG2 := at_cell kG 2
  go_wp2_with fail
  clear pG0 pG1 pG2
  have hE : shelfE 1 ncs nps [] = 1 + (ncs.length : Int) + (nps.length : Int) := rfl
  have HE : Hid _ := hE
  have hE2 : shelfE 1 ncs nps [] ≤ 1073741824 := by omega
  clear hE
  refine (markShelf_any _ _ _ ncs nps [] We.heap.size wg.heap.size 1 _ (by omega) hlncs hlnps hE2 (fun b hb => by cases hb) og TG.out.1 TG.out.2.1 (fun b hb => by cases hb) (by omega) (by omega)).mono ?_
  rintro e wm ⟨rfl, ogm, b⟩
  clear og
  replace d := d.trans (b.toBelow (by omega) (by omega))
  replace sr := sr.below (b.toBelow ys (by omega))
  replace ys := Nat.le_trans ys b.size
  replace kB := (b.block _ sB (by omega)).trans kB
  replace sB := Nat.lt_of_lt_of_le sB b.size
  replace kG := (b.block _ sG (by omega)).trans kG
  replace sG := Nat.lt_of_lt_of_le sG b.size
  clear b
  have hposn : 0 ≤ shelfE 1 ncs nps [] := by rw [HE.out]; omega
  generalize hsE : shelfE 1 ncs nps [] = sE at *
  have HSE : Hid (shelfE 1 ncs nps [] = sE) := hsE
  clear hsE
  have pG0 := at_cell kG 0
  have pG1 := at_cell kG 1
  have pG2 := at_cell kG 2
  go_wp2_with fail
  clear pG0 pG1 pG2
  refine (heldShelf_any _ _ _ ncs nps [] 1 _ (by omega) hlncs hlnps (by rw [HSE.out]; exact hE2) (fun b hb => by cases hb) ogm.reads).mono ?_
  rw [HSE.out]
  rintro e wn ⟨rfl, b⟩
  replace d := bw_call d b
  replace sr := sr.below (b.mono ys)
  replace ys := Nat.le_trans ys b.size
  replace kB := (b.block _ sB).trans kB
  replace sB := Nat.lt_of_lt_of_le sB b.size
  replace kG := (b.block _ sG).trans kG
  replace sG := Nat.lt_of_lt_of_le sG b.size
  replace ogm := ogm.below b
  clear b
  go_wp2_with fail
  refine (implNewShelf_any a0 _).mono ?_
  rw [HFD.out]
  simp only
  rintro e wp ⟨h1, h2, hb, rfl, opp, obb, b⟩
  have cH1 := b.size
  have oh : OwnS _ _ _ _ _ _ _ _ := ⟨opp, obb, List.Pairwise.nil⟩
  clear opp obb
  replace d := bw_call d b
  replace sr := sr.below (b.mono ys)
  replace ys := Nat.le_trans ys b.size
  replace kB := (b.block _ sB).trans kB
  replace sB := Nat.lt_of_lt_of_le sB b.size
  replace kG := (b.block _ sG).trans kG
  replace sG := Nat.lt_of_lt_of_le sG b.size
  replace ogm := ogm.below b
  clear b
  have TH : Hid _ := oh.span
  obtain ⟨oh1, cha, oh2, chb, ohb, chc, rfl, rfl, rfl⟩ := oh.forms
  have b : Below wp.heap.size wp (wp.alloc (.cells #[.slice oh1 ncs.length cha, .slice oh2 nps.length chb, .slice ohb 0 chc] 33)) := bw_alloc (Below.refl _ _)
  have kH := heap_alloc_new wp (.cells #[.slice oh1 ncs.length cha, .slice oh2 nps.length chb, .slice ohb 0 chc] 33)
  have sH : wp.heap.size < (wp.alloc (.cells #[.slice oh1 ncs.length cha, .slice oh2 nps.length chb, .slice ohb 0 chc] 33)).heap.size := by simp
  replace d := bw_call d b
  replace sr := sr.below (b.mono ys)
  replace ys := Nat.le_trans ys b.size
  replace kB := (b.block _ sB).trans kB
  replace sB := Nat.lt_of_lt_of_le sB b.size
  replace kG := (b.block _ sG).trans kG
  replace sG := Nat.lt_of_lt_of_le sG b.size
  replace ogm := ogm.below b
  replace oh := oh.below b
  clear b
  have pH0 := at_cell kH 0
  have pH1 := at_cell kH 1
  have pH2 := at_cell kH 2
  have pB0 := at_cell kB 0
  have pB1 := at_cell kB 1
  have pB2 := at_cell kB 2
  go_wp2_with fail
  clear pH0 pH1 pH2
  clear pB0 pB1 pB2
  generalize wp.alloc (.cells #[.slice oh1 ncs.length cha, .slice oh2 nps.length chb, .slice ohb 0 chc] 33) = Wz at *
  refine (eqShelf_same _ _ _ _ _ _ ncs nps [] [] _ rfl oh.reads ⟨sr.mono ys, readsB_nil _ _⟩).mono ?_
  rintro e wq ⟨rfl, b⟩
  replace d := bw_call d b
  replace sr := sr.below (b.mono ys)
  replace ys := Nat.le_trans ys b.size
  replace kB := (b.block _ sB).trans kB
  replace sB := Nat.lt_of_lt_of_le sB b.size
  replace kG := (b.block _ sG).trans kG
  replace sG := Nat.lt_of_lt_of_le sG b.size
  replace ogm := ogm.below b
  replace oh := oh.below b
  replace kH := (b.block _ sH).trans kH
  replace sH := Nat.lt_of_lt_of_le sH b.size
  clear b
  have pG0 := at_cell kG 0
  have pG1 := at_cell kG 1
  have pG2 := at_cell kG 2
  go_wp2_with fail
  clear pG0 pG1 pG2
  refine (heldShelf_any _ _ _ ncs nps [] 1 _ (by omega) hlncs hlnps (by rw [HSE.out]; exact hE2) (fun b hb => by cases hb) ogm.reads).mono ?_
  rw [HSE.out]
  rintro e wr ⟨rfl, b⟩
  replace d := bw_call d b
  replace sr := sr.below (b.mono ys)
  replace ys := Nat.le_trans ys b.size
  replace kB := (b.block _ sB).trans kB
  replace sB := Nat.lt_of_lt_of_le sB b.size
  replace kG := (b.block _ sG).trans kG
  replace sG := Nat.lt_of_lt_of_le sG b.size
  replace ogm := ogm.below b
  replace oh := oh.below b
  replace kH := (b.block _ sH).trans kH
  replace sH := Nat.lt_of_lt_of_le sH b.size
  clear b
  go_wp2_with fail
  go_ret
  exact ⟨rfl, d⟩

set_option maxRecDepth 100000 in
theorem lifted (os : Os) (started : os.Started) (H : Type) (enc : TypeId × Value → H) :
    ReturnsInHanded {} Try.checked os 4 .any (Rows.fnExactNewShelfSpec.pre6 enc Try.prog Try.f4 Rows.fnExactNewShelfRow.domain false) (Rows.fnExactNewShelfSpec.post enc Try.prog Try.f4 false true false false) := by
  refine returnsInHanded_of_change (C := Try.checked) own started (by kernel_rfl) Try.func4
    (ChangeSpec.witness6 (enc := enc) (C := Try.checked) false ⟨#[], #[.int .i64 0], []⟩ 8 (by kernel_rfl) (by kernel_rfl) (by kernel_rfl) (by kernel_rfl)) ?_
  intro W base args ds gs before hval0 hW hcnd _
  have hval : ∀ (j : Nat) t v, Try.f4.params[j]? = some t → args[j]? = some v → Value.okWide Try.prog W .any base t v := hval0
  have hW' := hW
  obtain ⟨p, q, hA0, hV, rfl, hfz, hnd⟩ := hW
  have hA : DataW.TrodAll enc Try.prog W 0 (fun _ => true) true Try.f4.params.toList args.toList ds p := hA0
  rw [Try.params4] at hA hval
  obtain ⟨v0, vs0, d0, ds0, p0, q0, hargs, rfl, rfl, h0, rr0⟩ := trodAll_cons hA
  obtain ⟨rfl, rfl, rfl⟩ := trodAll_nil rr0
  obtain rfl : args = #[v0] := by cases args; simp_all
  obtain ⟨rfl, rfl⟩ := trodVars_none hV
  have kk0 := h0
  have lt0 : ∀ x ∈ p0, x.block < W.heap.size := by obtain ⟨fuel, hfuel⟩ := kk0; exact DataW.trod_lt fuel _ _ _ hfuel
  obtain ⟨a0, rfl, w0⟩ := open_i64 (hval 0 2 v0 rfl rfl) h0
  clear hA0 hval0
  refine (walk a0 W w0).mono fun e W' ⟨he, bel⟩ => ?_
  subst he
  exact ⟨_, rfl, _, _, _, [], _, [], hW', trodAll_mk1 (shut_bool Try.underlying4 _), (trodAll_cons_mk (Below.trod laidOut (by kernel_rfl) (of_decide_eq_true (by kernel_rfl)) kk0 bel lt0) trodAll_mk0), rfl, bel.frame _, fun h => by cases h⟩

theorem over : Rows.fnExactNewShelfRow.holds Try.pinned (OpenSpec.ofChange Rows.fnExactNewShelfSpec) :=
  OpenClaim.holds_of_wide 4 Try.f4 rfl rfl rfl rfl rfl rfl rfl ⟨rfl, rfl, rfl, rfl, rfl⟩ rfl rfl rfl rfl rfl (by kernel_rfl) Try.func4 (by kernel_rfl)
    (of_decide_eq_true (by kernel_rfl)) (by unfold Func.isWrapper; first | (rw [if_pos (by decide +kernel)]; kernel_rfl) | (rw [if_neg (by decide +kernel)]; exact ⟨rfl, rfl⟩))
    (fun os started H enc _ => lifted os started H enc)

theorem proved : Rows.FnExactNewShelfSaid :=
  over
#print axioms proved
end Go.Proofs.Ytkhphoohpjhebaa.fnExactNewShelf
