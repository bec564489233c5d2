/-
  The law FnExactShownPlain answers true at every input that the row speaks of, and its arguments read afterwards as before; the walk goes over the callees' contracts.
-/
import Derived.Test.YtkjdfgjmkomcgaaRows
import Derived.WalkKit
import Derived.ProofKit
import Derived.OpenShut
import Derived.ChangeOld
import Derived.Below
import Derived.Carry
import Derived.Test.YtkjdfgjmkomcgaaM01
import Derived.Test.YtkjdfgjmkomcgaaM02
import Derived.Test.YtkjdfgjmkomcgaaM04
import Derived.Test.YtkjdfgjmkomcgaaM05
import Derived.Test.YtkjdfgjmkomcgaaM10
namespace Go.Proofs.Ytkjdfgjmkomcgaa.fnExactShownPlain
open Go.ChangeShapes Go.WideShapes Go.ChangeAt Go.RowKit
set_option linter.unusedVariables false

theorem own : ownKnob Try.prog.godebug = none := by kernel_rfl
theorem laidOut : laidOutB Try.prog = true := by kernel_rfl

set_option maxHeartbeats 4000000 in
theorem walk (v0a v0b v0c : Value) (cs0 ps0 : List Int) (bs0 : List Bk) (w : World) (w0 : RS w.heap.size w v0a v0b v0c cs0 ps0 bs0) (z0 : ∀ b ∈ bs0, FitRuns b.rs ∧ b.nm.size ≤ maxLen) :
    Calls Try.prog 5 #[.agg #[v0a, v0b, v0c]] w fun e w' => e = .returned (.bool true) ∧ Below w.heap.size w w' := by
  have r0 := w0
  obtain ⟨WA, hWA, kA, d, zA⟩ := box1 w #[v0a, v0b, v0c] 57
  have sA : w.heap.size < WA.heap.size := by omega
  have y0 := d.size
  replace r0 := r0.below d
  have HWA : Hid (WA = _) := hWA
  have HN : Hid (∀ b ∈ bs0, b.nm.size ≤ maxLen) := fun b hb => (z0 b hb).2
  have HF : Hid (∀ b ∈ bs0, FitRuns b.rs) := fun b hb => (z0 b hb).1
  clear hWA zA w0 z0
  go_enter Try.func5, Try.ntmps5
  go_wp2_with fail
  rw [← HWA.out]
  clear HWA
  refine (szShelf2_any v0a v0b v0c cs0 ps0 bs0 1048576 _ (by omega) (by omega) HN.out (r0.mono y0)).mono ?_
  rintro e wb ⟨q, rfl, hq, b⟩
  replace d := bw_call d b
  replace kA := (b.block _ sA).trans kA
  replace sA := Nat.lt_of_lt_of_le sA b.size
  replace r0 := r0.below (b.mono y0)
  replace y0 := Nat.le_trans y0 b.size
  clear b
  rcases hq with rfl | ⟨hq0, hq1, hbc, hbp, hbb, hball, htot⟩
  · go_wp2_with fail
    go_ret
    exact ⟨rfl, d⟩
  have HR : Hid (∀ b ∈ bs0, b.rs.length ≤ 1048576) := fun b hb => (hball b hb).2
  clear hball
  have pA0 := at_cell kA 0
  have pA1 := at_cell kA 1
  have pA2 := at_cell kA 2
  go_wp2_with fail
  clear pA0 pA1 pA2
  refine (toShelf_any v0a v0b v0c cs0 ps0 bs0 _ hbc hbp hbb HR.out (r0.mono y0)).mono ?_
  rintro e wc ⟨t1, t2, tb, ts, rfl, hpt, ot, b⟩
  replace d := bw_call d b
  replace kA := (b.block _ sA).trans kA
  replace sA := Nat.lt_of_lt_of_le sA b.size
  replace r0 := r0.below (b.mono y0)
  replace y0 := Nat.le_trans y0 b.size
  clear b
  have HPT : Hid _ := hpt
  clear hpt
  go_wp2_with fail
  refine (specShownPlain_any t1 t2 tb cs0 ps0 ts _ (plain_all (fun nm _ => nm.size ≤ maxLen) HPT.out HN.out) ot.reads.p.c ot.reads.p.p ot.reads.b).mono ?_
  rw [pb_of_plain HPT.out]
  rintro e wd ⟨vw, msw, rfl, hmw, oww, b⟩
  replace d := bw_call d b
  replace kA := (b.block _ sA).trans kA
  replace sA := Nat.lt_of_lt_of_le sA b.size
  replace r0 := r0.below (b.mono y0)
  replace y0 := Nat.le_trans y0 b.size
  clear b
  have HMW : Hid (msw.map Pk.pv = shownPlain ⟨cs0, ps0, bs0.map Bk.pb⟩) := hmw
  obtain ⟨owo, owc, rfl⟩ := own_slice oww.row
  have rww := oww.reads
  have yww : wd.heap.size ≤ wd.heap.size := Nat.le_refl _
  clear ot oww hmw
  have pA0 := at_cell kA 0
  have pA1 := at_cell kA 1
  have pA2 := at_cell kA 2
  go_wp2_with fail
  clear pA0 pA1 pA2
  have cX1 : w.heap.size < wd.heap.size := sA
  refine (toShelf_any v0a v0b v0c cs0 ps0 bs0 _ hbc hbp hbb HR.out (r0.mono y0)).mono ?_
  rintro e wf ⟨x1, x2, xb, xs, rfl, hpx, ox, b⟩
  have cX3 := b.size
  replace d := bw_call d b
  replace kA := (b.block _ sA).trans kA
  replace sA := Nat.lt_of_lt_of_le sA b.size
  replace r0 := r0.below (b.mono y0)
  replace y0 := Nat.le_trans y0 b.size
  replace rww := rww.below (b.mono yww)
  replace yww := Nat.le_trans yww b.size
  clear b
  have HPX : Hid _ := hpx
  clear hpx
  obtain ⟨ox1, cx1, ox2, cx2, oxb, cxb, rfl, rfl, rfl⟩ := ox.forms
  have TX : Hid _ := ox.span
  have b : Below wf.heap.size wf (wf.alloc (.cells #[.slice ox1 cs0.length cx1, .slice ox2 ps0.length cx2, .slice oxb xs.length cxb] 29)) := bw_alloc (Below.refl _ _)
  have kX := heap_alloc_new wf (.cells #[.slice ox1 cs0.length cx1, .slice ox2 ps0.length cx2, .slice oxb xs.length cxb] 29)
  have sX : wf.heap.size < (wf.alloc (.cells #[.slice ox1 cs0.length cx1, .slice ox2 ps0.length cx2, .slice oxb xs.length cxb] 29)).heap.size := by simp
  replace d := bw_call d b
  replace kA := (b.block _ sA).trans kA
  replace sA := Nat.lt_of_lt_of_le sA b.size
  replace r0 := r0.below (b.mono y0)
  replace y0 := Nat.le_trans y0 b.size
  replace rww := rww.below (b.mono yww)
  replace yww := Nat.le_trans yww b.size
  replace ox := ox.below b
  clear b
  have HNX : Hid (∀ b ∈ xs, b.nm.size ≤ maxLen) := plain_all (fun nm _ => nm.size ≤ maxLen) HPX.out HN.out
  have HFX : Hid (∀ b ∈ xs, FitRuns b.rs) := plain_all (fun _ rs => FitRuns rs) HPX.out HF.out
  have pX0 := at_cell kX 0
  have pX1 := at_cell kX 1
  have pX2 := at_cell kX 2
  go_wp2_with fail
  clear pX0 pX1 pX2
  generalize wf.alloc (.cells #[.slice ox1 cs0.length cx1, .slice ox2 ps0.length cx2, .slice oxb xs.length cxb] 29) = Wx at *
  have cX4 : wf.heap.size < Wx.heap.size := sX
  refine (implShownPlain_any wd.heap.size _ _ _ cs0 ps0 xs _ HNX.out HFX.out ox).mono ?_
  rw [pb_of_plain HPX.out]
  rintro e wg ⟨gg, gc, msg, rfl, hmg, og, apg, b⟩
  have cG1 := b.size
  replace d := bw_call d b
  replace kA := (b.block _ sA).trans kA
  replace sA := Nat.lt_of_lt_of_le sA b.size
  replace r0 := r0.below (b.mono y0)
  replace y0 := Nat.le_trans y0 b.size
  replace rww := rww.below (b.mono yww)
  replace yww := Nat.le_trans yww b.size
  replace ox := ox.below b
  replace kX := (b.block _ sX).trans kX
  replace sX := Nat.lt_of_lt_of_le sX b.size
  clear b
  have HMG : Hid (msg.map Pk.pv = shownPlain ⟨cs0, ps0, bs0.map Bk.pb⟩) := hmg
  have HAP : Hid (ApartK msg) := apg
  clear hmg apg
  have HGW : Hid (msw.map bareK = msg.map bareK) := bare_of_pv (HMW.out.trans HMG.out.symm)
  go_wp2_with fail
  refine (eqPlains_same _ _ msg msw _ HGW.out og.reads (rww.mono yww)).mono ?_
  rintro e wh ⟨rfl, b⟩
  replace d := bw_call d b
  replace kA := (b.block _ sA).trans kA
  replace sA := Nat.lt_of_lt_of_le sA b.size
  replace r0 := r0.below (b.mono y0)
  replace y0 := Nat.le_trans y0 b.size
  replace rww := rww.below (b.mono yww)
  replace yww := Nat.le_trans yww b.size
  replace ox := ox.below b
  replace kX := (b.block _ sX).trans kX
  replace sX := Nat.lt_of_lt_of_le sX b.size
  replace cG1 := Nat.le_trans cG1 b.size
  replace og := og.below b
  clear b
  go_wp2_with fail
  have S0 : wh.drew.cell? ⟨wf.heap.size, 0, none⟩ = some (.slice ox1 cs0.length cx1) ∧ wh.drew.cell? ⟨wf.heap.size, 1, none⟩ = some (.slice ox2 ps0.length cx2) ∧ wh.drew.cell? ⟨wf.heap.size, 2, none⟩ = some (.slice oxb xs.length cxb) ∧ wh.drew.cell? ⟨w.heap.size, 0, none⟩ = some (v0a) ∧ wh.drew.cell? ⟨w.heap.size, 1, none⟩ = some (v0b) ∧ wh.drew.cell? ⟨w.heap.size, 2, none⟩ = some (v0c) := ⟨at_cell kX 0, at_cell kX 1, at_cell kX 2, at_cell kA 0, at_cell kA 1, at_cell kA 2⟩
  have RA : RS wh.drew.heap.size wh.drew v0a v0b v0c cs0 ps0 bs0 := (r0.mono y0).below ((Below.refl _ _).drew)
  have OX := ox.below (w' := wh.drew) ((Below.refl _ _).drew)
  go_region_held3 (fun w' => w'.cell? ⟨wf.heap.size, 0, none⟩ = some (.slice ox1 cs0.length cx1) ∧ w'.cell? ⟨wf.heap.size, 1, none⟩ = some (.slice ox2 ps0.length cx2) ∧ w'.cell? ⟨wf.heap.size, 2, none⟩ = some (.slice oxb xs.length cxb) ∧ w'.cell? ⟨w.heap.size, 0, none⟩ = some (v0a) ∧ w'.cell? ⟨w.heap.size, 1, none⟩ = some (v0b) ∧ w'.cell? ⟨w.heap.size, 2, none⟩ = some (v0c))
    ((first | exact S0 | exact S1 | exact S2))
    ((first | (go_at_call 21; refine (toShelf_any v0a v0b v0c cs0 ps0 bs0 _ hbc hbp hbb HR.out RA).mono ?_; rintro e wi ⟨t1, t2, tb, ts, rfl, hpt, ot, bi⟩; have kXi := (bi.block _ (show _ < wh.heap.size from sX)).trans kX; have kAi := (bi.block _ (show _ < wh.heap.size from sA)).trans kA; have S1 := And.intro (at_cell kXi 0) (And.intro (at_cell kXi 1) (And.intro (at_cell kXi 2) (And.intro (at_cell kAi 0) (And.intro (at_cell kAi 1) (at_cell kAi 2))))); have OXi := OX.below bi) | (go_at_call 22; refine (eqShelf_same _ _ _ _ _ _ cs0 ps0 xs ts _ (hpt.trans HPX.out.symm) OXi.reads ot.reads).mono ?_; rintro e wj ⟨rfl, bj⟩; have kXj := (bj.block _ (heap_lt kXi)).trans kXi; have kAj := (bj.block _ (heap_lt kAi)).trans kAi; have S2 := And.intro (at_cell kXj 0) (And.intro (at_cell kXj 1) (And.intro (at_cell kXj 2) (And.intro (at_cell kAj 0) (And.intro (at_cell kAj 1) (at_cell kAj 2))))))))
  have b : Below wh.heap.size wh wj := bw_call (bw_call (bw_drew (Below.refl _ _)) bi) bj
  clear S0 S1 S2 RA OX OXi kXi kAi kXj kAj hpt ot bi bj
  replace d := bw_call d b
  replace kA := (b.block _ sA).trans kA
  replace sA := Nat.lt_of_lt_of_le sA b.size
  replace r0 := r0.below (b.mono y0)
  replace y0 := Nat.le_trans y0 b.size
  replace rww := rww.below (b.mono yww)
  replace yww := Nat.le_trans yww b.size
  replace ox := ox.below b
  replace kX := (b.block _ sX).trans kX
  replace sX := Nat.lt_of_lt_of_le sX b.size
  replace cG1 := Nat.le_trans cG1 b.size
  replace og := og.below b
  clear b
  have pX0 := at_cell kX 0
  have pX1 := at_cell kX 1
  have pX2 := at_cell kX 2
  go_wp2_with fail
  clear pX0 pX1 pX2
  have hE2 : shelfE 1 cs0 ps0 xs ≤ 1073741824 := by rw [shelfE, marksE_tot, tot_plain HPX.out, plain_len HPX.out]; omega
  have hposE : 0 ≤ shelfE 1 cs0 ps0 xs := by rw [shelfE, marksE_tot]; omega
  refine (markShelf_any _ _ _ cs0 ps0 xs wd.heap.size wf.heap.size 1 _ (by omega) hbc hbp hE2 (plain_all (fun _ rs => rs.length ≤ 1048576) HPX.out HR.out) ox TX.out.1 TX.out.2.1 TX.out.2.2 (by omega) (by omega)).mono ?_
  rintro e wk ⟨rfl, _, b⟩
  clear ox kX sX
  replace d := d.trans (b.toBelow (by omega) (by omega))
  replace kA := (b.block _ sA (by omega)).trans kA
  replace sA := Nat.lt_of_lt_of_le sA b.size
  replace r0 := r0.below (b.toBelow y0 (by omega))
  replace y0 := Nat.le_trans y0 b.size
  replace rww := rww.below (b.toBelow yww (by omega))
  replace yww := Nat.le_trans yww b.size
  replace cG1 := Nat.le_trans cG1 b.size
  replace og := og.rng b (by omega)
  clear b
  clear hE2
  generalize shelfE 1 cs0 ps0 xs = sE at *
  go_wp2_with fail
  refine (eqPlains_same _ _ msg msw _ HGW.out og.reads (rww.mono yww)).mono ?_
  rintro e wl ⟨rfl, b⟩
  replace d := bw_call d b
  replace kA := (b.block _ sA).trans kA
  replace sA := Nat.lt_of_lt_of_le sA b.size
  replace r0 := r0.below (b.mono y0)
  replace y0 := Nat.le_trans y0 b.size
  replace rww := rww.below (b.mono yww)
  replace yww := Nat.le_trans yww b.size
  replace cG1 := Nat.le_trans cG1 b.size
  replace og := og.below b
  clear b
  have HBN : Hid (∀ b ∈ msg, b.rs.length ≤ 1048576) := (shown_bounds HMG.out).1
  have hM2 : marksEK 1 msg ≤ 1073741824 := (shown_bounds HMG.out).2
  have hposM : 0 ≤ marksEK 1 msg := Int.le_trans (by omega) (marksEK_ge msg 1)
  go_wp2_with fail
  refine (markPlainsO_any _ msg Wx.heap.size 1 _ (by omega) hM2 HBN.out og HAP.out cG1).mono ?_
  rintro e wm ⟨rfl, ogm, hm1, hm2, hm3, hm4, hm5⟩
  have b := marked_base og cG1 ⟨hm1, hm2, hm3, hm4, hm5⟩
  clear hm1 hm2 hm3 hm4 hm5
  clear og
  replace d := d.trans (b.mono (by omega))
  replace kA := (b.block _ (by omega)).trans kA
  replace sA := Nat.lt_of_lt_of_le sA b.size
  replace r0 := r0.below (b.mono (by omega))
  replace y0 := Nat.le_trans y0 b.size
  replace rww := rww.below (b.mono (by omega))
  replace yww := Nat.le_trans yww b.size
  replace cG1 := Nat.le_trans cG1 b.size
  clear b
  generalize hmE : marksEK 1 msg = mE at *
  have HME : Hid (marksEK 1 msg = mE) := hmE
  clear hmE
  have hselfm : (mE != mE) = false := by simp
  go_wp2_with fail
  refine (heldPlains_any _ msg 1 _ (by omega) (by rw [HME.out]; exact hM2) HBN.out ogm.reads).mono ?_
  rw [HME.out]
  rintro e wn ⟨rfl, b⟩
  replace d := bw_call d b
  replace kA := (b.block _ sA).trans kA
  replace sA := Nat.lt_of_lt_of_le sA b.size
  replace r0 := r0.below (b.mono y0)
  replace y0 := Nat.le_trans y0 b.size
  replace rww := rww.below (b.mono yww)
  replace yww := Nat.le_trans yww b.size
  replace cG1 := Nat.le_trans cG1 b.size
  replace ogm := ogm.below b
  clear b
  have pA0 := at_cell kA 0
  have pA1 := at_cell kA 1
  have pA2 := at_cell kA 2
  go_wp2_with fail
  clear pA0 pA1 pA2
  refine (toShelf_any v0a v0b v0c cs0 ps0 bs0 _ hbc hbp hbb HR.out (r0.mono y0)).mono ?_
  rintro e wp ⟨h1, h2, hbx, hs, rfl, hph, oh, b⟩
  replace d := bw_call d b
  replace kA := (b.block _ sA).trans kA
  replace sA := Nat.lt_of_lt_of_le sA b.size
  replace r0 := r0.below (b.mono y0)
  replace y0 := Nat.le_trans y0 b.size
  replace rww := rww.below (b.mono yww)
  replace yww := Nat.le_trans yww b.size
  replace cG1 := Nat.le_trans cG1 b.size
  replace ogm := ogm.below b
  clear b
  have HPH : Hid _ := hph
  clear hph
  go_wp2_with fail
  refine (implShownPlain_any _ _ _ _ cs0 ps0 hs _ (plain_all (fun nm _ => nm.size ≤ maxLen) HPH.out HN.out) (plain_all (fun _ rs => FitRuns rs) HPH.out HF.out) oh).mono ?_
  rw [pb_of_plain HPH.out]
  rintro e wq ⟨g2, c2, msh, rfl, hmh, oh2, -, b⟩
  replace d := bw_call d b
  replace kA := (b.block _ sA).trans kA
  replace sA := Nat.lt_of_lt_of_le sA b.size
  replace r0 := r0.below (b.mono y0)
  replace y0 := Nat.le_trans y0 b.size
  replace rww := rww.below (b.mono yww)
  replace yww := Nat.le_trans yww b.size
  replace cG1 := Nat.le_trans cG1 b.size
  replace ogm := ogm.below b
  clear b
  have HHW : Hid (msw.map bareK = msh.map bareK) := bare_of_pv (HMW.out.trans hmh.symm)
  clear hmh oh
  go_wp2_with fail
  refine (eqPlains_same _ _ msh msw _ HHW.out oh2.reads (rww.mono yww)).mono ?_
  rintro e wr2 ⟨rfl, b⟩
  replace d := bw_call d b
  replace kA := (b.block _ sA).trans kA
  replace sA := Nat.lt_of_lt_of_le sA b.size
  replace r0 := r0.below (b.mono y0)
  replace y0 := Nat.le_trans y0 b.size
  replace rww := rww.below (b.mono yww)
  replace yww := Nat.le_trans yww b.size
  replace cG1 := Nat.le_trans cG1 b.size
  replace ogm := ogm.below b
  replace oh2 := oh2.below b
  clear b
  go_wp2_with fail
  refine (heldPlains_any _ msg 1 _ (by omega) (by rw [HME.out]; exact hM2) HBN.out ogm.reads).mono ?_
  rw [HME.out]
  rintro e ws ⟨rfl, b⟩
  replace d := bw_call d b
  replace kA := (b.block _ sA).trans kA
  replace sA := Nat.lt_of_lt_of_le sA b.size
  replace r0 := r0.below (b.mono y0)
  replace y0 := Nat.le_trans y0 b.size
  replace rww := rww.below (b.mono yww)
  replace yww := Nat.le_trans yww b.size
  replace cG1 := Nat.le_trans cG1 b.size
  replace ogm := ogm.below b
  replace oh2 := oh2.below b
  clear b
  go_wp2_with fail
  go_ret
  exact ⟨rfl, d⟩

set_option maxRecDepth 100000 in
theorem lifted (os : Os) (started : os.Started) (H : Type) (enc : TypeId × Value → H) :
    ReturnsInHanded {} Try.checked os 5 .any (Rows.fnExactShownPlainSpec.pre6 enc Try.prog Try.f5 Rows.fnExactShownPlainRow.domain false) (Rows.fnExactShownPlainSpec.post enc Try.prog Try.f5 false true false false) := by
  refine returnsInHanded_of_change (C := Try.checked) own started (by kernel_rfl) Try.func5
    (ChangeSpec.witness6 (enc := enc) (C := Try.checked) false ⟨#[], #[.agg #[.slice none 0 0, .slice none 0 0, .slice none 0 0]], []⟩ 8 (by kernel_rfl) (by kernel_rfl) (by kernel_rfl) (by kernel_rfl)) ?_
  intro W base args ds gs before hval0 hW hcnd _
  have hval : ∀ (j : Nat) t v, Try.f5.params[j]? = some t → args[j]? = some v → Value.okWide Try.prog W .any base t v := hval0
  have hW' := hW
  obtain ⟨p, q, hA0, hV, rfl, hfz, hnd⟩ := hW
  have hA : DataW.TrodAll enc Try.prog W 0 (fun _ => true) true Try.f5.params.toList args.toList ds p := hA0
  rw [Try.params5] at hA hval
  obtain ⟨v0, vs0, d0, ds0, p0, q0, hargs, rfl, rfl, h0, rr0⟩ := trodAll_cons hA
  obtain ⟨rfl, rfl, rfl⟩ := trodAll_nil rr0
  obtain rfl : args = #[v0] := by cases args; simp_all
  obtain ⟨rfl, rfl⟩ := trodVars_none hV
  have kk0 := h0
  have lt0 : ∀ x ∈ p0, x.block < W.heap.size := by obtain ⟨fuel, hfuel⟩ := kk0; exact DataW.trod_lt fuel _ _ _ hfuel
  obtain ⟨v0a, v0b, v0c, cs0, ps0, bs0, rfl, w0, z0⟩ := open_shelf (hval 0 57 v0 rfl rfl) h0
  clear hA0 hval0
  refine (walk v0a v0b v0c cs0 ps0 bs0 W w0 z0).mono fun e W' ⟨he, bel⟩ => ?_
  subst he
  exact ⟨_, rfl, _, _, _, [], _, [], hW', trodAll_mk1 (shut_bool Try.underlying4 _), (trodAll_cons_mk (Below.trod laidOut (by kernel_rfl) (of_decide_eq_true (by kernel_rfl)) kk0 bel lt0) trodAll_mk0), rfl, bel.frame _, fun h => by cases h⟩

theorem over : Rows.fnExactShownPlainRow.holds Try.pinned (OpenSpec.ofChange Rows.fnExactShownPlainSpec) :=
  OpenClaim.holds_of_wide 5 Try.f5 rfl rfl rfl rfl rfl rfl rfl ⟨rfl, rfl, rfl, rfl, rfl⟩ rfl rfl rfl rfl rfl (by kernel_rfl) Try.func5 (by kernel_rfl)
    (of_decide_eq_true (by kernel_rfl)) (by unfold Func.isWrapper; first | (rw [if_pos (by decide +kernel)]; kernel_rfl) | (rw [if_neg (by decide +kernel)]; exact ⟨rfl, rfl⟩))
    (fun os started H enc _ => lifted os started H enc)

theorem proved : Rows.FnExactShownPlainSaid :=
  over
#print axioms proved
end Go.Proofs.Ytkjdfgjmkomcgaa.fnExactShownPlain
