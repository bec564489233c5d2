/-
  The law FnExactKnown answers true at every input that the row speaks of, and its arguments read afterwards as before; the walk goes over the callees' contracts.
-/
import Derived.Test.YtpmoefagpglddaaRows
import Derived.WalkKit
import Derived.ProofKit
import Derived.OpenShut
import Derived.ChangeOld
import Derived.Below
import Derived.Carry
import Derived.Deep.DeepCutAuto
import Derived.Test.YtpmoefagpglddaaM01
import Derived.Test.YtpmoefagpglddaaM03
import Derived.Test.YtpmoefagpglddaaM04
import Derived.Test.YtpmoefagpglddaaM07
namespace Go.Proofs.Ytpmoefagpglddaa.fnExactKnown
open Go.ChangeShapes Go.WideShapes Go.ChangeAt Go.RowKit
set_option linter.unusedVariables false

theorem own : ownKnob Try.prog.godebug = none := by kernel_rfl
theorem laidOut : laidOutB Try.prog = true := by kernel_rfl

set_option maxHeartbeats 4000000 in
theorem walk (v0a v0b : Value) (ts0 : List Int) (rs0 : List (Int × Int)) (a1 : Int) (a2 : Int) (w : World) (w0 : RM w.heap.size w v0a v0b ts0 rs0) (w1 : (Lit.int .i64 a1).wf = true) (w2 : (Lit.int .i64 a2).wf = true) :
    Calls Try.prog 6 #[.agg #[v0a, v0b], .int .i64 a1, .int .i64 a2] w fun e w' => e = .returned (.bool true) ∧ Below w.heap.size w w' := by
  have r0 : RM w.heap.size w v0a v0b ts0 rs0 := w0
  obtain ⟨WA, hWA, kA, d, zA⟩ := box1 w #[v0a, v0b] 42
  have sA : w.heap.size < WA.heap.size := by omega
  have y0 := d.size
  replace r0 := r0.below d
  have HWA : Hid (WA = _) := hWA
  clear hWA zA w0
  go_enter Try.func6, Try.ntmps6
  go_wp2_with fail
  rw [← HWA.out]
  clear HWA
  refine (szMemo_any v0a v0b ts0 rs0 _ _ (by omega) (by omega) (r0.mono y0)).mono ?_
  rintro e wb ⟨q, rfl, hq, b⟩
  replace d := bw_call d b
  replace kA := (b.block _ sA).trans kA
  replace sA := Nat.lt_of_lt_of_le sA b.size
  replace r0 := r0.below (b.mono y0)
  replace y0 := Nat.le_trans y0 b.size
  clear b
  rcases hq with rfl | ⟨hq0, hq1, hbts0, hbrs0⟩
  · go_wp2_with fail
    go_ret
    exact ⟨rfl, d⟩
  have pA0 := at_cell kA 0
  have pA1 := at_cell kA 1
  go_wp2_with fail
  clear pA0 pA1
  refine (toMemo_any v0a v0b ts0 rs0 _ hbts0 hbrs0 (r0.mono y0)).mono ?_
  rintro e wc ⟨t1, t2, rfl, ot, b⟩
  replace d := bw_call d b
  replace kA := (b.block _ sA).trans kA
  replace sA := Nat.lt_of_lt_of_le sA b.size
  replace r0 := r0.below (b.mono y0)
  replace y0 := Nat.le_trans y0 b.size
  clear b
  go_wp2_with fail
  obtain ⟨nv, hnv⟩ : ∃ x, knownM ts0 rs0 a1 a2 = x := ⟨_, rfl⟩
  have HFD : Hid (knownM ts0 rs0 a1 a2 = nv) := hnv
  refine (specKnown_any t1 t2 ts0 rs0 a1 a2 _ ot.reads).mono ?_
  rw [hnv]
  clear hnv
  rintro e wd ⟨rfl, b⟩
  replace d := bw_call d b
  replace kA := (b.block _ sA).trans kA
  replace sA := Nat.lt_of_lt_of_le sA b.size
  replace r0 := r0.below (b.mono y0)
  replace y0 := Nat.le_trans y0 b.size
  clear b
  clear ot
  have pA0 := at_cell kA 0
  have pA1 := at_cell kA 1
  go_wp2_with fail
  clear pA0 pA1
  have cX1 : w.heap.size < wd.heap.size := sA
  refine (toMemo_any v0a v0b ts0 rs0 _ hbts0 hbrs0 (r0.mono y0)).mono ?_
  rintro e wf ⟨x1, x2, rfl, ox, b⟩
  have cX3 := b.size
  replace d := bw_call d b
  replace kA := (b.block _ sA).trans kA
  replace sA := Nat.lt_of_lt_of_le sA b.size
  replace r0 := r0.below (b.mono y0)
  replace y0 := Nat.le_trans y0 b.size
  clear b
  have TX : Hid _ := ox.span
  obtain ⟨ox1, cx1, ox2, cx2, rfl, rfl⟩ := ox.forms
  have b : Below wf.heap.size wf (wf.alloc (.cells #[.slice ox1 ts0.length cx1, .slice ox2 rs0.length cx2] 27)) := bw_alloc (Below.refl _ _)
  have kX := heap_alloc_new wf (.cells #[.slice ox1 ts0.length cx1, .slice ox2 rs0.length cx2] 27)
  have sX : wf.heap.size < (wf.alloc (.cells #[.slice ox1 ts0.length cx1, .slice ox2 rs0.length cx2] 27)).heap.size := by simp
  replace d := bw_call d b
  replace kA := (b.block _ sA).trans kA
  replace sA := Nat.lt_of_lt_of_le sA b.size
  replace r0 := r0.below (b.mono y0)
  replace y0 := Nat.le_trans y0 b.size
  replace ox := ox.below b
  clear b
  have pX0 := at_cell kX 0
  have pX1 := at_cell kX 1
  go_wp2_with fail
  clear pX0 pX1
  generalize wf.alloc (.cells #[.slice ox1 ts0.length cx1, .slice ox2 rs0.length cx2] 27) = Wx at *
  have cX4 : wf.heap.size < Wx.heap.size := sX
  refine (implKnown_any (.slice ox1 ts0.length cx1) (.slice ox2 rs0.length cx2) ts0 rs0 a1 a2 _ ox.reads).mono ?_
  rw [HFD.out]
  rintro e wg ⟨rfl, b⟩
  replace d := bw_call d b
  replace kA := (b.block _ sA).trans kA
  replace sA := Nat.lt_of_lt_of_le sA b.size
  replace r0 := r0.below (b.mono y0)
  replace y0 := Nat.le_trans y0 b.size
  replace ox := ox.below b
  replace kX := (b.block _ sX).trans kX
  replace sX := Nat.lt_of_lt_of_le sX b.size
  clear b
  go_wp2_with fail
  have S0 : wg.drew.cell? ⟨wf.heap.size, 0, none⟩ = some (.slice ox1 ts0.length cx1) ∧ wg.drew.cell? ⟨wf.heap.size, 1, none⟩ = some (.slice ox2 rs0.length cx2) ∧ wg.drew.cell? ⟨w.heap.size, 0, none⟩ = some v0a ∧ wg.drew.cell? ⟨w.heap.size, 1, none⟩ = some v0b := ⟨at_cell kX 0, at_cell kX 1, at_cell kA 0, at_cell kA 1⟩
  have RA : RM wg.drew.heap.size wg.drew v0a v0b ts0 rs0 := (r0.mono y0).below ((Below.refl _ _).drew)
  have OX := ox.below (w' := wg.drew) ((Below.refl _ _).drew)
  go_region_held3 (fun w' => w'.cell? ⟨wf.heap.size, 0, none⟩ = some (.slice ox1 ts0.length cx1) ∧ w'.cell? ⟨wf.heap.size, 1, none⟩ = some (.slice ox2 rs0.length cx2) ∧ w'.cell? ⟨w.heap.size, 0, none⟩ = some v0a ∧ w'.cell? ⟨w.heap.size, 1, none⟩ = some v0b)
    ((first | exact S0 | exact S1 | exact S2))
    ((first | (go_at_call 20; refine (toMemo_any v0a v0b ts0 rs0 _ hbts0 hbrs0 RA).mono ?_; rintro e wi ⟨t1, t2, rfl, ot, bi⟩; have kXi := (bi.block _ (show _ < wg.heap.size from sX)).trans kX; have kAi := (bi.block _ (show _ < wg.heap.size from sA)).trans kA; have S1 := And.intro (at_cell kXi 0) (And.intro (at_cell kXi 1) (And.intro (at_cell kAi 0) (at_cell kAi 1))); have OXi := OX.below bi) | (go_at_call 21; refine (eqMemo_any (.slice ox1 ts0.length cx1) (.slice ox2 rs0.length cx2) t1 t2 ts0 rs0 ts0 rs0 _ OXi.reads ot.reads).mono ?_; rintro e wj ⟨rfl, bj⟩; have kXj := (bj.block _ (heap_lt kXi)).trans kXi; have kAj := (bj.block _ (heap_lt kAi)).trans kAi; have S2 := And.intro (at_cell kXj 0) (And.intro (at_cell kXj 1) (And.intro (at_cell kAj 0) (at_cell kAj 1))))))
  have b : Below wg.heap.size wg wj := bw_call (bw_call (bw_drew (Below.refl _ _)) bi) bj
  clear S0 S1 S2 RA OX OXi kXi kAi kXj kAj ot bi bj
  replace d := bw_call d b
  replace kA := (b.block _ sA).trans kA
  replace sA := Nat.lt_of_lt_of_le sA b.size
  replace r0 := r0.below (b.mono y0)
  replace y0 := Nat.le_trans y0 b.size
  replace ox := ox.below b
  replace kX := (b.block _ sX).trans kX
  replace sX := Nat.lt_of_lt_of_le sX b.size
  clear b
  go_wp2_with fail
  go_ret
  exact ⟨rfl, d⟩

set_option maxRecDepth 100000 in
theorem lifted (os : Os) (started : os.Started) (H : Type) (enc : TypeId × Value → H) :
    ReturnsInHanded {} Try.checked os 6 .any (Rows.fnExactKnownSpec.pre6 enc Try.prog Try.f6 Rows.fnExactKnownRow.domain false) (Rows.fnExactKnownSpec.post enc Try.prog Try.f6 false true false false) := by
  refine returnsInHanded_of_change (C := Try.checked) own started (by kernel_rfl) Try.func6
    (ChangeSpec.witness6 (enc := enc) (C := Try.checked) false ⟨#[], #[.agg #[.slice none 0 0, .slice none 0 0], .int .i64 0, .int .i64 0], []⟩ 8 (by kernel_rfl) (by kernel_rfl) (by kernel_rfl) (by kernel_rfl)) ?_
  intro W base args ds gs before hval0 hW hcnd _
  have hval : ∀ (j : Nat) t v, Try.f6.params[j]? = some t → args[j]? = some v → Value.okWide Try.prog W .any base t v := hval0
  have hW' := hW
  obtain ⟨p, q, hA0, hV, rfl, hfz, hnd⟩ := hW
  have hA : DataW.TrodAll enc Try.prog W 0 (fun _ => true) true Try.f6.params.toList args.toList ds p := hA0
  rw [Try.params6] at hA hval
  obtain ⟨v0, vs0, d0, ds0, p0, q0, hargs, rfl, rfl, h0, rr0⟩ := trodAll_cons hA
  obtain ⟨v1, vs1, d1, ds1, p1, q1, rfl, rfl, rfl, h1, rr1⟩ := trodAll_cons rr0
  obtain ⟨v2, vs2, d2, ds2, p2, q2, rfl, rfl, rfl, h2, rr2⟩ := trodAll_cons rr1
  obtain ⟨rfl, rfl, rfl⟩ := trodAll_nil rr2
  obtain rfl : args = #[v0, v1, v2] := by cases args; simp_all
  obtain ⟨rfl, rfl⟩ := trodVars_none hV
  have kk0 := h0
  have lt0 : ∀ x ∈ p0, x.block < W.heap.size := by obtain ⟨fuel, hfuel⟩ := kk0; exact DataW.trod_lt fuel _ _ _ hfuel
  obtain ⟨v0a, v0b, ts0, rs0, rfl, w0⟩ := open_memo (hval 0 42 v0 rfl rfl) h0
  have kk1 := h1
  have lt1 : ∀ x ∈ p1, x.block < W.heap.size := by obtain ⟨fuel, hfuel⟩ := kk1; exact DataW.trod_lt fuel _ _ _ hfuel
  obtain ⟨a1, rfl, w1⟩ := open_i64 (hval 1 2 v1 rfl rfl) h1
  have kk2 := h2
  have lt2 : ∀ x ∈ p2, x.block < W.heap.size := by obtain ⟨fuel, hfuel⟩ := kk2; exact DataW.trod_lt fuel _ _ _ hfuel
  obtain ⟨a2, rfl, w2⟩ := open_i64 (hval 2 2 v2 rfl rfl) h2
  clear hA0 hval0
  refine (walk v0a v0b ts0 rs0 a1 a2 W w0 w1 w2).mono fun e W' ⟨he, bel⟩ => ?_
  subst he
  exact ⟨_, rfl, _, _, _, [], _, [], hW', trodAll_mk1 (shut_bool Try.underlying4 _), (trodAll_cons_mk (Below.trod laidOut (by kernel_rfl) (of_decide_eq_true (by kernel_rfl)) kk0 bel lt0) (trodAll_cons_mk (Below.trod laidOut (by kernel_rfl) (of_decide_eq_true (by kernel_rfl)) kk1 bel lt1) (trodAll_cons_mk (Below.trod laidOut (by kernel_rfl) (of_decide_eq_true (by kernel_rfl)) kk2 bel lt2) trodAll_mk0))), rfl, bel.frame _, fun h => by cases h⟩

theorem over : Rows.fnExactKnownRow.holds Try.pinned (OpenSpec.ofChange Rows.fnExactKnownSpec) :=
  OpenClaim.holds_of_wide 6 Try.f6 rfl rfl rfl rfl rfl rfl rfl ⟨rfl, rfl, rfl, rfl, rfl⟩ rfl rfl rfl rfl rfl (by kernel_rfl) Try.func6 (by kernel_rfl)
    (of_decide_eq_true (by kernel_rfl)) (by unfold Func.isWrapper; first | (rw [if_pos (by decide +kernel)]; kernel_rfl) | (rw [if_neg (by decide +kernel)]; exact ⟨rfl, rfl⟩))
    (fun os started H enc _ => lifted os started H enc)

theorem proved : Rows.FnExactKnownSaid :=
  over
#print axioms proved
end Go.Proofs.Ytpmoefagpglddaa.fnExactKnown
