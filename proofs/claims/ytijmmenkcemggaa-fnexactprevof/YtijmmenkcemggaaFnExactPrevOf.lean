/-
  The law FnExactPrevOf answers true at every input that the row speaks of, and its arguments read afterwards as before; the walk goes over the callees' contracts.
-/
import Derived.Test.YtijmmenkcemggaaRows
import Derived.WalkKit
import Derived.ProofKit
import Derived.OpenShut
import Derived.ChangeOld
import Derived.Below
import Derived.Carry
import Derived.Test.YtijmmenkcemggaaArgs
import Derived.Test.YtijmmenkcemggaaArgsVw
import Derived.Test.YtijmmenkcemggaaVwLaw
import Derived.Test.YtijmmenkcemggaaImVw2
namespace Go.Proofs.Ytijmmenkcemggaa.fnExactPrevOf
open Go.ChangeShapes Go.WideShapes Go.ChangeAt Go.RowKit
set_option linter.unusedVariables false

theorem own : ownKnob Try.prog.godebug = none := by kernel_rfl
theorem laidOut : laidOutB Try.prog = true := by kernel_rfl

set_option maxRecDepth 100000 in
set_option maxHeartbeats 8000000 in
theorem walk (n0 : Int) (v0b : Value) (ms0 : List Int) (a1 : Int) (w : World) (w0 : RVw w.heap.size w v0b ms0) (x0 : FitV n0 ms0) (w1 : (Lit.int .i64 a1).wf = true) :
    Calls Try.prog 9 #[.agg #[.int .i64 n0, v0b], .int .i64 a1] w fun e w' => e = .returned (.bool true) ∧ Below w.heap.size w w' := by
  have r0 : RVw w.heap.size w v0b ms0 := w0
  obtain ⟨WA, hWA, kA, d, zA⟩ := box1 w #[.int .i64 n0, v0b] 38
  have sA : w.heap.size < WA.heap.size := by omega
  have y0 := d.size
  replace r0 := r0.below d
  have HWA : Hid (WA = _) := hWA
  clear hWA zA w0
  go_enter Try.func9, Try.ntmps9
  go_wp2_with fail
  rw [← HWA.out]
  clear HWA
  refine (szView_any n0 v0b ms0 _ _ (by omega) (by omega) (r0.mono y0)).mono ?_
  rintro e wb ⟨q, rfl, hq, b⟩
  replace d := bw_call d b
  replace kA := (b.block _ sA).trans kA
  replace sA := Nat.lt_of_lt_of_le sA b.size
  replace r0 := r0.below (b.mono y0)
  replace y0 := Nat.le_trans y0 b.size
  clear b
  rcases hq with rfl | ⟨hq0, hq1, hbms0⟩
  · go_wp2_with fail
    go_ret
    exact ⟨rfl, d⟩
  have pA0 := at_cell kA 0
  have pA1 := at_cell kA 1
  go_wp2_with fail
  clear pA0 pA1
  refine (toView_any n0 v0b ms0 _ hbms0 (r0.mono y0)).mono ?_
  rintro e wc ⟨t2, rfl, ot, b⟩
  replace d := bw_call d b
  replace kA := (b.block _ sA).trans kA
  replace sA := Nat.lt_of_lt_of_le sA b.size
  replace r0 := r0.below (b.mono y0)
  replace y0 := Nat.le_trans y0 b.size
  clear b
  go_wp2_with fail
  obtain ⟨nv, hnv⟩ : ∃ x, prevOf n0 ms0 a1 = x := ⟨_, rfl⟩
  have HFD : Hid (prevOf n0 ms0 a1 = nv) := hnv
  refine (specPrevOf_any n0 (t2) ms0 a1 _ ot.r).mono ?_
  rw [hnv]
  clear hnv
  rintro e wd ⟨rfl, b⟩
  replace d := bw_call d b
  replace kA := (b.block _ sA).trans kA
  replace sA := Nat.lt_of_lt_of_le sA b.size
  replace r0 := r0.below (b.mono y0)
  replace y0 := Nat.le_trans y0 b.size
  clear b
  clear ot
  have pA0 := at_cell kA 0
  have pA1 := at_cell kA 1
  go_wp2_with fail
  clear pA0 pA1
  have cX1 : w.heap.size < wd.heap.size := sA
  refine (toView_any n0 v0b ms0 _ hbms0 (r0.mono y0)).mono ?_
  rintro e wf ⟨x2, rfl, ox, b⟩
  have cX3 := b.size
  replace d := bw_call d b
  replace kA := (b.block _ sA).trans kA
  replace sA := Nat.lt_of_lt_of_le sA b.size
  replace r0 := r0.below (b.mono y0)
  replace y0 := Nat.le_trans y0 b.size
  clear b
  have TX : Hid _ := ox.span
  obtain ⟨zax, zcx, rfl⟩ := ox.forms
  have b : Below wf.heap.size wf (wf.alloc (.cells #[.int .i64 n0, .slice zax ms0.length zcx] 26)) := bw_alloc (Below.refl _ _)
  have kX := heap_alloc_new wf (.cells #[.int .i64 n0, .slice zax ms0.length zcx] 26)
  have sX : wf.heap.size < (wf.alloc (.cells #[.int .i64 n0, .slice zax ms0.length zcx] 26)).heap.size := by simp
  replace d := bw_call d b
  replace kA := (b.block _ sA).trans kA
  replace sA := Nat.lt_of_lt_of_le sA b.size
  replace r0 := r0.below (b.mono y0)
  replace y0 := Nat.le_trans y0 b.size
  replace ox := ox.below b
  clear b
  have pX0 := at_cell kX 0
  have pX1 := at_cell kX 1
  go_wp2_with fail
  clear pX0 pX1
  generalize wf.alloc (.cells #[.int .i64 n0, .slice zax ms0.length zcx] 26) = Wx at *
  have cX4 : wf.heap.size < Wx.heap.size := sX
  refine (implPrevOf_any n0 (.slice zax ms0.length zcx) ms0 a1 _ ox.r).mono ?_
  rw [HFD.out]
  rintro e wg ⟨rfl, b⟩
  replace d := bw_call d b
  replace kA := (b.block _ sA).trans kA
  replace sA := Nat.lt_of_lt_of_le sA b.size
  replace r0 := r0.below (b.mono y0)
  replace y0 := Nat.le_trans y0 b.size
  replace ox := ox.below b
  replace kX := (b.block _ sX).trans kX
  replace sX := Nat.lt_of_lt_of_le sX b.size
  clear b
  go_wp2_with fail
  have S0 : wg.drew.cell? ⟨wf.heap.size, 0, none⟩ = some (.int .i64 n0) ∧ wg.drew.cell? ⟨wf.heap.size, 1, none⟩ = some (.slice zax ms0.length zcx) ∧ wg.drew.cell? ⟨w.heap.size, 0, none⟩ = some (.int .i64 n0) ∧ wg.drew.cell? ⟨w.heap.size, 1, none⟩ = some (v0b) := ⟨at_cell kX 0, at_cell kX 1, at_cell kA 0, at_cell kA 1⟩
  have RA : RVw wg.drew.heap.size wg.drew v0b ms0 := (r0.mono y0).below ((Below.refl _ _).drew)
  have OX := ox.below (w' := wg.drew) ((Below.refl _ _).drew)
  go_region_held3 (fun w' => w'.cell? ⟨wf.heap.size, 0, none⟩ = some (.int .i64 n0) ∧ w'.cell? ⟨wf.heap.size, 1, none⟩ = some (.slice zax ms0.length zcx) ∧ w'.cell? ⟨w.heap.size, 0, none⟩ = some (.int .i64 n0) ∧ w'.cell? ⟨w.heap.size, 1, none⟩ = some (v0b))
    ((first | exact S0 | exact S1 | exact S2))
    ((first | (go_at_call 35; refine (toView_any n0 v0b ms0 _ hbms0 RA).mono ?_; rintro e wi ⟨t2, rfl, ot, bi⟩; have kXi := (bi.block _ (show _ < wg.heap.size from sX)).trans kX; have kAi := (bi.block _ (show _ < wg.heap.size from sA)).trans kA; have S1 := And.intro (at_cell kXi 0) (And.intro (at_cell kXi 1) (And.intro (at_cell kAi 0) (at_cell kAi 1))); have OXi := OX.below bi) | (go_at_call 36; refine (eqView_any n0 n0 (.slice zax ms0.length zcx) t2 ms0 ms0 _ OXi.reads ot.reads).mono ?_; rintro e wj ⟨rfl, bj⟩; have kXj := (bj.block _ (heap_lt kXi)).trans kXi; have kAj := (bj.block _ (heap_lt kAi)).trans kAi; have S2 := And.intro (at_cell kXj 0) (And.intro (at_cell kXj 1) (And.intro (at_cell kAj 0) (at_cell kAj 1))))))
  have b : Below wg.heap.size wg wj := bw_call (bw_call (bw_drew (Below.refl _ _)) bi) bj
  clear S0 S1 S2 RA OX OXi kXi kAi kXj kAj ot bi bj
  replace d := bw_call d b
  replace kA := (b.block _ sA).trans kA
  replace sA := Nat.lt_of_lt_of_le sA b.size
  replace r0 := r0.below (b.mono y0)
  replace y0 := Nat.le_trans y0 b.size
  replace ox := ox.below b
  replace kX := (b.block _ sX).trans kX
  replace sX := Nat.lt_of_lt_of_le sX b.size
  clear b
  go_wp2_with fail
  go_ret
  exact ⟨rfl, d⟩

set_option maxRecDepth 100000 in
theorem lifted (os : Os) (started : os.Started) (H : Type) (enc : TypeId × Value → H) :
    ReturnsInHanded {} Try.checked os 9 .any (Rows.fnExactPrevOfSpec.pre6 enc Try.prog Try.f9 Rows.fnExactPrevOfRow.domain false) (Rows.fnExactPrevOfSpec.post enc Try.prog Try.f9 false true false false) := by
  refine returnsInHanded_of_change (C := Try.checked) own started (by kernel_rfl) Try.func9
    (ChangeSpec.witness6 (enc := enc) (C := Try.checked) false ⟨#[], #[.agg #[.int .i64 0, .slice none 0 0], .int .i64 0], []⟩ 8 (by kernel_rfl) (by kernel_rfl) (by kernel_rfl) (by kernel_rfl)) ?_
  intro W base args ds gs before hval0 hW hcnd _
  have hval : ∀ (j : Nat) t v, Try.f9.params[j]? = some t → args[j]? = some v → Value.okWide Try.prog W .any base t v := hval0
  have hW' := hW
  obtain ⟨p, q, hA0, hV, rfl, hfz, hnd⟩ := hW
  have hA : DataW.TrodAll enc Try.prog W 0 (fun _ => true) true Try.f9.params.toList args.toList ds p := hA0
  rw [Try.params9] at hA hval
  obtain ⟨v0, vs0, d0, ds0, p0, q0, hargs, rfl, rfl, h0, rr0⟩ := trodAll_cons hA
  obtain ⟨v1, vs1, d1, ds1, p1, q1, rfl, rfl, rfl, h1, rr1⟩ := trodAll_cons rr0
  obtain ⟨rfl, rfl, rfl⟩ := trodAll_nil rr1
  obtain rfl : args = #[v0, v1] := by cases args; simp_all
  obtain ⟨rfl, rfl⟩ := trodVars_none hV
  have kk0 := h0
  have lt0 : ∀ x ∈ p0, x.block < W.heap.size := by obtain ⟨fuel, hfuel⟩ := kk0; exact DataW.trod_lt fuel _ _ _ hfuel
  obtain ⟨n0, v0b, ms0, rfl, w0, x0⟩ := open_view (hval 0 38 v0 rfl rfl) h0
  have kk1 := h1
  have lt1 : ∀ x ∈ p1, x.block < W.heap.size := by obtain ⟨fuel, hfuel⟩ := kk1; exact DataW.trod_lt fuel _ _ _ hfuel
  obtain ⟨a1, rfl, w1⟩ := open_i64 (hval 1 2 v1 rfl rfl) h1
  clear hA0 hval0
  refine (walk n0 v0b ms0 a1 W w0 x0 w1).mono fun e W' ⟨he, bel⟩ => ?_
  subst he
  exact ⟨_, rfl, _, _, _, [], _, [], hW', trodAll_mk1 (shut_bool Try.underlying4 _), (trodAll_cons_mk (Below.trod laidOut (by kernel_rfl) (of_decide_eq_true (by kernel_rfl)) kk0 bel lt0) (trodAll_cons_mk (Below.trod laidOut (by kernel_rfl) (of_decide_eq_true (by kernel_rfl)) kk1 bel lt1) trodAll_mk0)), rfl, bel.frame _, fun h => by cases h⟩

theorem over : Rows.fnExactPrevOfRow.holds Try.pinned (OpenSpec.ofChange Rows.fnExactPrevOfSpec) :=
  OpenClaim.holds_of_wide 9 Try.f9 rfl rfl rfl rfl rfl rfl rfl ⟨rfl, rfl, rfl, rfl, rfl⟩ rfl rfl rfl rfl rfl (by kernel_rfl) Try.func9 (by kernel_rfl)
    (of_decide_eq_true (by kernel_rfl)) (by unfold Func.isWrapper; first | (rw [if_pos (by decide +kernel)]; kernel_rfl) | (rw [if_neg (by decide +kernel)]; exact ⟨rfl, rfl⟩))
    (fun os started H enc _ => lifted os started H enc)

theorem proved : Rows.FnExactPrevOfSaid :=
  over
#print axioms proved
end Go.Proofs.Ytijmmenkcemggaa.fnExactPrevOf
