/-
  The law FnExactFed answers true at every input that the row speaks of, and its arguments read afterwards as before; the walk goes over the callees' contracts.
-/
import Derived.Test.YtbjkbhchcoabcahRows
import Derived.WalkKit
import Derived.ProofKit
import Derived.OpenShut
import Derived.ChangeOld
import Derived.Below
import Derived.Carry
import Derived.Test.YtbjkbhchcoabcahArgs
import Derived.Test.YtbjkbhchcoabcahFeedLaw
import Derived.Test.YtbjkbhchcoabcahImFed
namespace Go.Proofs.Ytbjkbhchcoabcah.fnExactFed
open Go.ChangeShapes Go.WideShapes Go.ChangeAt Go.RowKit
set_option linter.unusedVariables false

theorem own : ownKnob Try.prog.godebug = none := by kernel_rfl
theorem laidOut : laidOutB Try.prog = true := by kernel_rfl

set_option maxHeartbeats 4000000 in
theorem walk (r0 : ByteArray) (k0 : Int) (a1 : ByteArray) (w : World) (w0 : r0.size ≤ maxLen) (x0 : (Lit.int .i64 k0).wf = true) (w1 : a1.size ≤ maxLen) :
    Calls Try.prog 5 #[.agg #[.string r0, .int .i64 k0], .string a1] w fun e w' => e = .returned (.bool true) ∧ Below w.heap.size w w' := by
  by_cases hs : (1048576 : Int) < (a1.size : Int)
  · go_enter Try.func5, Try.ntmps5
    go_wp2_with fail
    go_ret
    exact ⟨rfl, bw_alloc (Below.refl _ _)⟩
  by_cases h : (1048576 : Int) < (r0.size : Int)
  · go_enter Try.func5, Try.ntmps5
    go_wp2_with fail
    refine (szFeed_any _ _ _ _ w0 (by omega) (by omega)).mono ?_
    rintro e w1 ⟨rfl, b1⟩
    rw [if_pos h]
    go_wp2_with fail
    go_ret
    exact ⟨rfl, bw_call (bw_alloc (Below.refl _ _)) b1⟩
  have hr : r0.size ≤ 1099511627776 := by omega
  have hb : a1.size ≤ 1099511627776 := by omega
  have hl : 0 ≤ (1048576 : Int) - (r0.size : Int) := by omega
  have hyl : (fed r0 k0 a1).2.length ≤ 1063 := fed_len r0 a1 k0
  obtain ⟨WA, hWA⟩ : ∃ WA, WA = w.alloc (.cells #[.string r0, .int .i64 k0] 29) := ⟨_, rfl⟩
  have kA : WA.heap[w.heap.size]? = some (.cells #[.string r0, .int .i64 k0] 29 (0, 0)) := by rw [hWA]; exact heap_alloc_new w _
  have dA : Below w.heap.size w WA := by rw [hWA]; exact bw_alloc (Below.refl _ _)
  have sA : w.heap.size < WA.heap.size := by rw [hWA]; simp
  have HWA : Hid (WA = _) := hWA
  clear hWA
  go_enter Try.func5, Try.ntmps5
  go_wp2_with fail
  rw [← HWA.out]
  clear HWA
  refine (szFeed_any _ _ _ _ w0 (by omega) (by omega)).mono ?_
  rintro e w1 ⟨rfl, b1⟩
  rw [if_neg (by omega)]
  have d1 := bw_call dA b1
  have k1 := (b1.block _ sA).trans kA
  have s1 := Nat.lt_of_lt_of_le sA b1.size
  have p0 := at_cell k1 0
  have p1 := at_cell k1 1
  clear b1 kA sA dA
  go_wp2_with fail
  refine (toFeed_any _ _ _).mono ?_
  rintro e w2 ⟨rfl, b2⟩
  have d2 := bw_call d1 b2
  have k2 := (b2.block _ s1).trans k1
  have s2 := Nat.lt_of_lt_of_le s1 b2.size
  clear b2 k1 s1 d1 p0 p1
  go_wp2_with fail
  refine (specFed_any r0 a1 k0 _ hr hb).mono ?_
  obtain ⟨⟨⟨nr, nk⟩, ys⟩, hfd⟩ : ∃ fd, fed r0 k0 a1 = fd := ⟨_, rfl⟩
  have HFD : Hid (fed r0 k0 a1 = ((nr, nk), ys)) := hfd
  rw [hfd] at hyl ⊢
  clear hfd
  simp only at hyl ⊢
  rintro e w3 ⟨sv, rfl, so, _, b3⟩
  have d3 := bw_call d2 b3
  have k3 := (b3.block _ s2).trans k2
  have s3 := Nat.lt_of_lt_of_le s2 b3.size
  have sr3 := Reads.of_own so
  clear b3 k2 s2 d2 so
  -- the answer's box
  have dB := bw_alloc (o := .cells #[.string nr, .int .i64 nk] 32) (Below.refl w3.heap.size w3)
  have d4 := bw_call d3 dB
  have k4 := (dB.block _ s3).trans k3
  have m4 := heap_alloc_new w3 (.cells #[.string nr, .int .i64 nk] 32)
  have s4 := Nat.lt_of_lt_of_le s3 dB.size
  have z4 : w3.heap.size < (w3.alloc (.cells #[.string nr, .int .i64 nk] 32)).heap.size := by simp
  have sr4 := (sr3.below dB).mono dB.size
  have p0 := at_cell k4 0
  have p1 := at_cell k4 1
  clear dB d3 k3 sr3
  go_wp2_with fail
  generalize w3.alloc (.cells #[.string nr, .int .i64 nk] 32) = W4 at *
  refine (toFeed_any _ _ _).mono ?_
  rintro e w5 ⟨rfl, b5⟩
  have d5 := bw_call d4 b5
  have k5 := (b5.block _ s4).trans k4
  have m5 := (b5.block _ z4).trans m4
  have s5 := Nat.lt_of_lt_of_le s4 b5.size
  have z5 := Nat.lt_of_lt_of_le z4 b5.size
  have sr5 := (sr4.below b5).mono b5.size
  clear b5 d4 k4 m4 s4 z4 sr4 p0 p1
  go_wp2_with fail
  refine (implFed_any r0 a1 k0 _ hr hb).mono ?_
  rw [HFD.out]
  simp only
  rintro e w6 ⟨gv, rfl, go, _, b6⟩
  have d6 := bw_call d5 b6
  have k6 := (b6.block _ s5).trans k5
  have m6 := (b6.block _ z5).trans m5
  have s6 := Nat.lt_of_lt_of_le s5 b6.size
  have z6 := Nat.lt_of_lt_of_le z5 b6.size
  have sr6 := sr5.below b6
  have y6 := b6.size
  clear b6 k5 m5 sr5
  -- the program's answer's box
  have dB := bw_alloc (o := .cells #[.string nr, .int .i64 nk] 32) (Below.refl w6.heap.size w6)
  have d7 := bw_call d6 dB
  have k7 := (dB.block _ s6).trans k6
  have m7 := (dB.block _ z6).trans m6
  have n7 := heap_alloc_new w6 (.cells #[.string nr, .int .i64 nk] 32)
  have go7 := owns_below go dB
  have sr7 := sr6.below (dB.mono y6)
  have y7 := Nat.le_trans y6 dB.size
  have s7 := Nat.lt_of_lt_of_le s6 dB.size
  have z7 := Nat.lt_of_lt_of_le z6 dB.size
  have p0 := at_cell n7 0
  have p1 := at_cell n7 1
  have q0 := at_cell m7 0
  have q1 := at_cell m7 1
  clear dB k6 m6 s6 z6 sr6 d6 y6 go n7
  go_wp2_with fail
  generalize w6.alloc (.cells #[.string nr, .int .i64 nk] 32) = W7 at *
  refine (eqFeed_any nr nk nr nk _).mono ?_
  rintro e w8 ⟨rfl, b8⟩
  have dt : (decide (nr = nr) && decide (nk = nk)) = true := by simp
  rw [dt]
  have d8 := bw_call d7 b8
  have k8 := (b8.block _ s7).trans k7
  have m8 := (b8.block _ z7).trans m7
  have s8 := Nat.lt_of_lt_of_le s7 b8.size
  have z8 := Nat.lt_of_lt_of_le z7 b8.size
  have go8 := owns_below go7 b8
  have sr8 := sr7.below (b8.mono y7)
  have y8 := Nat.le_trans y7 b8.size
  clear b8 d7 k7 m7 s7 z7 go7 sr7 y7 p0 p1 q0 q1
  go_wp2_with fail
  refine (eqTexts_any gv sv ys ys _ (Reads.of_own go8) (sr8.mono y8)).mono ?_
  rintro e w9 ⟨rfl, b9⟩
  have dt2 : decide (ys = ys) = true := by simp
  rw [dt2]
  have d9 := bw_call d8 b9
  have k9 := (b9.block _ s8).trans k8
  have m9 := (b9.block _ z8).trans m8
  have s9 := Nat.lt_of_lt_of_le s8 b9.size
  have go9 := owns_below go8 b9
  have sr9 := sr8.below (b9.mono y8)
  have y9 := Nat.le_trans y8 b9.size
  clear b9 d8 k8 m8 s8 z8 go8 sr8 y8 dt dt2
  go_wp2_with fail
  refine (markedRow_any gv ys.length w5.heap.size 1 _ _ (by omega) (by omega) y9 go9).mono ?_
  rintro e w10 ⟨rfl, go10, b10⟩
  have d10 := d9.trans (b10.mono d5.size)
  have k10 := (b10.block _ s5).trans k9
  have m10 := (b10.block _ z5).trans m9
  have sr10 := sr9.below b10
  have y10 := Nat.le_trans y9 b10.size
  clear b10 d9 k9 m9 s9 go9 sr9 y9
  go_wp2_with fail
  refine (held_any gv ys.length 1 _ (by omega) (by omega) (Reads.of_own go10)).mono ?_
  rintro e w11 ⟨rfl, b11⟩
  have d11 := bw_call d10 b11
  have k11 := (b11.block _ (Nat.lt_of_lt_of_le s5 y10)).trans k10
  have m11 := (b11.block _ (Nat.lt_of_lt_of_le z5 y10)).trans m10
  have go11 := owns_below go10 b11
  have sr11 := sr10.below (b11.mono y10)
  have y11 := Nat.le_trans y10 b11.size
  have p0 := at_cell k11 0
  have p1 := at_cell k11 1
  clear b11 d10 k10 m10 go10 sr10 y10
  go_wp2_with fail
  refine (toFeed_any _ _ _).mono ?_
  rintro e w12 ⟨rfl, b12⟩
  have d12 := bw_call d11 b12
  have m12 := (b12.block _ (Nat.lt_of_lt_of_le z5 y11)).trans m11
  have go12 := owns_below go11 b12
  have sr12 := sr11.below (b12.mono y11)
  have y12 := Nat.le_trans y11 b12.size
  clear b12 d11 k11 m11 go11 sr11 y11 p0 p1
  go_wp2_with fail
  refine (implFed_any r0 a1 k0 _ hr hb).mono ?_
  rw [HFD.out]
  simp only
  rintro e w13 ⟨hv, rfl, ho, _, b13⟩
  have d13 := bw_call d12 b13
  have m13 := (b13.block _ (Nat.lt_of_lt_of_le z5 y12)).trans m12
  have go13 := owns_below go12 b13
  have sr13 := sr12.below (b13.mono y12)
  have y13 := Nat.le_trans y12 b13.size
  clear b13 d12 m12 go12 sr12 y12
  have dB := bw_alloc (o := .cells #[.string nr, .int .i64 nk] 32) (Below.refl w13.heap.size w13)
  have d14 := bw_call d13 dB
  have m14 := (dB.block _ (Nat.lt_of_lt_of_le z5 y13)).trans m13
  have n14 := heap_alloc_new w13 (.cells #[.string nr, .int .i64 nk] 32)
  have go14 := owns_below go13 dB
  have ho14 := owns_below ho dB
  have sr14 := sr13.below (dB.mono y13)
  have y14 := Nat.le_trans y13 dB.size
  have p0 := at_cell n14 0
  have p1 := at_cell n14 1
  have q0 := at_cell m14 0
  have q1 := at_cell m14 1
  clear dB d13 m13 go13 sr13 y13 ho n14
  go_wp2_with fail
  generalize w13.alloc (.cells #[.string nr, .int .i64 nk] 32) = W14 at *
  refine (eqFeed_any nr nk nr nk _).mono ?_
  rintro e w15 ⟨rfl, b15⟩
  have dt : (decide (nr = nr) && decide (nk = nk)) = true := by simp
  rw [dt]
  have d15 := bw_call d14 b15
  have go15 := owns_below go14 b15
  have ho15 := owns_below ho14 b15
  have sr15 := sr14.below (b15.mono y14)
  have y15 := Nat.le_trans y14 b15.size
  clear b15 d14 m14 go14 ho14 sr14 y14 p0 p1 q0 q1
  go_wp2_with fail
  refine (eqTexts_any hv sv ys ys _ (Reads.of_own ho15) (sr15.mono y15)).mono ?_
  rintro e w16 ⟨rfl, b16⟩
  have dt2 : decide (ys = ys) = true := by simp
  rw [dt2]
  have d16 := bw_call d15 b16
  have go16 := owns_below go15 b16
  clear b16 d15 go15 ho15 sr15 dt dt2
  go_wp2_with fail
  refine (held_any gv ys.length 1 _ (by omega) (by omega) (Reads.of_own go16)).mono ?_
  rintro e w17 ⟨rfl, b17⟩
  have d17 := bw_call d16 b17
  clear b17 d16 go16
  go_wp2_with fail
  go_ret
  exact ⟨rfl, d17⟩

set_option maxRecDepth 100000 in
theorem lifted (os : Os) (started : os.Started) (H : Type) (enc : TypeId × Value → H) :
    ReturnsInHanded {} Try.checked os 5 .any (Rows.fnExactFedSpec.pre6 enc Try.prog Try.f5 Rows.fnExactFedRow.domain false) (Rows.fnExactFedSpec.post enc Try.prog Try.f5 false true false false) := by
  refine returnsInHanded_of_change (C := Try.checked) own started (by kernel_rfl) Try.func5
    (ChangeSpec.witness6 (enc := enc) (C := Try.checked) false ⟨#[], #[.agg #[.string ByteArray.empty, .int .i64 0], .string ByteArray.empty], []⟩ 8 (by kernel_rfl) (by kernel_rfl) (by kernel_rfl) (by kernel_rfl)) ?_
  intro W base args ds gs before hval0 hW hcnd _
  have hval : ∀ (j : Nat) t v, Try.f5.params[j]? = some t → args[j]? = some v → Value.okWide Try.prog W .any base t v := hval0
  have hW' := hW
  obtain ⟨p, q, hA0, hV, rfl, hfz, hnd⟩ := hW
  have hA : DataW.TrodAll enc Try.prog W 0 (fun _ => true) true Try.f5.params.toList args.toList ds p := hA0
  rw [Try.params5] at hA hval
  obtain ⟨v0, vs0, d0, ds0, p0, q0, hargs, rfl, rfl, h0, rr0⟩ := trodAll_cons hA
  obtain ⟨v1, vs1, d1, ds1, p1, q1, rfl, rfl, rfl, h1, rr1⟩ := trodAll_cons rr0
  obtain ⟨rfl, rfl, rfl⟩ := trodAll_nil rr1
  obtain rfl : args = #[v0, v1] := by cases args; simp_all
  obtain ⟨rfl, rfl⟩ := trodVars_none hV
  have kk0 := h0
  have lt0 : ∀ x ∈ p0, x.block < W.heap.size := by obtain ⟨fuel, hfuel⟩ := kk0; exact DataW.trod_lt fuel _ _ _ hfuel
  obtain ⟨r0, k0, rfl, w0, x0⟩ := open_feed (hval 0 29 v0 rfl rfl) h0
  have kk1 := h1
  have lt1 : ∀ x ∈ p1, x.block < W.heap.size := by obtain ⟨fuel, hfuel⟩ := kk1; exact DataW.trod_lt fuel _ _ _ hfuel
  obtain ⟨a1, rfl, w1⟩ := open_str (hval 1 9 v1 rfl rfl) h1
  clear hA0 hval0
  refine (walk r0 k0 a1 W w0 x0 w1).mono fun e W' ⟨he, bel⟩ => ?_
  subst he
  exact ⟨_, rfl, _, _, _, [], _, [], hW', trodAll_mk1 (shut_bool Try.underlying4 _), (trodAll_cons_mk (Below.trod laidOut (by kernel_rfl) (of_decide_eq_true (by kernel_rfl)) kk0 bel lt0) (trodAll_cons_mk (Below.trod laidOut (by kernel_rfl) (of_decide_eq_true (by kernel_rfl)) kk1 bel lt1) trodAll_mk0)), rfl, bel.frame _, fun h => by cases h⟩

theorem over : Rows.fnExactFedRow.holds Try.pinned (OpenSpec.ofChange Rows.fnExactFedSpec) :=
  OpenClaim.holds_of_wide 5 Try.f5 rfl rfl rfl rfl rfl rfl rfl ⟨rfl, rfl, rfl, rfl, rfl⟩ rfl rfl rfl rfl rfl (by kernel_rfl) Try.func5 (by kernel_rfl)
    (of_decide_eq_true (by kernel_rfl)) (by unfold Func.isWrapper; first | (rw [if_pos (by decide +kernel)]; kernel_rfl) | (rw [if_neg (by decide +kernel)]; exact ⟨rfl, rfl⟩))
    (fun os started H enc _ => lifted os started H enc)

theorem proved : Rows.FnExactFedSaid :=
  over
#print axioms proved
end Go.Proofs.Ytbjkbhchcoabcah.fnExactFed
