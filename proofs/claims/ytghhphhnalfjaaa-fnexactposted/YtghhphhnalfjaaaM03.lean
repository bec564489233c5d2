/-
  Contracts and plain laws, one chapter behind the other.
-/
import Derived.Deep.Cut
import Derived.Deep.RegionHeld3
import Derived.Laws.MakeOwn
import Derived.Test.YtghhphhnalfjaaaChecked
import Derived.Deep.Slices
import Derived.Deep.Strs
import Derived.Deep.DeepCutAuto
import Derived.Test.YtghhphhnalfjaaaM01
import Derived.Test.YtghhphhnalfjaaaM02
namespace Go.Proofs.Ytghhphhnalfjaaa
open Go.RowKit

set_option linter.unusedVariables false

set_option maxRecDepth 100000


theorem putE_set (x0 x1 x2 x3 x4 x5 x6 x7 x8 x9 x10 x11 x12 x13 x14 z3 z4 z5 z6 z7 z8 z9 z10 z11 : Value) : ((((((((((#[x0, x1, x2, x3, x4, x5, x6, x7, x8, x9, x10, x11, x12, x13, x14] : Array Value).setIfInBounds 3 z3).setIfInBounds 4 z4).setIfInBounds 5 z5).setIfInBounds 6 z6).setIfInBounds 7 z7).setIfInBounds 8 z8).setIfInBounds 9 z9).setIfInBounds 10 z10).setIfInBounds 11 z11) = #[x0, x1, x2, z3, z4, z5, z6, z7, z8, z9, z10, z11, x12, x13, x14] := by
  apply Array.toList_inj.1
  simp only [Array.toList_setIfInBounds]
  rfl

set_option maxHeartbeats 1600000 in
theorem putE {w W : World} {b : Nat} {x0 x1 x2 x3 x4 x5 x6 x7 x8 x9 x10 x11 x12 x13 x14 : Value} {t : TypeId} (h : w.heap.size ≤ b) (k : W.heap[b]? = some (.cells #[x0, x1, x2, x3, x4, x5, x6, x7, x8, x9, x10, x11, x12, x13, x14] t (0, 0))) (d : Below w.heap.size w W) (z3 z4 z5 z6 z7 z8 z9 z10 z11 : Value) :
    (((((((((W.setCell ⟨b, 3, none⟩ (z3)).setCell ⟨b, 4, none⟩ (z4)).setCell ⟨b, 5, none⟩ (z5)).setCell ⟨b, 6, none⟩ (z6)).setCell ⟨b, 7, none⟩ (z7)).setCell ⟨b, 8, none⟩ (z8)).setCell ⟨b, 9, none⟩ (z9)).setCell ⟨b, 10, none⟩ (z10)).setCell ⟨b, 11, none⟩ (z11)).heap[b]? = some (.cells #[x0, x1, x2, z3, z4, z5, z6, z7, z8, z9, z10, z11, x12, x13, x14] t (0, 0)) ∧ Below w.heap.size w (((((((((W.setCell ⟨b, 3, none⟩ (z3)).setCell ⟨b, 4, none⟩ (z4)).setCell ⟨b, 5, none⟩ (z5)).setCell ⟨b, 6, none⟩ (z6)).setCell ⟨b, 7, none⟩ (z7)).setCell ⟨b, 8, none⟩ (z8)).setCell ⟨b, 9, none⟩ (z9)).setCell ⟨b, 10, none⟩ (z10)).setCell ⟨b, 11, none⟩ (z11)) ∧ Upto b W (((((((((W.setCell ⟨b, 3, none⟩ (z3)).setCell ⟨b, 4, none⟩ (z4)).setCell ⟨b, 5, none⟩ (z5)).setCell ⟨b, 6, none⟩ (z6)).setCell ⟨b, 7, none⟩ (z7)).setCell ⟨b, 8, none⟩ (z8)).setCell ⟨b, 9, none⟩ (z9)).setCell ⟨b, 10, none⟩ (z10)).setCell ⟨b, 11, none⟩ (z11)) := by
  refine ⟨?_, (bw_set (bw_set (bw_set (bw_set (bw_set (bw_set (bw_set (bw_set (bw_set d h _) h _) h _) h _) h _) h _) h _) h _) h _), ((((((((((Upto.refl b W).setCell ⟨b, 3, none⟩ (.inl rfl) _).setCell ⟨b, 4, none⟩ (.inl rfl) _).setCell ⟨b, 5, none⟩ (.inl rfl) _).setCell ⟨b, 6, none⟩ (.inl rfl) _).setCell ⟨b, 7, none⟩ (.inl rfl) _).setCell ⟨b, 8, none⟩ (.inl rfl) _).setCell ⟨b, 9, none⟩ (.inl rfl) _).setCell ⟨b, 10, none⟩ (.inl rfl) _).setCell ⟨b, 11, none⟩ (.inl rfl) _)⟩
  have e := k
  replace e := set_at e 3 z3
  replace e := set_at e 4 z4
  replace e := set_at e 5 z5
  replace e := set_at e 6 z6
  replace e := set_at e 7 z7
  replace e := set_at e 8 z8
  replace e := set_at e 9 z9
  replace e := set_at e 10 z10
  replace e := set_at e 11 z11
  rw [putE_set] at e
  exact e

theorem putS_set (x0 x1 x2 x3 x4 x5 x6 x7 x8 x9 x10 x11 x12 x13 x14 z12 : Value) : ((#[x0, x1, x2, x3, x4, x5, x6, x7, x8, x9, x10, x11, x12, x13, x14] : Array Value).setIfInBounds 12 z12) = #[x0, x1, x2, x3, x4, x5, x6, x7, x8, x9, x10, x11, z12, x13, x14] := by
  apply Array.toList_inj.1
  simp only [Array.toList_setIfInBounds]
  rfl

set_option maxHeartbeats 1600000 in
theorem putS {w W : World} {b : Nat} {x0 x1 x2 x3 x4 x5 x6 x7 x8 x9 x10 x11 x12 x13 x14 : Value} {t : TypeId} (h : w.heap.size ≤ b) (k : W.heap[b]? = some (.cells #[x0, x1, x2, x3, x4, x5, x6, x7, x8, x9, x10, x11, x12, x13, x14] t (0, 0))) (d : Below w.heap.size w W) (z12 : Value) :
    (W.setCell ⟨b, 12, none⟩ (z12)).heap[b]? = some (.cells #[x0, x1, x2, x3, x4, x5, x6, x7, x8, x9, x10, x11, z12, x13, x14] t (0, 0)) ∧ Below w.heap.size w (W.setCell ⟨b, 12, none⟩ (z12)) ∧ Upto b W (W.setCell ⟨b, 12, none⟩ (z12)) := by
  refine ⟨?_, (bw_set d h _), ((Upto.refl b W).setCell ⟨b, 12, none⟩ (.inl rfl) _)⟩
  have e := k
  replace e := set_at e 12 z12
  rw [putS_set] at e
  exact e

theorem putA_set (x0 x1 x2 x3 x4 x5 x6 x7 x8 x9 x10 x11 x12 x13 x14 z3 z4 z5 z6 z7 z8 z9 z10 z11 z12 z13 z14 : Value) : (((((((((((((#[x0, x1, x2, x3, x4, x5, x6, x7, x8, x9, x10, x11, x12, x13, x14] : Array Value).setIfInBounds 3 z3).setIfInBounds 4 z4).setIfInBounds 5 z5).setIfInBounds 6 z6).setIfInBounds 7 z7).setIfInBounds 8 z8).setIfInBounds 9 z9).setIfInBounds 10 z10).setIfInBounds 11 z11).setIfInBounds 12 z12).setIfInBounds 13 z13).setIfInBounds 14 z14) = #[x0, x1, x2, z3, z4, z5, z6, z7, z8, z9, z10, z11, z12, z13, z14] := by
  apply Array.toList_inj.1
  simp only [Array.toList_setIfInBounds]
  rfl

set_option maxHeartbeats 1600000 in
theorem putA {w W : World} {b : Nat} {x0 x1 x2 x3 x4 x5 x6 x7 x8 x9 x10 x11 x12 x13 x14 : Value} {t : TypeId} (h : w.heap.size ≤ b) (k : W.heap[b]? = some (.cells #[x0, x1, x2, x3, x4, x5, x6, x7, x8, x9, x10, x11, x12, x13, x14] t (0, 0))) (d : Below w.heap.size w W) (z3 z4 z5 z6 z7 z8 z9 z10 z11 z12 z13 z14 : Value) :
    ((((((((((((W.setCell ⟨b, 3, none⟩ (z3)).setCell ⟨b, 4, none⟩ (z4)).setCell ⟨b, 5, none⟩ (z5)).setCell ⟨b, 6, none⟩ (z6)).setCell ⟨b, 7, none⟩ (z7)).setCell ⟨b, 8, none⟩ (z8)).setCell ⟨b, 9, none⟩ (z9)).setCell ⟨b, 10, none⟩ (z10)).setCell ⟨b, 11, none⟩ (z11)).setCell ⟨b, 12, none⟩ (z12)).setCell ⟨b, 13, none⟩ (z13)).setCell ⟨b, 14, none⟩ (z14)).heap[b]? = some (.cells #[x0, x1, x2, z3, z4, z5, z6, z7, z8, z9, z10, z11, z12, z13, z14] t (0, 0)) ∧ Below w.heap.size w ((((((((((((W.setCell ⟨b, 3, none⟩ (z3)).setCell ⟨b, 4, none⟩ (z4)).setCell ⟨b, 5, none⟩ (z5)).setCell ⟨b, 6, none⟩ (z6)).setCell ⟨b, 7, none⟩ (z7)).setCell ⟨b, 8, none⟩ (z8)).setCell ⟨b, 9, none⟩ (z9)).setCell ⟨b, 10, none⟩ (z10)).setCell ⟨b, 11, none⟩ (z11)).setCell ⟨b, 12, none⟩ (z12)).setCell ⟨b, 13, none⟩ (z13)).setCell ⟨b, 14, none⟩ (z14)) ∧ Upto b W ((((((((((((W.setCell ⟨b, 3, none⟩ (z3)).setCell ⟨b, 4, none⟩ (z4)).setCell ⟨b, 5, none⟩ (z5)).setCell ⟨b, 6, none⟩ (z6)).setCell ⟨b, 7, none⟩ (z7)).setCell ⟨b, 8, none⟩ (z8)).setCell ⟨b, 9, none⟩ (z9)).setCell ⟨b, 10, none⟩ (z10)).setCell ⟨b, 11, none⟩ (z11)).setCell ⟨b, 12, none⟩ (z12)).setCell ⟨b, 13, none⟩ (z13)).setCell ⟨b, 14, none⟩ (z14)) := by
  refine ⟨?_, (bw_set (bw_set (bw_set (bw_set (bw_set (bw_set (bw_set (bw_set (bw_set (bw_set (bw_set (bw_set d h _) h _) h _) h _) h _) h _) h _) h _) h _) h _) h _) h _), (((((((((((((Upto.refl b W).setCell ⟨b, 3, none⟩ (.inl rfl) _).setCell ⟨b, 4, none⟩ (.inl rfl) _).setCell ⟨b, 5, none⟩ (.inl rfl) _).setCell ⟨b, 6, none⟩ (.inl rfl) _).setCell ⟨b, 7, none⟩ (.inl rfl) _).setCell ⟨b, 8, none⟩ (.inl rfl) _).setCell ⟨b, 9, none⟩ (.inl rfl) _).setCell ⟨b, 10, none⟩ (.inl rfl) _).setCell ⟨b, 11, none⟩ (.inl rfl) _).setCell ⟨b, 12, none⟩ (.inl rfl) _).setCell ⟨b, 13, none⟩ (.inl rfl) _).setCell ⟨b, 14, none⟩ (.inl rfl) _)⟩
  have e := k
  replace e := set_at e 3 z3
  replace e := set_at e 4 z4
  replace e := set_at e 5 z5
  replace e := set_at e 6 z6
  replace e := set_at e 7 z7
  replace e := set_at e 8 z8
  replace e := set_at e 9 z9
  replace e := set_at e 10 z10
  replace e := set_at e 11 z11
  replace e := set_at e 12 z12
  replace e := set_at e 13 z13
  replace e := set_at e 14 z14
  rw [putA_set] at e
  exact e

theorem putF_set (x0 x1 x2 x3 x4 x5 x6 x7 x8 x9 x10 x11 x12 x13 x14 z0 z1 z2 z3 z4 z5 z6 z7 z8 z9 z10 z11 z12 z13 z14 : Value) : ((((((((((((((((#[x0, x1, x2, x3, x4, x5, x6, x7, x8, x9, x10, x11, x12, x13, x14] : Array Value).setIfInBounds 0 z0).setIfInBounds 1 z1).setIfInBounds 2 z2).setIfInBounds 3 z3).setIfInBounds 4 z4).setIfInBounds 5 z5).setIfInBounds 6 z6).setIfInBounds 7 z7).setIfInBounds 8 z8).setIfInBounds 9 z9).setIfInBounds 10 z10).setIfInBounds 11 z11).setIfInBounds 12 z12).setIfInBounds 13 z13).setIfInBounds 14 z14) = #[z0, z1, z2, z3, z4, z5, z6, z7, z8, z9, z10, z11, z12, z13, z14] := by
  apply Array.toList_inj.1
  simp only [Array.toList_setIfInBounds]
  rfl

set_option maxHeartbeats 1600000 in
theorem putF {w W : World} {b : Nat} {x0 x1 x2 x3 x4 x5 x6 x7 x8 x9 x10 x11 x12 x13 x14 : Value} {t : TypeId} (h : w.heap.size ≤ b) (k : W.heap[b]? = some (.cells #[x0, x1, x2, x3, x4, x5, x6, x7, x8, x9, x10, x11, x12, x13, x14] t (0, 0))) (d : Below w.heap.size w W) (z0 z1 z2 z3 z4 z5 z6 z7 z8 z9 z10 z11 z12 z13 z14 : Value) :
    (((((((((((((((W.setCell ⟨b, 0, none⟩ (z0)).setCell ⟨b, 1, none⟩ (z1)).setCell ⟨b, 2, none⟩ (z2)).setCell ⟨b, 3, none⟩ (z3)).setCell ⟨b, 4, none⟩ (z4)).setCell ⟨b, 5, none⟩ (z5)).setCell ⟨b, 6, none⟩ (z6)).setCell ⟨b, 7, none⟩ (z7)).setCell ⟨b, 8, none⟩ (z8)).setCell ⟨b, 9, none⟩ (z9)).setCell ⟨b, 10, none⟩ (z10)).setCell ⟨b, 11, none⟩ (z11)).setCell ⟨b, 12, none⟩ (z12)).setCell ⟨b, 13, none⟩ (z13)).setCell ⟨b, 14, none⟩ (z14)).heap[b]? = some (.cells #[z0, z1, z2, z3, z4, z5, z6, z7, z8, z9, z10, z11, z12, z13, z14] t (0, 0)) ∧ Below w.heap.size w (((((((((((((((W.setCell ⟨b, 0, none⟩ (z0)).setCell ⟨b, 1, none⟩ (z1)).setCell ⟨b, 2, none⟩ (z2)).setCell ⟨b, 3, none⟩ (z3)).setCell ⟨b, 4, none⟩ (z4)).setCell ⟨b, 5, none⟩ (z5)).setCell ⟨b, 6, none⟩ (z6)).setCell ⟨b, 7, none⟩ (z7)).setCell ⟨b, 8, none⟩ (z8)).setCell ⟨b, 9, none⟩ (z9)).setCell ⟨b, 10, none⟩ (z10)).setCell ⟨b, 11, none⟩ (z11)).setCell ⟨b, 12, none⟩ (z12)).setCell ⟨b, 13, none⟩ (z13)).setCell ⟨b, 14, none⟩ (z14)) ∧ Upto b W (((((((((((((((W.setCell ⟨b, 0, none⟩ (z0)).setCell ⟨b, 1, none⟩ (z1)).setCell ⟨b, 2, none⟩ (z2)).setCell ⟨b, 3, none⟩ (z3)).setCell ⟨b, 4, none⟩ (z4)).setCell ⟨b, 5, none⟩ (z5)).setCell ⟨b, 6, none⟩ (z6)).setCell ⟨b, 7, none⟩ (z7)).setCell ⟨b, 8, none⟩ (z8)).setCell ⟨b, 9, none⟩ (z9)).setCell ⟨b, 10, none⟩ (z10)).setCell ⟨b, 11, none⟩ (z11)).setCell ⟨b, 12, none⟩ (z12)).setCell ⟨b, 13, none⟩ (z13)).setCell ⟨b, 14, none⟩ (z14)) := by
  refine ⟨?_, (bw_set (bw_set (bw_set (bw_set (bw_set (bw_set (bw_set (bw_set (bw_set (bw_set (bw_set (bw_set (bw_set (bw_set (bw_set d h _) h _) h _) h _) h _) h _) h _) h _) h _) h _) h _) h _) h _) h _) h _), ((((((((((((((((Upto.refl b W).setCell ⟨b, 0, none⟩ (.inl rfl) _).setCell ⟨b, 1, none⟩ (.inl rfl) _).setCell ⟨b, 2, none⟩ (.inl rfl) _).setCell ⟨b, 3, none⟩ (.inl rfl) _).setCell ⟨b, 4, none⟩ (.inl rfl) _).setCell ⟨b, 5, none⟩ (.inl rfl) _).setCell ⟨b, 6, none⟩ (.inl rfl) _).setCell ⟨b, 7, none⟩ (.inl rfl) _).setCell ⟨b, 8, none⟩ (.inl rfl) _).setCell ⟨b, 9, none⟩ (.inl rfl) _).setCell ⟨b, 10, none⟩ (.inl rfl) _).setCell ⟨b, 11, none⟩ (.inl rfl) _).setCell ⟨b, 12, none⟩ (.inl rfl) _).setCell ⟨b, 13, none⟩ (.inl rfl) _).setCell ⟨b, 14, none⟩ (.inl rfl) _)⟩
  have e := k
  replace e := set_at e 0 z0
  replace e := set_at e 1 z1
  replace e := set_at e 2 z2
  replace e := set_at e 3 z3
  replace e := set_at e 4 z4
  replace e := set_at e 5 z5
  replace e := set_at e 6 z6
  replace e := set_at e 7 z7
  replace e := set_at e 8 z8
  replace e := set_at e 9 z9
  replace e := set_at e 10 z10
  replace e := set_at e 11 z11
  replace e := set_at e 12 z12
  replace e := set_at e 13 z13
  replace e := set_at e 14 z14
  rw [putF_set] at e
  exact e

set_option maxHeartbeats 1600000 in
theorem askedOk_any (sq cl tg k : Int) (nm ot : ByteArray) (at_ va ep : Int) (w : World) (hf : FitEnt ⟨sq, cl, tg, ⟨k, nm, ot, at_, va, ep⟩⟩) :
    Calls Try.prog 48 #[.agg #[.int .i64 sq, .int .i64 cl, .int .i64 tg, .int .i64 k, .string nm, .string ot, .int .i64 at_, .int .i64 va, .int .i64 ep]] w fun e w' => e = .returned (.bool (asked ⟨sq, cl, tg, ⟨k, nm, ot, at_, va, ep⟩⟩)) ∧ Below w.heap.size w w' := by
  obtain ⟨⟨hn, ho⟩, -, -, -, fk, fa, fv, fe⟩ := hf
  simp only at hn ho fk fa fv fe
  obtain ⟨W0, hW0, k0, d0, z0⟩ := box1 w #[.int .i64 sq, .int .i64 cl, .int .i64 tg, .int .i64 k, .string nm, .string ot, .int .i64 at_, .int .i64 va, .int .i64 ep] 34
  have HW0 : Hid (W0 = _) := hW0
  have p0 := at_cell k0 0
  have p1 := at_cell k0 1
  have p2 := at_cell k0 2
  have p3 := at_cell k0 3
  have p4 := at_cell k0 4
  have p5 := at_cell k0 5
  have p6 := at_cell k0 6
  have p7 := at_cell k0 7
  have p8 := at_cell k0 8
  have HB : Hid (asked ⟨sq, cl, tg, ⟨k, nm, ot, at_, va, ep⟩⟩ = (decide (sq = 0) && inB tg 1 1000 && inB cl 0 3 && opOk ⟨k, nm, ot, at_, va, ep⟩)) := rfl
  clear hW0 z0 k0
  go_enter Try.func48, Try.ntmps48
  by_cases h0 : sq = 0
  case neg =>
    have HV : Hid (asked ⟨sq, cl, tg, ⟨k, nm, ot, at_, va, ep⟩⟩ = false) := by simp [Hid, asked, h0]
    clear HB
    go_wp2_with fail
    go_ret
    rw [← HW0.out]
    exact ⟨ret_bool HV.out.symm, d0⟩
  subst h0
  go_wp2_with fail
  rw [← HW0.out]
  clear HW0
  refine (clientOk_any cl _).mono ?_
  rintro e w' ⟨rfl, rfl⟩
  generalize inB cl 0 3 = c1 at *
  cases c1
  · go_wp2_with fail
    go_ret
    exact ⟨ret_bool (by rw [HB.out]; simp), d0⟩
  go_wp2_with fail
  refine (tagOk_any tg _).mono ?_
  rintro e w' ⟨rfl, rfl⟩
  generalize inB tg 1 1000 = c2 at *
  cases c2
  · go_wp2_with fail
    go_ret
    exact ⟨ret_bool (by rw [HB.out]; simp), d0⟩
  go_wp2_with fail
  refine (implOpOk_any k nm ot at_ va ep _ hn ho fk fa fv fe).mono ?_
  rintro e w1 ⟨rfl, b1⟩
  replace d0 := bw_call d0 b1
  generalize opOk ⟨k, nm, ot, at_, va, ep⟩ = c3 at *
  go_wp2_with fail
  go_ret
  exact ⟨ret_bool (by rw [HB.out]; simp), d0⟩

set_option maxHeartbeats 6400000 in
theorem told1_any (ds vw sq cl tg k : Int) (nm ot : ByteArray) (at_ va ep s rc rv : Int) (w : World) :
    Calls Try.prog 45 #[.agg #[.int .i64 1, .int .i64 ds, .int .i64 vw, .int .i64 sq, .int .i64 cl, .int .i64 tg, .int .i64 k, .string nm, .string ot, .int .i64 at_, .int .i64 va, .int .i64 ep, .int .i64 s, .int .i64 rc, .int .i64 rv]] w fun e w' => e = .returned (.agg #[.int .i64 1, .int .i64 ds, .int .i64 vw, .int .i64 sq, .int .i64 cl, .int .i64 tg, .int .i64 k, .string nm, .string ot, .int .i64 at_, .int .i64 va, .int .i64 ep, .int .i64 0, .int .i64 0, .int .i64 0]) ∧ Below w.heap.size w w' := by
  obtain ⟨W0, hW0, k0, k1, k2, d0, z0⟩ := box3 w #[.int .i64 1, .int .i64 ds, .int .i64 vw, .int .i64 sq, .int .i64 cl, .int .i64 tg, .int .i64 k, .string nm, .string ot, .int .i64 at_, .int .i64 va, .int .i64 ep, .int .i64 s, .int .i64 rc, .int .i64 rv] #[.int .i64 0, .int .i64 0, .int .i64 0, .int .i64 0, .int .i64 0, .int .i64 0, .int .i64 0, .string ⟨#[]⟩, .string ⟨#[]⟩, .int .i64 0, .int .i64 0, .int .i64 0, .int .i64 0, .int .i64 0, .int .i64 0] #[.int .i64 1, .int .i64 ds, .int .i64 vw, .int .i64 0, .int .i64 0, .int .i64 0, .int .i64 0, .string ⟨#[]⟩, .string ⟨#[]⟩, .int .i64 0, .int .i64 0, .int .i64 0, .int .i64 0, .int .i64 0, .int .i64 0] 38 38 38
  have HW0 : Hid (W0 = _) := hW0
  have p0 := at_cell k0 0
  have p1 := at_cell k0 1
  have p2 := at_cell k0 2
  have p3 := at_cell k0 3
  have p4 := at_cell k0 4
  have p5 := at_cell k0 5
  have p6 := at_cell k0 6
  have p7 := at_cell k0 7
  have p8 := at_cell k0 8
  have p9 := at_cell k0 9
  have p10 := at_cell k0 10
  have p11 := at_cell k0 11
  have p12 := at_cell k0 12
  have p13 := at_cell k0 13
  have p14 := at_cell k0 14
  clear hW0 z0
  have c3 := at_cell k2 3
  have c4 := at_cell k2 4
  have c5 := at_cell k2 5
  have c6 := at_cell k2 6
  have c7 := at_cell k2 7
  have c8 := at_cell k2 8
  have c9 := at_cell k2 9
  have c10 := at_cell k2 10
  have c11 := at_cell k2 11
  have f3 := at_open k2 3
  have f4 := at_open k2 4
  have f5 := at_open k2 5
  have f6 := at_open k2 6
  have f7 := at_open k2 7
  have f8 := at_open k2 8
  have f9 := at_open k2 9
  have f10 := at_open k2 10
  have f11 := at_open k2 11
  obtain ⟨s1, s2, s3⟩ := putE (b := w.heap.size + 1 + 1) (by omega) k2 d0 (.int .i64 sq) (.int .i64 cl) (.int .i64 tg) (.int .i64 k) (.string nm) (.string ot) (.int .i64 at_) (.int .i64 va) (.int .i64 ep)
  have e1 := (s3.block (w.heap.size + 1) (heap_lt k1) (by omega)).trans k1
  obtain ⟨W2, hW2⟩ : ∃ W2, W2 = (((((((((W0.setCell ⟨w.heap.size + 1 + 1, 3, none⟩ (.int .i64 sq)).setCell ⟨w.heap.size + 1 + 1, 4, none⟩ (.int .i64 cl)).setCell ⟨w.heap.size + 1 + 1, 5, none⟩ (.int .i64 tg)).setCell ⟨w.heap.size + 1 + 1, 6, none⟩ (.int .i64 k)).setCell ⟨w.heap.size + 1 + 1, 7, none⟩ (.string nm)).setCell ⟨w.heap.size + 1 + 1, 8, none⟩ (.string ot)).setCell ⟨w.heap.size + 1 + 1, 9, none⟩ (.int .i64 at_)).setCell ⟨w.heap.size + 1 + 1, 10, none⟩ (.int .i64 va)).setCell ⟨w.heap.size + 1 + 1, 11, none⟩ (.int .i64 ep)) := ⟨_, rfl⟩
  rw [← hW2] at s1 s2 e1
  have HW2 : Hid (W2 = _) := hW2
  clear hW2
  have q0 := at_cell s1 0
  have q1 := at_cell s1 1
  have q2 := at_cell s1 2
  have q3 := at_cell s1 3
  have q4 := at_cell s1 4
  have q5 := at_cell s1 5
  have q6 := at_cell s1 6
  have q7 := at_cell s1 7
  have q8 := at_cell s1 8
  have q9 := at_cell s1 9
  have q10 := at_cell s1 10
  have q11 := at_cell s1 11
  have q12 := at_cell s1 12
  have q13 := at_cell s1 13
  have q14 := at_cell s1 14
  have g0 := at_open e1 0
  have g1 := at_open e1 1
  have g2 := at_open e1 2
  have g3 := at_open e1 3
  have g4 := at_open e1 4
  have g5 := at_open e1 5
  have g6 := at_open e1 6
  have g7 := at_open e1 7
  have g8 := at_open e1 8
  have g9 := at_open e1 9
  have g10 := at_open e1 10
  have g11 := at_open e1 11
  have g12 := at_open e1 12
  have g13 := at_open e1 13
  have g14 := at_open e1 14
  have r0 := at_cell e1 0
  have r1 := at_cell e1 1
  have r2 := at_cell e1 2
  have r3 := at_cell e1 3
  have r4 := at_cell e1 4
  have r5 := at_cell e1 5
  have r6 := at_cell e1 6
  have r7 := at_cell e1 7
  have r8 := at_cell e1 8
  have r9 := at_cell e1 9
  have r10 := at_cell e1 10
  have r11 := at_cell e1 11
  have r12 := at_cell e1 12
  have r13 := at_cell e1 13
  have r14 := at_cell e1 14
  have HS : Hid _ := putF (b := w.heap.size + 1) (by omega) e1 s2 (.int .i64 1) (.int .i64 ds) (.int .i64 vw) (.int .i64 sq) (.int .i64 cl) (.int .i64 tg) (.int .i64 k) (.string nm) (.string ot) (.int .i64 at_) (.int .i64 va) (.int .i64 ep) (.int .i64 0) (.int .i64 0) (.int .i64 0)

  clear s1 s2 s3 e1 k0 k1 k2 d0
  go_enter Try.func45, Try.ntmps45
  go_upto_region 5 with fail
  rw [← HW0.out]
  clear HW0
  go_upto_region 10 with fail
  rw [← HW2.out]
  clear HW2 c3 f3 c4 f4 c5 f5 c6 f6 c7 f7 c8 f8 c9 f9 c10 f10 c11 f11
  go_wp2_with fail
  exact bodyPost_ret (v := .agg #[.int .i64 1, .int .i64 ds, .int .i64 vw, .int .i64 sq, .int .i64 cl, .int .i64 tg, .int .i64 k, .string nm, .string ot, .int .i64 at_, .int .i64 va, .int .i64 ep, .int .i64 0, .int .i64 0, .int .i64 0]) (by simp [results, Try.results45, go_sem, at_cell HS.out.1]) rfl ⟨rfl, HS.out.2.1⟩

set_option maxHeartbeats 6400000 in
theorem told2_any (ds vw sq cl tg k : Int) (nm ot : ByteArray) (at_ va ep s rc rv : Int) (w : World) :
    Calls Try.prog 45 #[.agg #[.int .i64 2, .int .i64 ds, .int .i64 vw, .int .i64 sq, .int .i64 cl, .int .i64 tg, .int .i64 k, .string nm, .string ot, .int .i64 at_, .int .i64 va, .int .i64 ep, .int .i64 s, .int .i64 rc, .int .i64 rv]] w fun e w' => e = .returned (.agg #[.int .i64 2, .int .i64 ds, .int .i64 vw, .int .i64 sq, .int .i64 cl, .int .i64 tg, .int .i64 k, .string nm, .string ot, .int .i64 at_, .int .i64 va, .int .i64 ep, .int .i64 0, .int .i64 0, .int .i64 0]) ∧ Below w.heap.size w w' := by
  obtain ⟨W0, hW0, k0, k1, k2, d0, z0⟩ := box3 w #[.int .i64 2, .int .i64 ds, .int .i64 vw, .int .i64 sq, .int .i64 cl, .int .i64 tg, .int .i64 k, .string nm, .string ot, .int .i64 at_, .int .i64 va, .int .i64 ep, .int .i64 s, .int .i64 rc, .int .i64 rv] #[.int .i64 0, .int .i64 0, .int .i64 0, .int .i64 0, .int .i64 0, .int .i64 0, .int .i64 0, .string ⟨#[]⟩, .string ⟨#[]⟩, .int .i64 0, .int .i64 0, .int .i64 0, .int .i64 0, .int .i64 0, .int .i64 0] #[.int .i64 2, .int .i64 ds, .int .i64 vw, .int .i64 0, .int .i64 0, .int .i64 0, .int .i64 0, .string ⟨#[]⟩, .string ⟨#[]⟩, .int .i64 0, .int .i64 0, .int .i64 0, .int .i64 0, .int .i64 0, .int .i64 0] 38 38 38
  have HW0 : Hid (W0 = _) := hW0
  have p0 := at_cell k0 0
  have p1 := at_cell k0 1
  have p2 := at_cell k0 2
  have p3 := at_cell k0 3
  have p4 := at_cell k0 4
  have p5 := at_cell k0 5
  have p6 := at_cell k0 6
  have p7 := at_cell k0 7
  have p8 := at_cell k0 8
  have p9 := at_cell k0 9
  have p10 := at_cell k0 10
  have p11 := at_cell k0 11
  have p12 := at_cell k0 12
  have p13 := at_cell k0 13
  have p14 := at_cell k0 14
  clear hW0 z0
  have c3 := at_cell k2 3
  have c4 := at_cell k2 4
  have c5 := at_cell k2 5
  have c6 := at_cell k2 6
  have c7 := at_cell k2 7
  have c8 := at_cell k2 8
  have c9 := at_cell k2 9
  have c10 := at_cell k2 10
  have c11 := at_cell k2 11
  have f3 := at_open k2 3
  have f4 := at_open k2 4
  have f5 := at_open k2 5
  have f6 := at_open k2 6
  have f7 := at_open k2 7
  have f8 := at_open k2 8
  have f9 := at_open k2 9
  have f10 := at_open k2 10
  have f11 := at_open k2 11
  obtain ⟨s1, s2, s3⟩ := putE (b := w.heap.size + 1 + 1) (by omega) k2 d0 (.int .i64 sq) (.int .i64 cl) (.int .i64 tg) (.int .i64 k) (.string nm) (.string ot) (.int .i64 at_) (.int .i64 va) (.int .i64 ep)
  have e1 := (s3.block (w.heap.size + 1) (heap_lt k1) (by omega)).trans k1
  obtain ⟨W2, hW2⟩ : ∃ W2, W2 = (((((((((W0.setCell ⟨w.heap.size + 1 + 1, 3, none⟩ (.int .i64 sq)).setCell ⟨w.heap.size + 1 + 1, 4, none⟩ (.int .i64 cl)).setCell ⟨w.heap.size + 1 + 1, 5, none⟩ (.int .i64 tg)).setCell ⟨w.heap.size + 1 + 1, 6, none⟩ (.int .i64 k)).setCell ⟨w.heap.size + 1 + 1, 7, none⟩ (.string nm)).setCell ⟨w.heap.size + 1 + 1, 8, none⟩ (.string ot)).setCell ⟨w.heap.size + 1 + 1, 9, none⟩ (.int .i64 at_)).setCell ⟨w.heap.size + 1 + 1, 10, none⟩ (.int .i64 va)).setCell ⟨w.heap.size + 1 + 1, 11, none⟩ (.int .i64 ep)) := ⟨_, rfl⟩
  rw [← hW2] at s1 s2 e1
  have HW2 : Hid (W2 = _) := hW2
  clear hW2
  have q0 := at_cell s1 0
  have q1 := at_cell s1 1
  have q2 := at_cell s1 2
  have q3 := at_cell s1 3
  have q4 := at_cell s1 4
  have q5 := at_cell s1 5
  have q6 := at_cell s1 6
  have q7 := at_cell s1 7
  have q8 := at_cell s1 8
  have q9 := at_cell s1 9
  have q10 := at_cell s1 10
  have q11 := at_cell s1 11
  have q12 := at_cell s1 12
  have q13 := at_cell s1 13
  have q14 := at_cell s1 14
  have g0 := at_open e1 0
  have g1 := at_open e1 1
  have g2 := at_open e1 2
  have g3 := at_open e1 3
  have g4 := at_open e1 4
  have g5 := at_open e1 5
  have g6 := at_open e1 6
  have g7 := at_open e1 7
  have g8 := at_open e1 8
  have g9 := at_open e1 9
  have g10 := at_open e1 10
  have g11 := at_open e1 11
  have g12 := at_open e1 12
  have g13 := at_open e1 13
  have g14 := at_open e1 14
  have r0 := at_cell e1 0
  have r1 := at_cell e1 1
  have r2 := at_cell e1 2
  have r3 := at_cell e1 3
  have r4 := at_cell e1 4
  have r5 := at_cell e1 5
  have r6 := at_cell e1 6
  have r7 := at_cell e1 7
  have r8 := at_cell e1 8
  have r9 := at_cell e1 9
  have r10 := at_cell e1 10
  have r11 := at_cell e1 11
  have r12 := at_cell e1 12
  have r13 := at_cell e1 13
  have r14 := at_cell e1 14
  have HS : Hid _ := putF (b := w.heap.size + 1) (by omega) e1 s2 (.int .i64 2) (.int .i64 ds) (.int .i64 vw) (.int .i64 sq) (.int .i64 cl) (.int .i64 tg) (.int .i64 k) (.string nm) (.string ot) (.int .i64 at_) (.int .i64 va) (.int .i64 ep) (.int .i64 0) (.int .i64 0) (.int .i64 0)

  clear s1 s2 s3 e1 k0 k1 k2 d0
  go_enter Try.func45, Try.ntmps45
  go_upto_region 5 with fail
  rw [← HW0.out]
  clear HW0
  go_upto_region 10 with fail
  rw [← HW2.out]
  clear HW2 c3 f3 c4 f4 c5 f5 c6 f6 c7 f7 c8 f8 c9 f9 c10 f10 c11 f11
  go_wp2_with fail
  exact bodyPost_ret (v := .agg #[.int .i64 2, .int .i64 ds, .int .i64 vw, .int .i64 sq, .int .i64 cl, .int .i64 tg, .int .i64 k, .string nm, .string ot, .int .i64 at_, .int .i64 va, .int .i64 ep, .int .i64 0, .int .i64 0, .int .i64 0]) (by simp [results, Try.results45, go_sem, at_cell HS.out.1]) rfl ⟨rfl, HS.out.2.1⟩

set_option maxHeartbeats 6400000 in
theorem told3_any (ds vw sq cl tg k : Int) (nm ot : ByteArray) (at_ va ep s rc rv : Int) (w : World) :
    Calls Try.prog 45 #[.agg #[.int .i64 3, .int .i64 ds, .int .i64 vw, .int .i64 sq, .int .i64 cl, .int .i64 tg, .int .i64 k, .string nm, .string ot, .int .i64 at_, .int .i64 va, .int .i64 ep, .int .i64 s, .int .i64 rc, .int .i64 rv]] w fun e w' => e = .returned (.agg #[.int .i64 3, .int .i64 ds, .int .i64 vw, .int .i64 0, .int .i64 0, .int .i64 0, .int .i64 0, .string ⟨#[]⟩, .string ⟨#[]⟩, .int .i64 0, .int .i64 0, .int .i64 0, .int .i64 s, .int .i64 0, .int .i64 0]) ∧ Below w.heap.size w w' := by
  obtain ⟨W0, hW0, k0, k1, k2, d0, z0⟩ := box3 w #[.int .i64 3, .int .i64 ds, .int .i64 vw, .int .i64 sq, .int .i64 cl, .int .i64 tg, .int .i64 k, .string nm, .string ot, .int .i64 at_, .int .i64 va, .int .i64 ep, .int .i64 s, .int .i64 rc, .int .i64 rv] #[.int .i64 0, .int .i64 0, .int .i64 0, .int .i64 0, .int .i64 0, .int .i64 0, .int .i64 0, .string ⟨#[]⟩, .string ⟨#[]⟩, .int .i64 0, .int .i64 0, .int .i64 0, .int .i64 0, .int .i64 0, .int .i64 0] #[.int .i64 3, .int .i64 ds, .int .i64 vw, .int .i64 0, .int .i64 0, .int .i64 0, .int .i64 0, .string ⟨#[]⟩, .string ⟨#[]⟩, .int .i64 0, .int .i64 0, .int .i64 0, .int .i64 0, .int .i64 0, .int .i64 0] 38 38 38
  have HW0 : Hid (W0 = _) := hW0
  have p0 := at_cell k0 0
  have p1 := at_cell k0 1
  have p2 := at_cell k0 2
  have p3 := at_cell k0 3
  have p4 := at_cell k0 4
  have p5 := at_cell k0 5
  have p6 := at_cell k0 6
  have p7 := at_cell k0 7
  have p8 := at_cell k0 8
  have p9 := at_cell k0 9
  have p10 := at_cell k0 10
  have p11 := at_cell k0 11
  have p12 := at_cell k0 12
  have p13 := at_cell k0 13
  have p14 := at_cell k0 14
  clear hW0 z0
  have c12 := at_cell k2 12
  have f12 := at_open k2 12
  obtain ⟨s1, s2, s3⟩ := putS (b := w.heap.size + 1 + 1) (by omega) k2 d0 (.int .i64 s)
  have e1 := (s3.block (w.heap.size + 1) (heap_lt k1) (by omega)).trans k1
  obtain ⟨W2, hW2⟩ : ∃ W2, W2 = (W0.setCell ⟨w.heap.size + 1 + 1, 12, none⟩ (.int .i64 s)) := ⟨_, rfl⟩
  rw [← hW2] at s1 s2 e1
  have HW2 : Hid (W2 = _) := hW2
  clear hW2
  have q0 := at_cell s1 0
  have q1 := at_cell s1 1
  have q2 := at_cell s1 2
  have q3 := at_cell s1 3
  have q4 := at_cell s1 4
  have q5 := at_cell s1 5
  have q6 := at_cell s1 6
  have q7 := at_cell s1 7
  have q8 := at_cell s1 8
  have q9 := at_cell s1 9
  have q10 := at_cell s1 10
  have q11 := at_cell s1 11
  have q12 := at_cell s1 12
  have q13 := at_cell s1 13
  have q14 := at_cell s1 14
  have g0 := at_open e1 0
  have g1 := at_open e1 1
  have g2 := at_open e1 2
  have g3 := at_open e1 3
  have g4 := at_open e1 4
  have g5 := at_open e1 5
  have g6 := at_open e1 6
  have g7 := at_open e1 7
  have g8 := at_open e1 8
  have g9 := at_open e1 9
  have g10 := at_open e1 10
  have g11 := at_open e1 11
  have g12 := at_open e1 12
  have g13 := at_open e1 13
  have g14 := at_open e1 14
  have r0 := at_cell e1 0
  have r1 := at_cell e1 1
  have r2 := at_cell e1 2
  have r3 := at_cell e1 3
  have r4 := at_cell e1 4
  have r5 := at_cell e1 5
  have r6 := at_cell e1 6
  have r7 := at_cell e1 7
  have r8 := at_cell e1 8
  have r9 := at_cell e1 9
  have r10 := at_cell e1 10
  have r11 := at_cell e1 11
  have r12 := at_cell e1 12
  have r13 := at_cell e1 13
  have r14 := at_cell e1 14
  have HS : Hid _ := putF (b := w.heap.size + 1) (by omega) e1 s2 (.int .i64 3) (.int .i64 ds) (.int .i64 vw) (.int .i64 0) (.int .i64 0) (.int .i64 0) (.int .i64 0) (.string ⟨#[]⟩) (.string ⟨#[]⟩) (.int .i64 0) (.int .i64 0) (.int .i64 0) (.int .i64 s) (.int .i64 0) (.int .i64 0)

  clear s1 s2 s3 e1 k0 k1 k2 d0
  go_enter Try.func45, Try.ntmps45
  go_upto_region 7 with fail
  rw [← HW0.out]
  clear HW0
  go_upto_region 10 with fail
  rw [← HW2.out]
  clear HW2 c12 f12
  go_wp2_with fail
  exact bodyPost_ret (v := .agg #[.int .i64 3, .int .i64 ds, .int .i64 vw, .int .i64 0, .int .i64 0, .int .i64 0, .int .i64 0, .string ⟨#[]⟩, .string ⟨#[]⟩, .int .i64 0, .int .i64 0, .int .i64 0, .int .i64 s, .int .i64 0, .int .i64 0]) (by simp [results, Try.results45, go_sem, at_cell HS.out.1]) rfl ⟨rfl, HS.out.2.1⟩

set_option maxHeartbeats 6400000 in
theorem told0_any (kd ds vw sq cl tg k : Int) (nm ot : ByteArray) (at_ va ep s rc rv : Int) (w : World) (h1 : kd ≠ 1) (h2 : kd ≠ 2) (h3 : kd ≠ 3) (h4 : kd ≠ 4) :
    Calls Try.prog 45 #[.agg #[.int .i64 kd, .int .i64 ds, .int .i64 vw, .int .i64 sq, .int .i64 cl, .int .i64 tg, .int .i64 k, .string nm, .string ot, .int .i64 at_, .int .i64 va, .int .i64 ep, .int .i64 s, .int .i64 rc, .int .i64 rv]] w fun e w' => e = .returned (.agg #[.int .i64 kd, .int .i64 ds, .int .i64 vw, .int .i64 0, .int .i64 0, .int .i64 0, .int .i64 0, .string ⟨#[]⟩, .string ⟨#[]⟩, .int .i64 0, .int .i64 0, .int .i64 0, .int .i64 0, .int .i64 0, .int .i64 0]) ∧ Below w.heap.size w w' := by
  obtain ⟨W0, hW0, k0, k1, k2, d0, z0⟩ := box3 w #[.int .i64 kd, .int .i64 ds, .int .i64 vw, .int .i64 sq, .int .i64 cl, .int .i64 tg, .int .i64 k, .string nm, .string ot, .int .i64 at_, .int .i64 va, .int .i64 ep, .int .i64 s, .int .i64 rc, .int .i64 rv] #[.int .i64 0, .int .i64 0, .int .i64 0, .int .i64 0, .int .i64 0, .int .i64 0, .int .i64 0, .string ⟨#[]⟩, .string ⟨#[]⟩, .int .i64 0, .int .i64 0, .int .i64 0, .int .i64 0, .int .i64 0, .int .i64 0] #[.int .i64 kd, .int .i64 ds, .int .i64 vw, .int .i64 0, .int .i64 0, .int .i64 0, .int .i64 0, .string ⟨#[]⟩, .string ⟨#[]⟩, .int .i64 0, .int .i64 0, .int .i64 0, .int .i64 0, .int .i64 0, .int .i64 0] 38 38 38
  have HW0 : Hid (W0 = _) := hW0
  have p0 := at_cell k0 0
  have p1 := at_cell k0 1
  have p2 := at_cell k0 2
  have p3 := at_cell k0 3
  have p4 := at_cell k0 4
  have p5 := at_cell k0 5
  have p6 := at_cell k0 6
  have p7 := at_cell k0 7
  have p8 := at_cell k0 8
  have p9 := at_cell k0 9
  have p10 := at_cell k0 10
  have p11 := at_cell k0 11
  have p12 := at_cell k0 12
  have p13 := at_cell k0 13
  have p14 := at_cell k0 14
  clear hW0 z0
  have s1 := k2
  have s2 := d0
  have s3 := Upto.refl (w.heap.size + 1 + 1) W0
  have e1 := (s3.block (w.heap.size + 1) (heap_lt k1) (by omega)).trans k1
  have q0 := at_cell s1 0
  have q1 := at_cell s1 1
  have q2 := at_cell s1 2
  have q3 := at_cell s1 3
  have q4 := at_cell s1 4
  have q5 := at_cell s1 5
  have q6 := at_cell s1 6
  have q7 := at_cell s1 7
  have q8 := at_cell s1 8
  have q9 := at_cell s1 9
  have q10 := at_cell s1 10
  have q11 := at_cell s1 11
  have q12 := at_cell s1 12
  have q13 := at_cell s1 13
  have q14 := at_cell s1 14
  have g0 := at_open e1 0
  have g1 := at_open e1 1
  have g2 := at_open e1 2
  have g3 := at_open e1 3
  have g4 := at_open e1 4
  have g5 := at_open e1 5
  have g6 := at_open e1 6
  have g7 := at_open e1 7
  have g8 := at_open e1 8
  have g9 := at_open e1 9
  have g10 := at_open e1 10
  have g11 := at_open e1 11
  have g12 := at_open e1 12
  have g13 := at_open e1 13
  have g14 := at_open e1 14
  have r0 := at_cell e1 0
  have r1 := at_cell e1 1
  have r2 := at_cell e1 2
  have r3 := at_cell e1 3
  have r4 := at_cell e1 4
  have r5 := at_cell e1 5
  have r6 := at_cell e1 6
  have r7 := at_cell e1 7
  have r8 := at_cell e1 8
  have r9 := at_cell e1 9
  have r10 := at_cell e1 10
  have r11 := at_cell e1 11
  have r12 := at_cell e1 12
  have r13 := at_cell e1 13
  have r14 := at_cell e1 14
  have HS : Hid _ := putF (b := w.heap.size + 1) (by omega) e1 s2 (.int .i64 kd) (.int .i64 ds) (.int .i64 vw) (.int .i64 0) (.int .i64 0) (.int .i64 0) (.int .i64 0) (.string ⟨#[]⟩) (.string ⟨#[]⟩) (.int .i64 0) (.int .i64 0) (.int .i64 0) (.int .i64 0) (.int .i64 0) (.int .i64 0)

  clear s1 s2 s3 e1 k0 k1 k2 d0
  go_enter Try.func45, Try.ntmps45
  go_upto_region 10 with fail
  rw [← HW0.out]
  clear HW0
  go_wp2_with fail
  exact bodyPost_ret (v := .agg #[.int .i64 kd, .int .i64 ds, .int .i64 vw, .int .i64 0, .int .i64 0, .int .i64 0, .int .i64 0, .string ⟨#[]⟩, .string ⟨#[]⟩, .int .i64 0, .int .i64 0, .int .i64 0, .int .i64 0, .int .i64 0, .int .i64 0]) (by simp [results, Try.results45, go_sem, at_cell HS.out.1]) rfl ⟨rfl, HS.out.2.1⟩
end Go.Proofs.Ytghhphhnalfjaaa

namespace Go.Proofs.Ytghhphhnalfjaaa
open Go.ChangeShapes Go.WideShapes Go.ChangeAt Go.RowKit Go.Joins

set_option linter.unusedVariables false

set_option maxRecDepth 100000


theorem lit_i64o {a : Int} (h : (Lit.int .i64 a).wf = true) : I64 a := by simpa [I64, Lit.wf, IntKind.min, IntKind.max, IntKind.signed, IntKind.bits] using h

theorem list6 {α : Type} {cs : List α} (h : cs.length = 6) : ∃ c0 c1 c2 c3 c4 c5, cs = [c0, c1, c2, c3, c4, c5] := by
  match cs, h with
  | [c0, c1, c2, c3, c4, c5], _ => exact ⟨c0, c1, c2, c3, c4, c5, rfl⟩

set_option maxHeartbeats 800000 in
theorem szOp_any (k : Int) (nm ot : ByteArray) (at_ va ep left : Int) (w : World) (hn : nm.size ≤ maxLen) (ho : ot.size ≤ maxLen) (h0 : 0 ≤ left) (hl : left ≤ 1048576) :
    Calls Try.prog 29 #[.agg #[.int .i64 k, .string nm, .string ot, .int .i64 at_, .int .i64 va, .int .i64 ep], .int .i64 left] w fun e w' => ∃ q : Int, e = .returned (.int .i64 q) ∧ (q = -1 ∨ (0 ≤ q ∧ q ≤ left ∧ nm.size ≤ 1048576 ∧ ot.size ≤ 1048576)) ∧ Below w.heap.size w w' := by
  obtain ⟨W0, hW0, k0, d0, z0⟩ := box1 w #[.int .i64 k, .string nm, .string ot, .int .i64 at_, .int .i64 va, .int .i64 ep] 55
  have HD : Hid (Below w.heap.size w (w.alloc (.cells #[.int .i64 k, .string nm, .string ot, .int .i64 at_, .int .i64 va, .int .i64 ep] 55))) := bw_alloc (Below.refl _ _)
  clear hW0 k0 d0 z0
  unfold maxLen at hn ho
  by_cases hb : left < (nm.size : Int)
  · have h1 : left - (nm.size : Int) < 0 := by omega
    go_enter Try.func29, Try.ntmps29
    go_wp2_with fail
    go_ret
    exact ⟨-1, rfl, .inl rfl, HD.out⟩
  · have hl1 : 0 ≤ left - (nm.size : Int) := by omega
    by_cases hb2 : left - (nm.size : Int) < (ot.size : Int)
    · have h1 : left - (nm.size : Int) - (ot.size : Int) < 0 := by omega
      go_enter Try.func29, Try.ntmps29
      go_wp2_with fail
      go_ret
      exact ⟨-1, rfl, .inl rfl, HD.out⟩
    · have h1 : 0 ≤ left - (nm.size : Int) - (ot.size : Int) := by omega
      go_enter Try.func29, Try.ntmps29
      go_wp2_with fail
      go_ret
      exact ⟨_, rfl, .inr ⟨h1, by omega, by omega, by omega⟩, HD.out⟩

set_option maxHeartbeats 800000 in
theorem toOp_any (k : Int) (nm ot : ByteArray) (at_ va ep : Int) (w : World) :
    Calls Try.prog 32 #[.agg #[.int .i64 k, .string nm, .string ot, .int .i64 at_, .int .i64 va, .int .i64 ep]] w fun e w' => e = .returned (.agg #[.int .i64 k, .string nm, .string ot, .int .i64 at_, .int .i64 va, .int .i64 ep]) ∧ Below w.heap.size w w' := by
  go_enter Try.func32, Try.ntmps32
  go_wp2_with fail
  exact bodyPost_ret (v := .agg #[.int .i64 k, .string nm, .string ot, .int .i64 at_, .int .i64 va, .int .i64 ep]) (by simp [results, Try.results32, go_sem]) rfl ⟨rfl, by go_grown⟩

set_option maxHeartbeats 800000 in
theorem eqOp_same (k : Int) (nm ot : ByteArray) (at_ va ep : Int) (w : World) :
    Calls Try.prog 88 #[.agg #[.int .i64 k, .string nm, .string ot, .int .i64 at_, .int .i64 va, .int .i64 ep], .agg #[.int .i64 k, .string nm, .string ot, .int .i64 at_, .int .i64 va, .int .i64 ep]] w fun e w' => e = .returned (.bool true) ∧ Below w.heap.size w w' := by
  go_enter Try.func88, Try.ntmps88
  go_wp2_with fail
  go_ret
  exact ⟨rfl, bw_alloc (bw_alloc (Below.refl _ _))⟩
end Go.Proofs.Ytghhphhnalfjaaa

namespace Go.Proofs.Ytghhphhnalfjaaa
open Go.RowKit

set_option linter.unusedVariables false

set_option maxRecDepth 100000


/-- A run's cells. -/
def runC (r : Int × Int × Int) : List Value := [.int .i64 r.1, .int .i64 r.2.1, .int .i64 r.2.2]
end Go.Proofs.Ytghhphhnalfjaaa

namespace Go.Proofs.Ytghhphhnalfjaaa
open Go.ChangeShapes Go.WideShapes Go.ChangeAt Go.RowKit Go.Deep Go.Joins

set_option linter.unusedVariables false

set_option maxRecDepth 100000


theorem list4 {α : Type} {cs : List α} (h : cs.length = 4) : ∃ c0 c1 c2 c3, cs = [c0, c1, c2, c3] := by
  match cs, h with
  | [c0, c1, c2, c3], _ => exact ⟨c0, c1, c2, c3, rfl⟩

theorem list9 {α : Type} {cs : List α} (h : cs.length = 9) : ∃ c0 c1 c2 c3 c4 c5 c6 c7 c8, cs = [c0, c1, c2, c3, c4, c5, c6, c7, c8] := by
  match cs, h with
  | [c0, c1, c2, c3, c4, c5, c6, c7, c8], _ => exact ⟨c0, c1, c2, c3, c4, c5, c6, c7, c8, rfl⟩

/-- An op's six cells, read out of whatever they lie in. -/
theorem op_cells {H : Type} {enc : TypeId × Value → H} {W : World} {n : Nat} {cs : List Value} {y : DataW H × List MemPlace} (h : DataW.trod enc Try.prog W 0 (fun _ => true) true n 55 cs = some y) :
    ∃ o : Oq, cs = [.int .i64 o.k, .string o.nm, .string o.ot, .int .i64 o.at_, .int .i64 o.va, .int .i64 o.ep] ∧ (o.nm.size ≤ maxLen ∧ o.ot.size ≤ maxLen) ∧ I64 o.k ∧ I64 o.at_ ∧ I64 o.va ∧ I64 o.ep := by
  have ce : Try.prog.cellsOf 55 = 6 := by kernel_rfl
  have c1 : Try.prog.cellsOf 2 = 1 := by kernel_rfl
  have c2 : Try.prog.cellsOf 9 = 1 := by kernel_rfl
  obtain ⟨xs, m, _, -, hl, hlen, hf⟩ := DataW.trod_struct Try.underlying55 h
  obtain ⟨v0, v1, v2, v3, v4, v5, rfl⟩ := list6 (hl.trans ce)
  obtain ⟨y0, y1, y2, y3, y4, y5, rfl⟩ := list6 (show xs.length = 6 from hlen)
  have t0 := hf 0 _ rfl
  have t1 := hf 1 _ rfl
  have t2 := hf 2 _ rfl
  have t3 := hf 3 _ rfl
  have t4 := hf 4 _ rfl
  have t5 := hf 5 _ rfl
  simp [c1, c2] at t0 t1 t2 t3 t4 t5
  obtain ⟨k, e0, _, z0⟩ := DataW.trod_int Try.underlying2 t0
  obtain ⟨nm, e1, _, z1⟩ := DataW.trod_string Try.underlying9 t1
  obtain ⟨ot, e2, _, z2⟩ := DataW.trod_string Try.underlying9 t2
  obtain ⟨at_, e3, _, z3⟩ := DataW.trod_int Try.underlying2 t3
  obtain ⟨va, e4, _, z4⟩ := DataW.trod_int Try.underlying2 t4
  obtain ⟨ep, e5, _, z5⟩ := DataW.trod_int Try.underlying2 t5
  simp at e0 e1 e2 e3 e4 e5
  subst e0 e1 e2 e3 e4 e5
  exact ⟨⟨k, nm, ot, at_, va, ep⟩, rfl, ⟨z1, z2⟩, lit_i64o z0, lit_i64o z3, lit_i64o z4, lit_i64o z5⟩

theorem ent_cells {H : Type} {enc : TypeId × Value → H} {W : World} {n : Nat} {cs : List Value} {y : DataW H × List MemPlace} (h : DataW.trod enc Try.prog W 0 (fun _ => true) true n 86 cs = some y) :
    ∃ e : Ent, cs = entC e ∧ FitEnt e := by
  have ce : Try.prog.cellsOf 86 = 9 := by kernel_rfl
  have c1 : Try.prog.cellsOf 2 = 1 := by kernel_rfl
  have c2 : Try.prog.cellsOf 55 = 6 := by kernel_rfl
  obtain ⟨xs, m, _, -, hl, hlen, hf⟩ := DataW.trod_struct Try.underlying86 h
  obtain ⟨v0, v1, v2, v3, v4, v5, v6, v7, v8, rfl⟩ := list9 (hl.trans ce)
  obtain ⟨y0, y1, y2, y3, rfl⟩ := list4 (show xs.length = 4 from hlen)
  have t0 := hf 0 _ rfl
  have t1 := hf 1 _ rfl
  have t2 := hf 2 _ rfl
  have t3 := hf 3 _ rfl
  simp [c1, c2] at t0 t1 t2 t3
  obtain ⟨sq, e0, _, z0⟩ := DataW.trod_int Try.underlying2 t0
  obtain ⟨cl, e1, _, z1⟩ := DataW.trod_int Try.underlying2 t1
  obtain ⟨tg, e2, _, z2⟩ := DataW.trod_int Try.underlying2 t2
  obtain ⟨o, e3, hs, fk, fa, fv, fe⟩ := op_cells t3
  simp at e0 e1 e2 e3
  obtain ⟨rfl, rfl, rfl, rfl, rfl, rfl⟩ := e3
  subst e0 e1 e2
  exact ⟨⟨sq, cl, tg, o⟩, rfl, hs, lit_i64o z0, lit_i64o z1, lit_i64o z2, fk, fa, fv, fe⟩

set_option maxHeartbeats 1600000 in
theorem szEntry_any (sq cl tg k : Int) (nm ot : ByteArray) (at_ va ep : Int) (left : Int) (w : World) (hn : nm.size ≤ maxLen) (ho : ot.size ≤ maxLen) (h0 : 0 ≤ left) (hl : left ≤ 1048576) :
    Calls Try.prog 85 #[.agg #[.int .i64 sq, .int .i64 cl, .int .i64 tg, .int .i64 k, .string nm, .string ot, .int .i64 at_, .int .i64 va, .int .i64 ep], .int .i64 left] w fun e w' => ∃ q : Int, e = .returned (.int .i64 q) ∧ (q = -1 ∨ (0 ≤ q ∧ q ≤ left ∧ nm.size ≤ 1048576 ∧ ot.size ≤ 1048576)) ∧ Below w.heap.size w w' := by
  obtain ⟨W0, hW0, k0, d0, z0⟩ := box1 w #[.int .i64 sq, .int .i64 cl, .int .i64 tg, .int .i64 k, .string nm, .string ot, .int .i64 at_, .int .i64 va, .int .i64 ep] 86
  have HW0 : Hid (W0 = _) := hW0
  have p3 := at_cell k0 3
  have p4 := at_cell k0 4
  have p5 := at_cell k0 5
  have p6 := at_cell k0 6
  have p7 := at_cell k0 7
  have p8 := at_cell k0 8
  clear hW0 k0 z0
  go_enter Try.func85, Try.ntmps85
  go_wp2_with fail
  rw [← HW0.out]
  refine (szOp_any k nm ot at_ va ep left _ hn ho h0 hl).mono ?_
  rintro e w1 ⟨q, rfl, hq, b1⟩
  replace d0 := bw_call d0 b1
  clear p3 p4 p5 p6 p7 p8 HW0
  rcases hq with rfl | ⟨hq0, hq1, hq2, hq3⟩
  · go_wp2_with fail
    go_ret
    exact ⟨-1, rfl, .inl rfl, d0⟩
  · go_wp2_with fail
    go_ret
    exact ⟨q, rfl, .inr ⟨hq0, hq1, hq2, hq3⟩, d0⟩

set_option maxHeartbeats 1600000 in
theorem nine_set (x0 x1 x2 x3 x4 x5 x6 x7 x8 z0 z1 z2 z3 z4 z5 z6 z7 z8 : Value) : (((((((((#[x0, x1, x2, x3, x4, x5, x6, x7, x8].setIfInBounds 0 z0).setIfInBounds 1 z1).setIfInBounds 2 z2).setIfInBounds 3 z3).setIfInBounds 4 z4).setIfInBounds 5 z5).setIfInBounds 6 z6).setIfInBounds 7 z7).setIfInBounds 8 z8) = #[z0, z1, z2, z3, z4, z5, z6, z7, z8] := by
  apply Array.toList_inj.1
  simp only [Array.toList_setIfInBounds]
  rfl

theorem six_set (x0 x1 x2 x3 x4 x5 x6 x7 x8 y3 y4 y5 y6 y7 y8 : Value) : ((((((#[x0, x1, x2, x3, x4, x5, x6, x7, x8].setIfInBounds 3 y3).setIfInBounds 4 y4).setIfInBounds 5 y5).setIfInBounds 6 y6).setIfInBounds 7 y7).setIfInBounds 8 y8) = #[x0, x1, x2, y3, y4, y5, y6, y7, y8] := by
  apply Array.toList_inj.1
  simp only [Array.toList_setIfInBounds]
  rfl

set_option maxHeartbeats 1600000 in
theorem put_nine {w W : World} {b : Nat} {x0 x1 x2 x3 x4 x5 x6 x7 x8 : Value} {t : TypeId} (h : w.heap.size ≤ b) (k : W.heap[b]? = some (.cells #[x0, x1, x2, x3, x4, x5, x6, x7, x8] t (0, 0))) (d : Below w.heap.size w W) (z0 z1 z2 z3 z4 z5 z6 z7 z8 : Value) :
    (((((((((W.setCell ⟨b, 0, none⟩ z0).setCell ⟨b, 1, none⟩ z1).setCell ⟨b, 2, none⟩ z2).setCell ⟨b, 3, none⟩ z3).setCell ⟨b, 4, none⟩ z4).setCell ⟨b, 5, none⟩ z5).setCell ⟨b, 6, none⟩ z6).setCell ⟨b, 7, none⟩ z7).setCell ⟨b, 8, none⟩ z8).heap[b]? = some (.cells #[z0, z1, z2, z3, z4, z5, z6, z7, z8] t (0, 0)) ∧ Below w.heap.size w (((((((((W.setCell ⟨b, 0, none⟩ z0).setCell ⟨b, 1, none⟩ z1).setCell ⟨b, 2, none⟩ z2).setCell ⟨b, 3, none⟩ z3).setCell ⟨b, 4, none⟩ z4).setCell ⟨b, 5, none⟩ z5).setCell ⟨b, 6, none⟩ z6).setCell ⟨b, 7, none⟩ z7).setCell ⟨b, 8, none⟩ z8) := by
  refine ⟨?_, bw_set (bw_set (bw_set (bw_set (bw_set (bw_set (bw_set (bw_set (bw_set (d) h _) h _) h _) h _) h _) h _) h _) h _) h _⟩
  have e := k
  replace e := set_at e 0 z0
  replace e := set_at e 1 z1
  replace e := set_at e 2 z2
  replace e := set_at e 3 z3
  replace e := set_at e 4 z4
  replace e := set_at e 5 z5
  replace e := set_at e 6 z6
  replace e := set_at e 7 z7
  replace e := set_at e 8 z8
  rw [nine_set] at e
  exact e

set_option maxHeartbeats 1600000 in
theorem put_six {w W : World} {b : Nat} {x0 x1 x2 x3 x4 x5 x6 x7 x8 : Value} {t : TypeId} (h : w.heap.size ≤ b) (k : W.heap[b]? = some (.cells #[x0, x1, x2, x3, x4, x5, x6, x7, x8] t (0, 0))) (d : Below w.heap.size w W) (y3 y4 y5 y6 y7 y8 : Value) :
    ((((((W.setCell ⟨b, 3, none⟩ y3).setCell ⟨b, 4, none⟩ y4).setCell ⟨b, 5, none⟩ y5).setCell ⟨b, 6, none⟩ y6).setCell ⟨b, 7, none⟩ y7).setCell ⟨b, 8, none⟩ y8).heap[b]? = some (.cells #[x0, x1, x2, y3, y4, y5, y6, y7, y8] t (0, 0)) ∧ Below w.heap.size w ((((((W.setCell ⟨b, 3, none⟩ y3).setCell ⟨b, 4, none⟩ y4).setCell ⟨b, 5, none⟩ y5).setCell ⟨b, 6, none⟩ y6).setCell ⟨b, 7, none⟩ y7).setCell ⟨b, 8, none⟩ y8) ∧ Upto b W ((((((W.setCell ⟨b, 3, none⟩ y3).setCell ⟨b, 4, none⟩ y4).setCell ⟨b, 5, none⟩ y5).setCell ⟨b, 6, none⟩ y6).setCell ⟨b, 7, none⟩ y7).setCell ⟨b, 8, none⟩ y8) := by
  refine ⟨?_, bw_set (bw_set (bw_set (bw_set (bw_set (bw_set (d) h _) h _) h _) h _) h _) h _, ((((((Upto.refl b W).setCell ⟨b, 3, none⟩ (.inl rfl) y3).setCell ⟨b, 4, none⟩ (.inl rfl) y4).setCell ⟨b, 5, none⟩ (.inl rfl) y5).setCell ⟨b, 6, none⟩ (.inl rfl) y6).setCell ⟨b, 7, none⟩ (.inl rfl) y7).setCell ⟨b, 8, none⟩ (.inl rfl) y8⟩
  have e := k
  replace e := set_at e 3 y3
  replace e := set_at e 4 y4
  replace e := set_at e 5 y5
  replace e := set_at e 6 y6
  replace e := set_at e 7 y7
  replace e := set_at e 8 y8
  rw [six_set] at e
  exact e

set_option maxHeartbeats 3200000 in
theorem toEntry_any (sq cl tg k : Int) (nm ot : ByteArray) (at_ va ep : Int) (w : World) :
    Calls Try.prog 86 #[.agg #[.int .i64 sq, .int .i64 cl, .int .i64 tg, .int .i64 k, .string nm, .string ot, .int .i64 at_, .int .i64 va, .int .i64 ep]] w fun e w' => e = .returned (.agg #[.int .i64 sq, .int .i64 cl, .int .i64 tg, .int .i64 k, .string nm, .string ot, .int .i64 at_, .int .i64 va, .int .i64 ep]) ∧ Below w.heap.size w w' := by
  obtain ⟨W1, hW0, k0, k1, k2, d0, z0⟩ := box3 w #[.int .i64 sq, .int .i64 cl, .int .i64 tg, .int .i64 k, .string nm, .string ot, .int .i64 at_, .int .i64 va, .int .i64 ep] #[.int .i64 0, .int .i64 0, .int .i64 0, .int .i64 0, .string ⟨#[]⟩, .string ⟨#[]⟩, .int .i64 0, .int .i64 0, .int .i64 0] #[.int .i64 sq, .int .i64 cl, .int .i64 tg, .int .i64 0, .string ⟨#[]⟩, .string ⟨#[]⟩, .int .i64 0, .int .i64 0, .int .i64 0] 86 34 34
  have z0a : w.heap.size + 1 + 1 + 1 ≤ W1.heap.size := by omega
  clear z0
  have HW0 : Hid _ := hW0
  clear hW0
  go_enter Try.func86, Try.ntmps86
  go_wp2_with (fail)
  rw [← HW0.out]
  clear HW0
  refine (toOp_any k nm ot at_ va ep _).mono ?_
  rintro e w1 ⟨rfl, b1⟩
  replace k1 := (b1.block _ (by omega)).trans k1
  replace k2 := (b1.block _ (by omega)).trans k2
  replace d0 := bw_call d0 b1
  clear b1 k0
  have c3 := at_cell k2 3
  have c4 := at_cell k2 4
  have c5 := at_cell k2 5
  have c6 := at_cell k2 6
  have c7 := at_cell k2 7
  have c8 := at_cell k2 8
  have f3 := at_open k2 3
  have f4 := at_open k2 4
  have f5 := at_open k2 5
  have f6 := at_open k2 6
  have f7 := at_open k2 7
  have f8 := at_open k2 8
  obtain ⟨s1, s2, s3⟩ := put_six (b := w.heap.size + 1 + 1) (by omega) k2 d0 (.int .i64 k) (.string nm) (.string ot) (.int .i64 at_) (.int .i64 va) (.int .i64 ep)
  have e1 := (s3.block (w.heap.size + 1) (heap_lt k1) (by omega)).trans k1
  clear s3 k1 k2 d0
  go_upto_region 6 with fail
  generalize ((((((w1.setCell ⟨w.heap.size + 1 + 1, 3, none⟩ (.int .i64 k)).setCell ⟨w.heap.size + 1 + 1, 4, none⟩ (.string nm)).setCell ⟨w.heap.size + 1 + 1, 5, none⟩ (.string ot)).setCell ⟨w.heap.size + 1 + 1, 6, none⟩ (.int .i64 at_)).setCell ⟨w.heap.size + 1 + 1, 7, none⟩ (.int .i64 va)).setCell ⟨w.heap.size + 1 + 1, 8, none⟩ (.int .i64 ep)) = W2 at *
  clear c3 f3 c4 f4 c5 f5 c6 f6 c7 f7 c8 f8
  have c0 := at_cell s1 0
  have c1 := at_cell s1 1
  have c2 := at_cell s1 2
  have c3 := at_cell s1 3
  have c4 := at_cell s1 4
  have c5 := at_cell s1 5
  have c6 := at_cell s1 6
  have c7 := at_cell s1 7
  have c8 := at_cell s1 8
  have q0 := at_cell e1 0
  have q1 := at_cell e1 1
  have q2 := at_cell e1 2
  have q3 := at_cell e1 3
  have q4 := at_cell e1 4
  have q5 := at_cell e1 5
  have q6 := at_cell e1 6
  have q7 := at_cell e1 7
  have q8 := at_cell e1 8
  have g0 := at_open e1 0
  have g1 := at_open e1 1
  have g2 := at_open e1 2
  have g3 := at_open e1 3
  have g4 := at_open e1 4
  have g5 := at_open e1 5
  have g6 := at_open e1 6
  have g7 := at_open e1 7
  have g8 := at_open e1 8
  have HS : Hid _ := put_nine (b := w.heap.size + 1) (by omega) e1 s2 (.int .i64 sq) (.int .i64 cl) (.int .i64 tg) (.int .i64 k) (.string nm) (.string ot) (.int .i64 at_) (.int .i64 va) (.int .i64 ep)
  clear s1 s2 e1 z0a
  go_wp2_with fail
  exact bodyPost_ret (v := .agg #[.int .i64 sq, .int .i64 cl, .int .i64 tg, .int .i64 k, .string nm, .string ot, .int .i64 at_, .int .i64 va, .int .i64 ep]) (by simp [results, Try.results86, go_sem, at_cell HS.out.1]) rfl ⟨rfl, HS.out.2⟩

set_option maxHeartbeats 1600000 in
theorem eqEntry_same (sq cl tg k : Int) (nm ot : ByteArray) (at_ va ep : Int) (w : World) :
    Calls Try.prog 60 #[.agg #[.int .i64 sq, .int .i64 cl, .int .i64 tg, .int .i64 k, .string nm, .string ot, .int .i64 at_, .int .i64 va, .int .i64 ep], .agg #[.int .i64 sq, .int .i64 cl, .int .i64 tg, .int .i64 k, .string nm, .string ot, .int .i64 at_, .int .i64 va, .int .i64 ep]] w fun e w' => e = .returned (.bool true) ∧ Below w.heap.size w w' := by
  obtain ⟨W0, hW0, k0, k1, d0, z0⟩ := box2 w #[.int .i64 sq, .int .i64 cl, .int .i64 tg, .int .i64 k, .string nm, .string ot, .int .i64 at_, .int .i64 va, .int .i64 ep] #[.int .i64 sq, .int .i64 cl, .int .i64 tg, .int .i64 k, .string nm, .string ot, .int .i64 at_, .int .i64 va, .int .i64 ep] 34 34
  have HW0 : Hid (W0 = _) := hW0
  have p0 := at_cell k0 0
  have q0 := at_cell k1 0
  have p1 := at_cell k0 1
  have q1 := at_cell k1 1
  have p2 := at_cell k0 2
  have q2 := at_cell k1 2
  have p3 := at_cell k0 3
  have q3 := at_cell k1 3
  have p4 := at_cell k0 4
  have q4 := at_cell k1 4
  have p5 := at_cell k0 5
  have q5 := at_cell k1 5
  have p6 := at_cell k0 6
  have q6 := at_cell k1 6
  have p7 := at_cell k0 7
  have q7 := at_cell k1 7
  have p8 := at_cell k0 8
  have q8 := at_cell k1 8
  clear hW0 k0 k1 z0
  go_enter Try.func60, Try.ntmps60
  go_wp2_with fail
  rw [← HW0.out]
  clear HW0
  refine (eqOp_same k nm ot at_ va ep _).mono ?_
  rintro e w1 ⟨rfl, b1⟩
  replace d0 := bw_call d0 b1
  go_wp2_with fail
  go_ret
  exact ⟨rfl, d0⟩
end Go.Proofs.Ytghhphhnalfjaaa

namespace Go.Proofs.Ytghhphhnalfjaaa
open Go.ChangeShapes Go.WideShapes Go.ChangeAt Go.RowKit Go.Joins

set_option linter.unusedVariables false

set_option maxRecDepth 100000


theorem list2r {α : Type} {cs : List α} (h : cs.length = 2) : ∃ c0 c1, cs = [c0, c1] := by
  match cs, h with
  | [c0, c1], _ => exact ⟨c0, c1, rfl⟩

theorem toReply_any (c v : Int) (w : World) :
    Calls Try.prog 87 #[.agg #[.int .i64 c, .int .i64 v]] w fun e w' => e = .returned (.agg #[.int .i64 c, .int .i64 v]) ∧ Below w.heap.size w w' := by
  go_enter Try.func87, Try.ntmps87
  go_wp2_with fail
  exact bodyPost_ret (v := .agg #[.int .i64 c, .int .i64 v]) (by simp [results, Try.results87, go_sem]) rfl ⟨rfl, by go_grown⟩
end Go.Proofs.Ytghhphhnalfjaaa

