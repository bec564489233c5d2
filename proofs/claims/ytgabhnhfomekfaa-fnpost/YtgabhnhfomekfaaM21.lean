/-
  Contracts and plain laws, one chapter behind the other.
-/
import Derived.Deep.Cut
import Derived.Test.YtgabhnhfomekfaaM17
import Derived.Test.YtgabhnhfomekfaaM20
namespace Go.Proofs.Ytgabhnhfomekfaa
open Go.RowKit

set_option linter.unusedVariables false

set_option maxRecDepth 100000


theorem putE_set (x0 x1 x2 x3 x4 x5 x6 x7 x8 x9 x10 x11 x12 x13 x14 z3 z4 z5 z6 z7 z8 z9 z10 z11 : Value) : ((((((((((#[x0, x1, x2, x3, x4, x5, x6, x7, x8, x9, x10, x11, x12, x13, x14] : Array Value).setIfInBounds 3 z3).setIfInBounds 4 z4).setIfInBounds 5 z5).setIfInBounds 6 z6).setIfInBounds 7 z7).setIfInBounds 8 z8).setIfInBounds 9 z9).setIfInBounds 10 z10).setIfInBounds 11 z11) = #[x0, x1, x2, z3, z4, z5, z6, z7, z8, z9, z10, z11, x12, x13, x14] := by
  apply Array.toList_inj.1
  simp only [Array.toList_setIfInBounds]
  rfl

set_option maxHeartbeats 1600000 in
theorem putE {w W : World} {b : Nat} {x0 x1 x2 x3 x4 x5 x6 x7 x8 x9 x10 x11 x12 x13 x14 : Value} {t : TypeId} (h : w.heap.size ≤ b) (k : W.heap[b]? = some (.cells #[x0, x1, x2, x3, x4, x5, x6, x7, x8, x9, x10, x11, x12, x13, x14] t (0, 0))) (d : Below w.heap.size w W) (z3 z4 z5 z6 z7 z8 z9 z10 z11 : Value) :
    (((((((((W.setCell ⟨b, 3, none⟩ (z3)).setCell ⟨b, 4, none⟩ (z4)).setCell ⟨b, 5, none⟩ (z5)).setCell ⟨b, 6, none⟩ (z6)).setCell ⟨b, 7, none⟩ (z7)).setCell ⟨b, 8, none⟩ (z8)).setCell ⟨b, 9, none⟩ (z9)).setCell ⟨b, 10, none⟩ (z10)).setCell ⟨b, 11, none⟩ (z11)).heap[b]? = some (.cells #[x0, x1, x2, z3, z4, z5, z6, z7, z8, z9, z10, z11, x12, x13, x14] t (0, 0)) ∧ Below w.heap.size w (((((((((W.setCell ⟨b, 3, none⟩ (z3)).setCell ⟨b, 4, none⟩ (z4)).setCell ⟨b, 5, none⟩ (z5)).setCell ⟨b, 6, none⟩ (z6)).setCell ⟨b, 7, none⟩ (z7)).setCell ⟨b, 8, none⟩ (z8)).setCell ⟨b, 9, none⟩ (z9)).setCell ⟨b, 10, none⟩ (z10)).setCell ⟨b, 11, none⟩ (z11)) ∧ Upto b W (((((((((W.setCell ⟨b, 3, none⟩ (z3)).setCell ⟨b, 4, none⟩ (z4)).setCell ⟨b, 5, none⟩ (z5)).setCell ⟨b, 6, none⟩ (z6)).setCell ⟨b, 7, none⟩ (z7)).setCell ⟨b, 8, none⟩ (z8)).setCell ⟨b, 9, none⟩ (z9)).setCell ⟨b, 10, none⟩ (z10)).setCell ⟨b, 11, none⟩ (z11)) := by
  refine ⟨?_, (bw_set (bw_set (bw_set (bw_set (bw_set (bw_set (bw_set (bw_set (bw_set d h _) h _) h _) h _) h _) h _) h _) h _) h _), ((((((((((Upto.refl b W).setCell ⟨b, 3, none⟩ (.inl rfl) _).setCell ⟨b, 4, none⟩ (.inl rfl) _).setCell ⟨b, 5, none⟩ (.inl rfl) _).setCell ⟨b, 6, none⟩ (.inl rfl) _).setCell ⟨b, 7, none⟩ (.inl rfl) _).setCell ⟨b, 8, none⟩ (.inl rfl) _).setCell ⟨b, 9, none⟩ (.inl rfl) _).setCell ⟨b, 10, none⟩ (.inl rfl) _).setCell ⟨b, 11, none⟩ (.inl rfl) _)⟩
  have e := k
  replace e := set_at e 3 z3
  replace e := set_at e 4 z4
  replace e := set_at e 5 z5
  replace e := set_at e 6 z6
  replace e := set_at e 7 z7
  replace e := set_at e 8 z8
  replace e := set_at e 9 z9
  replace e := set_at e 10 z10
  replace e := set_at e 11 z11
  rw [putE_set] at e
  exact e

theorem putS_set (x0 x1 x2 x3 x4 x5 x6 x7 x8 x9 x10 x11 x12 x13 x14 z12 : Value) : ((#[x0, x1, x2, x3, x4, x5, x6, x7, x8, x9, x10, x11, x12, x13, x14] : Array Value).setIfInBounds 12 z12) = #[x0, x1, x2, x3, x4, x5, x6, x7, x8, x9, x10, x11, z12, x13, x14] := by
  apply Array.toList_inj.1
  simp only [Array.toList_setIfInBounds]
  rfl

set_option maxHeartbeats 1600000 in
theorem putS {w W : World} {b : Nat} {x0 x1 x2 x3 x4 x5 x6 x7 x8 x9 x10 x11 x12 x13 x14 : Value} {t : TypeId} (h : w.heap.size ≤ b) (k : W.heap[b]? = some (.cells #[x0, x1, x2, x3, x4, x5, x6, x7, x8, x9, x10, x11, x12, x13, x14] t (0, 0))) (d : Below w.heap.size w W) (z12 : Value) :
    (W.setCell ⟨b, 12, none⟩ (z12)).heap[b]? = some (.cells #[x0, x1, x2, x3, x4, x5, x6, x7, x8, x9, x10, x11, z12, x13, x14] t (0, 0)) ∧ Below w.heap.size w (W.setCell ⟨b, 12, none⟩ (z12)) ∧ Upto b W (W.setCell ⟨b, 12, none⟩ (z12)) := by
  refine ⟨?_, (bw_set d h _), ((Upto.refl b W).setCell ⟨b, 12, none⟩ (.inl rfl) _)⟩
  have e := k
  replace e := set_at e 12 z12
  rw [putS_set] at e
  exact e

theorem putA_set (x0 x1 x2 x3 x4 x5 x6 x7 x8 x9 x10 x11 x12 x13 x14 z3 z4 z5 z6 z7 z8 z9 z10 z11 z12 z13 z14 : Value) : (((((((((((((#[x0, x1, x2, x3, x4, x5, x6, x7, x8, x9, x10, x11, x12, x13, x14] : Array Value).setIfInBounds 3 z3).setIfInBounds 4 z4).setIfInBounds 5 z5).setIfInBounds 6 z6).setIfInBounds 7 z7).setIfInBounds 8 z8).setIfInBounds 9 z9).setIfInBounds 10 z10).setIfInBounds 11 z11).setIfInBounds 12 z12).setIfInBounds 13 z13).setIfInBounds 14 z14) = #[x0, x1, x2, z3, z4, z5, z6, z7, z8, z9, z10, z11, z12, z13, z14] := by
  apply Array.toList_inj.1
  simp only [Array.toList_setIfInBounds]
  rfl

set_option maxHeartbeats 1600000 in
theorem putA {w W : World} {b : Nat} {x0 x1 x2 x3 x4 x5 x6 x7 x8 x9 x10 x11 x12 x13 x14 : Value} {t : TypeId} (h : w.heap.size ≤ b) (k : W.heap[b]? = some (.cells #[x0, x1, x2, x3, x4, x5, x6, x7, x8, x9, x10, x11, x12, x13, x14] t (0, 0))) (d : Below w.heap.size w W) (z3 z4 z5 z6 z7 z8 z9 z10 z11 z12 z13 z14 : Value) :
    ((((((((((((W.setCell ⟨b, 3, none⟩ (z3)).setCell ⟨b, 4, none⟩ (z4)).setCell ⟨b, 5, none⟩ (z5)).setCell ⟨b, 6, none⟩ (z6)).setCell ⟨b, 7, none⟩ (z7)).setCell ⟨b, 8, none⟩ (z8)).setCell ⟨b, 9, none⟩ (z9)).setCell ⟨b, 10, none⟩ (z10)).setCell ⟨b, 11, none⟩ (z11)).setCell ⟨b, 12, none⟩ (z12)).setCell ⟨b, 13, none⟩ (z13)).setCell ⟨b, 14, none⟩ (z14)).heap[b]? = some (.cells #[x0, x1, x2, z3, z4, z5, z6, z7, z8, z9, z10, z11, z12, z13, z14] t (0, 0)) ∧ Below w.heap.size w ((((((((((((W.setCell ⟨b, 3, none⟩ (z3)).setCell ⟨b, 4, none⟩ (z4)).setCell ⟨b, 5, none⟩ (z5)).setCell ⟨b, 6, none⟩ (z6)).setCell ⟨b, 7, none⟩ (z7)).setCell ⟨b, 8, none⟩ (z8)).setCell ⟨b, 9, none⟩ (z9)).setCell ⟨b, 10, none⟩ (z10)).setCell ⟨b, 11, none⟩ (z11)).setCell ⟨b, 12, none⟩ (z12)).setCell ⟨b, 13, none⟩ (z13)).setCell ⟨b, 14, none⟩ (z14)) ∧ Upto b W ((((((((((((W.setCell ⟨b, 3, none⟩ (z3)).setCell ⟨b, 4, none⟩ (z4)).setCell ⟨b, 5, none⟩ (z5)).setCell ⟨b, 6, none⟩ (z6)).setCell ⟨b, 7, none⟩ (z7)).setCell ⟨b, 8, none⟩ (z8)).setCell ⟨b, 9, none⟩ (z9)).setCell ⟨b, 10, none⟩ (z10)).setCell ⟨b, 11, none⟩ (z11)).setCell ⟨b, 12, none⟩ (z12)).setCell ⟨b, 13, none⟩ (z13)).setCell ⟨b, 14, none⟩ (z14)) := by
  refine ⟨?_, (bw_set (bw_set (bw_set (bw_set (bw_set (bw_set (bw_set (bw_set (bw_set (bw_set (bw_set (bw_set d h _) h _) h _) h _) h _) h _) h _) h _) h _) h _) h _) h _), (((((((((((((Upto.refl b W).setCell ⟨b, 3, none⟩ (.inl rfl) _).setCell ⟨b, 4, none⟩ (.inl rfl) _).setCell ⟨b, 5, none⟩ (.inl rfl) _).setCell ⟨b, 6, none⟩ (.inl rfl) _).setCell ⟨b, 7, none⟩ (.inl rfl) _).setCell ⟨b, 8, none⟩ (.inl rfl) _).setCell ⟨b, 9, none⟩ (.inl rfl) _).setCell ⟨b, 10, none⟩ (.inl rfl) _).setCell ⟨b, 11, none⟩ (.inl rfl) _).setCell ⟨b, 12, none⟩ (.inl rfl) _).setCell ⟨b, 13, none⟩ (.inl rfl) _).setCell ⟨b, 14, none⟩ (.inl rfl) _)⟩
  have e := k
  replace e := set_at e 3 z3
  replace e := set_at e 4 z4
  replace e := set_at e 5 z5
  replace e := set_at e 6 z6
  replace e := set_at e 7 z7
  replace e := set_at e 8 z8
  replace e := set_at e 9 z9
  replace e := set_at e 10 z10
  replace e := set_at e 11 z11
  replace e := set_at e 12 z12
  replace e := set_at e 13 z13
  replace e := set_at e 14 z14
  rw [putA_set] at e
  exact e

theorem putF_set (x0 x1 x2 x3 x4 x5 x6 x7 x8 x9 x10 x11 x12 x13 x14 z0 z1 z2 z3 z4 z5 z6 z7 z8 z9 z10 z11 z12 z13 z14 : Value) : ((((((((((((((((#[x0, x1, x2, x3, x4, x5, x6, x7, x8, x9, x10, x11, x12, x13, x14] : Array Value).setIfInBounds 0 z0).setIfInBounds 1 z1).setIfInBounds 2 z2).setIfInBounds 3 z3).setIfInBounds 4 z4).setIfInBounds 5 z5).setIfInBounds 6 z6).setIfInBounds 7 z7).setIfInBounds 8 z8).setIfInBounds 9 z9).setIfInBounds 10 z10).setIfInBounds 11 z11).setIfInBounds 12 z12).setIfInBounds 13 z13).setIfInBounds 14 z14) = #[z0, z1, z2, z3, z4, z5, z6, z7, z8, z9, z10, z11, z12, z13, z14] := by
  apply Array.toList_inj.1
  simp only [Array.toList_setIfInBounds]
  rfl

set_option maxHeartbeats 1600000 in
theorem putF {w W : World} {b : Nat} {x0 x1 x2 x3 x4 x5 x6 x7 x8 x9 x10 x11 x12 x13 x14 : Value} {t : TypeId} (h : w.heap.size ≤ b) (k : W.heap[b]? = some (.cells #[x0, x1, x2, x3, x4, x5, x6, x7, x8, x9, x10, x11, x12, x13, x14] t (0, 0))) (d : Below w.heap.size w W) (z0 z1 z2 z3 z4 z5 z6 z7 z8 z9 z10 z11 z12 z13 z14 : Value) :
    (((((((((((((((W.setCell ⟨b, 0, none⟩ (z0)).setCell ⟨b, 1, none⟩ (z1)).setCell ⟨b, 2, none⟩ (z2)).setCell ⟨b, 3, none⟩ (z3)).setCell ⟨b, 4, none⟩ (z4)).setCell ⟨b, 5, none⟩ (z5)).setCell ⟨b, 6, none⟩ (z6)).setCell ⟨b, 7, none⟩ (z7)).setCell ⟨b, 8, none⟩ (z8)).setCell ⟨b, 9, none⟩ (z9)).setCell ⟨b, 10, none⟩ (z10)).setCell ⟨b, 11, none⟩ (z11)).setCell ⟨b, 12, none⟩ (z12)).setCell ⟨b, 13, none⟩ (z13)).setCell ⟨b, 14, none⟩ (z14)).heap[b]? = some (.cells #[z0, z1, z2, z3, z4, z5, z6, z7, z8, z9, z10, z11, z12, z13, z14] t (0, 0)) ∧ Below w.heap.size w (((((((((((((((W.setCell ⟨b, 0, none⟩ (z0)).setCell ⟨b, 1, none⟩ (z1)).setCell ⟨b, 2, none⟩ (z2)).setCell ⟨b, 3, none⟩ (z3)).setCell ⟨b, 4, none⟩ (z4)).setCell ⟨b, 5, none⟩ (z5)).setCell ⟨b, 6, none⟩ (z6)).setCell ⟨b, 7, none⟩ (z7)).setCell ⟨b, 8, none⟩ (z8)).setCell ⟨b, 9, none⟩ (z9)).setCell ⟨b, 10, none⟩ (z10)).setCell ⟨b, 11, none⟩ (z11)).setCell ⟨b, 12, none⟩ (z12)).setCell ⟨b, 13, none⟩ (z13)).setCell ⟨b, 14, none⟩ (z14)) ∧ Upto b W (((((((((((((((W.setCell ⟨b, 0, none⟩ (z0)).setCell ⟨b, 1, none⟩ (z1)).setCell ⟨b, 2, none⟩ (z2)).setCell ⟨b, 3, none⟩ (z3)).setCell ⟨b, 4, none⟩ (z4)).setCell ⟨b, 5, none⟩ (z5)).setCell ⟨b, 6, none⟩ (z6)).setCell ⟨b, 7, none⟩ (z7)).setCell ⟨b, 8, none⟩ (z8)).setCell ⟨b, 9, none⟩ (z9)).setCell ⟨b, 10, none⟩ (z10)).setCell ⟨b, 11, none⟩ (z11)).setCell ⟨b, 12, none⟩ (z12)).setCell ⟨b, 13, none⟩ (z13)).setCell ⟨b, 14, none⟩ (z14)) := by
  refine ⟨?_, (bw_set (bw_set (bw_set (bw_set (bw_set (bw_set (bw_set (bw_set (bw_set (bw_set (bw_set (bw_set (bw_set (bw_set (bw_set d h _) h _) h _) h _) h _) h _) h _) h _) h _) h _) h _) h _) h _) h _) h _), ((((((((((((((((Upto.refl b W).setCell ⟨b, 0, none⟩ (.inl rfl) _).setCell ⟨b, 1, none⟩ (.inl rfl) _).setCell ⟨b, 2, none⟩ (.inl rfl) _).setCell ⟨b, 3, none⟩ (.inl rfl) _).setCell ⟨b, 4, none⟩ (.inl rfl) _).setCell ⟨b, 5, none⟩ (.inl rfl) _).setCell ⟨b, 6, none⟩ (.inl rfl) _).setCell ⟨b, 7, none⟩ (.inl rfl) _).setCell ⟨b, 8, none⟩ (.inl rfl) _).setCell ⟨b, 9, none⟩ (.inl rfl) _).setCell ⟨b, 10, none⟩ (.inl rfl) _).setCell ⟨b, 11, none⟩ (.inl rfl) _).setCell ⟨b, 12, none⟩ (.inl rfl) _).setCell ⟨b, 13, none⟩ (.inl rfl) _).setCell ⟨b, 14, none⟩ (.inl rfl) _)⟩
  have e := k
  replace e := set_at e 0 z0
  replace e := set_at e 1 z1
  replace e := set_at e 2 z2
  replace e := set_at e 3 z3
  replace e := set_at e 4 z4
  replace e := set_at e 5 z5
  replace e := set_at e 6 z6
  replace e := set_at e 7 z7
  replace e := set_at e 8 z8
  replace e := set_at e 9 z9
  replace e := set_at e 10 z10
  replace e := set_at e 11 z11
  replace e := set_at e 12 z12
  replace e := set_at e 13 z13
  replace e := set_at e 14 z14
  rw [putF_set] at e
  exact e

set_option maxHeartbeats 1600000 in
theorem askedOk_any (sq cl tg k : Int) (nm ot : ByteArray) (at_ va ep : Int) (w : World) (hf : FitEnt ⟨sq, cl, tg, ⟨k, nm, ot, at_, va, ep⟩⟩) :
    Calls Try.prog 31 #[.agg #[.int .i64 sq, .int .i64 cl, .int .i64 tg, .int .i64 k, .string nm, .string ot, .int .i64 at_, .int .i64 va, .int .i64 ep]] w fun e w' => e = .returned (.bool (asked ⟨sq, cl, tg, ⟨k, nm, ot, at_, va, ep⟩⟩)) ∧ Below w.heap.size w w' := by
  obtain ⟨⟨hn, ho⟩, -, -, -, fk, fa, fv, fe⟩ := hf
  simp only at hn ho fk fa fv fe
  obtain ⟨W0, hW0, k0, d0, z0⟩ := box1 w #[.int .i64 sq, .int .i64 cl, .int .i64 tg, .int .i64 k, .string nm, .string ot, .int .i64 at_, .int .i64 va, .int .i64 ep] 34
  have HW0 : Hid (W0 = _) := hW0
  have p0 := at_cell k0 0
  have p1 := at_cell k0 1
  have p2 := at_cell k0 2
  have p3 := at_cell k0 3
  have p4 := at_cell k0 4
  have p5 := at_cell k0 5
  have p6 := at_cell k0 6
  have p7 := at_cell k0 7
  have p8 := at_cell k0 8
  have HB : Hid (asked ⟨sq, cl, tg, ⟨k, nm, ot, at_, va, ep⟩⟩ = (decide (sq = 0) && inB tg 1 1000 && inB cl 0 3 && opOk ⟨k, nm, ot, at_, va, ep⟩)) := rfl
  clear hW0 z0 k0
  go_enter Try.func31, Try.ntmps31
  by_cases h0 : sq = 0
  case neg =>
    have HV : Hid (asked ⟨sq, cl, tg, ⟨k, nm, ot, at_, va, ep⟩⟩ = false) := by simp [Hid, asked, h0]
    clear HB
    go_wp2_with fail
    go_ret
    rw [← HW0.out]
    exact ⟨ret_bool HV.out.symm, d0⟩
  subst h0
  go_wp2_with fail
  rw [← HW0.out]
  clear HW0
  refine (clientOk_any cl _).mono ?_
  rintro e w' ⟨rfl, rfl⟩
  generalize inB cl 0 3 = c1 at *
  cases c1
  · go_wp2_with fail
    go_ret
    exact ⟨ret_bool (by rw [HB.out]; simp), d0⟩
  go_wp2_with fail
  refine (tagOk_any tg _).mono ?_
  rintro e w' ⟨rfl, rfl⟩
  generalize inB tg 1 1000 = c2 at *
  cases c2
  · go_wp2_with fail
    go_ret
    exact ⟨ret_bool (by rw [HB.out]; simp), d0⟩
  go_wp2_with fail
  refine (implOpOk_any k nm ot at_ va ep _ hn ho fk fa fv fe).mono ?_
  rintro e w1 ⟨rfl, b1⟩
  replace d0 := bw_call d0 b1
  generalize opOk ⟨k, nm, ot, at_, va, ep⟩ = c3 at *
  go_wp2_with fail
  go_ret
  exact ⟨ret_bool (by rw [HB.out]; simp), d0⟩

set_option maxHeartbeats 6400000 in
theorem told1_any (ds vw sq cl tg k : Int) (nm ot : ByteArray) (at_ va ep s rc rv : Int) (w : World) :
    Calls Try.prog 28 #[.agg #[.int .i64 1, .int .i64 ds, .int .i64 vw, .int .i64 sq, .int .i64 cl, .int .i64 tg, .int .i64 k, .string nm, .string ot, .int .i64 at_, .int .i64 va, .int .i64 ep, .int .i64 s, .int .i64 rc, .int .i64 rv]] w fun e w' => e = .returned (.agg #[.int .i64 1, .int .i64 ds, .int .i64 vw, .int .i64 sq, .int .i64 cl, .int .i64 tg, .int .i64 k, .string nm, .string ot, .int .i64 at_, .int .i64 va, .int .i64 ep, .int .i64 0, .int .i64 0, .int .i64 0]) ∧ Below w.heap.size w w' := by
  obtain ⟨W0, hW0, k0, k1, k2, d0, z0⟩ := box3 w #[.int .i64 1, .int .i64 ds, .int .i64 vw, .int .i64 sq, .int .i64 cl, .int .i64 tg, .int .i64 k, .string nm, .string ot, .int .i64 at_, .int .i64 va, .int .i64 ep, .int .i64 s, .int .i64 rc, .int .i64 rv] #[.int .i64 0, .int .i64 0, .int .i64 0, .int .i64 0, .int .i64 0, .int .i64 0, .int .i64 0, .string ⟨#[]⟩, .string ⟨#[]⟩, .int .i64 0, .int .i64 0, .int .i64 0, .int .i64 0, .int .i64 0, .int .i64 0] #[.int .i64 1, .int .i64 ds, .int .i64 vw, .int .i64 0, .int .i64 0, .int .i64 0, .int .i64 0, .string ⟨#[]⟩, .string ⟨#[]⟩, .int .i64 0, .int .i64 0, .int .i64 0, .int .i64 0, .int .i64 0, .int .i64 0] 38 38 38
  have HW0 : Hid (W0 = _) := hW0
  have p0 := at_cell k0 0
  have p1 := at_cell k0 1
  have p2 := at_cell k0 2
  have p3 := at_cell k0 3
  have p4 := at_cell k0 4
  have p5 := at_cell k0 5
  have p6 := at_cell k0 6
  have p7 := at_cell k0 7
  have p8 := at_cell k0 8
  have p9 := at_cell k0 9
  have p10 := at_cell k0 10
  have p11 := at_cell k0 11
  have p12 := at_cell k0 12
  have p13 := at_cell k0 13
  have p14 := at_cell k0 14
  clear hW0 z0
  have c3 := at_cell k2 3
  have c4 := at_cell k2 4
  have c5 := at_cell k2 5
  have c6 := at_cell k2 6
  have c7 := at_cell k2 7
  have c8 := at_cell k2 8
  have c9 := at_cell k2 9
  have c10 := at_cell k2 10
  have c11 := at_cell k2 11
  have f3 := at_open k2 3
  have f4 := at_open k2 4
  have f5 := at_open k2 5
  have f6 := at_open k2 6
  have f7 := at_open k2 7
  have f8 := at_open k2 8
  have f9 := at_open k2 9
  have f10 := at_open k2 10
  have f11 := at_open k2 11
  obtain ⟨s1, s2, s3⟩ := putE (b := w.heap.size + 1 + 1) (by omega) k2 d0 (.int .i64 sq) (.int .i64 cl) (.int .i64 tg) (.int .i64 k) (.string nm) (.string ot) (.int .i64 at_) (.int .i64 va) (.int .i64 ep)
  have e1 := (s3.block (w.heap.size + 1) (heap_lt k1) (by omega)).trans k1
  obtain ⟨W2, hW2⟩ : ∃ W2, W2 = (((((((((W0.setCell ⟨w.heap.size + 1 + 1, 3, none⟩ (.int .i64 sq)).setCell ⟨w.heap.size + 1 + 1, 4, none⟩ (.int .i64 cl)).setCell ⟨w.heap.size + 1 + 1, 5, none⟩ (.int .i64 tg)).setCell ⟨w.heap.size + 1 + 1, 6, none⟩ (.int .i64 k)).setCell ⟨w.heap.size + 1 + 1, 7, none⟩ (.string nm)).setCell ⟨w.heap.size + 1 + 1, 8, none⟩ (.string ot)).setCell ⟨w.heap.size + 1 + 1, 9, none⟩ (.int .i64 at_)).setCell ⟨w.heap.size + 1 + 1, 10, none⟩ (.int .i64 va)).setCell ⟨w.heap.size + 1 + 1, 11, none⟩ (.int .i64 ep)) := ⟨_, rfl⟩
  rw [← hW2] at s1 s2 e1
  have HW2 : Hid (W2 = _) := hW2
  clear hW2
  have q0 := at_cell s1 0
  have q1 := at_cell s1 1
  have q2 := at_cell s1 2
  have q3 := at_cell s1 3
  have q4 := at_cell s1 4
  have q5 := at_cell s1 5
  have q6 := at_cell s1 6
  have q7 := at_cell s1 7
  have q8 := at_cell s1 8
  have q9 := at_cell s1 9
  have q10 := at_cell s1 10
  have q11 := at_cell s1 11
  have q12 := at_cell s1 12
  have q13 := at_cell s1 13
  have q14 := at_cell s1 14
  have g0 := at_open e1 0
  have g1 := at_open e1 1
  have g2 := at_open e1 2
  have g3 := at_open e1 3
  have g4 := at_open e1 4
  have g5 := at_open e1 5
  have g6 := at_open e1 6
  have g7 := at_open e1 7
  have g8 := at_open e1 8
  have g9 := at_open e1 9
  have g10 := at_open e1 10
  have g11 := at_open e1 11
  have g12 := at_open e1 12
  have g13 := at_open e1 13
  have g14 := at_open e1 14
  have r0 := at_cell e1 0
  have r1 := at_cell e1 1
  have r2 := at_cell e1 2
  have r3 := at_cell e1 3
  have r4 := at_cell e1 4
  have r5 := at_cell e1 5
  have r6 := at_cell e1 6
  have r7 := at_cell e1 7
  have r8 := at_cell e1 8
  have r9 := at_cell e1 9
  have r10 := at_cell e1 10
  have r11 := at_cell e1 11
  have r12 := at_cell e1 12
  have r13 := at_cell e1 13
  have r14 := at_cell e1 14
  have HS : Hid _ := putF (b := w.heap.size + 1) (by omega) e1 s2 (.int .i64 1) (.int .i64 ds) (.int .i64 vw) (.int .i64 sq) (.int .i64 cl) (.int .i64 tg) (.int .i64 k) (.string nm) (.string ot) (.int .i64 at_) (.int .i64 va) (.int .i64 ep) (.int .i64 0) (.int .i64 0) (.int .i64 0)

  clear s1 s2 s3 e1 k0 k1 k2 d0
  go_enter Try.func28, Try.ntmps28
  go_upto_region 5 with fail
  rw [← HW0.out]
  clear HW0
  go_upto_region 10 with fail
  rw [← HW2.out]
  clear HW2 c3 f3 c4 f4 c5 f5 c6 f6 c7 f7 c8 f8 c9 f9 c10 f10 c11 f11
  go_wp2_with fail
  exact bodyPost_ret (v := .agg #[.int .i64 1, .int .i64 ds, .int .i64 vw, .int .i64 sq, .int .i64 cl, .int .i64 tg, .int .i64 k, .string nm, .string ot, .int .i64 at_, .int .i64 va, .int .i64 ep, .int .i64 0, .int .i64 0, .int .i64 0]) (by simp [results, Try.results28, go_sem, at_cell HS.out.1]) rfl ⟨rfl, HS.out.2.1⟩

set_option maxHeartbeats 6400000 in
theorem told2_any (ds vw sq cl tg k : Int) (nm ot : ByteArray) (at_ va ep s rc rv : Int) (w : World) :
    Calls Try.prog 28 #[.agg #[.int .i64 2, .int .i64 ds, .int .i64 vw, .int .i64 sq, .int .i64 cl, .int .i64 tg, .int .i64 k, .string nm, .string ot, .int .i64 at_, .int .i64 va, .int .i64 ep, .int .i64 s, .int .i64 rc, .int .i64 rv]] w fun e w' => e = .returned (.agg #[.int .i64 2, .int .i64 ds, .int .i64 vw, .int .i64 sq, .int .i64 cl, .int .i64 tg, .int .i64 k, .string nm, .string ot, .int .i64 at_, .int .i64 va, .int .i64 ep, .int .i64 0, .int .i64 0, .int .i64 0]) ∧ Below w.heap.size w w' := by
  obtain ⟨W0, hW0, k0, k1, k2, d0, z0⟩ := box3 w #[.int .i64 2, .int .i64 ds, .int .i64 vw, .int .i64 sq, .int .i64 cl, .int .i64 tg, .int .i64 k, .string nm, .string ot, .int .i64 at_, .int .i64 va, .int .i64 ep, .int .i64 s, .int .i64 rc, .int .i64 rv] #[.int .i64 0, .int .i64 0, .int .i64 0, .int .i64 0, .int .i64 0, .int .i64 0, .int .i64 0, .string ⟨#[]⟩, .string ⟨#[]⟩, .int .i64 0, .int .i64 0, .int .i64 0, .int .i64 0, .int .i64 0, .int .i64 0] #[.int .i64 2, .int .i64 ds, .int .i64 vw, .int .i64 0, .int .i64 0, .int .i64 0, .int .i64 0, .string ⟨#[]⟩, .string ⟨#[]⟩, .int .i64 0, .int .i64 0, .int .i64 0, .int .i64 0, .int .i64 0, .int .i64 0] 38 38 38
  have HW0 : Hid (W0 = _) := hW0
  have p0 := at_cell k0 0
  have p1 := at_cell k0 1
  have p2 := at_cell k0 2
  have p3 := at_cell k0 3
  have p4 := at_cell k0 4
  have p5 := at_cell k0 5
  have p6 := at_cell k0 6
  have p7 := at_cell k0 7
  have p8 := at_cell k0 8
  have p9 := at_cell k0 9
  have p10 := at_cell k0 10
  have p11 := at_cell k0 11
  have p12 := at_cell k0 12
  have p13 := at_cell k0 13
  have p14 := at_cell k0 14
  clear hW0 z0
  have c3 := at_cell k2 3
  have c4 := at_cell k2 4
  have c5 := at_cell k2 5
  have c6 := at_cell k2 6
  have c7 := at_cell k2 7
  have c8 := at_cell k2 8
  have c9 := at_cell k2 9
  have c10 := at_cell k2 10
  have c11 := at_cell k2 11
  have f3 := at_open k2 3
  have f4 := at_open k2 4
  have f5 := at_open k2 5
  have f6 := at_open k2 6
  have f7 := at_open k2 7
  have f8 := at_open k2 8
  have f9 := at_open k2 9
  have f10 := at_open k2 10
  have f11 := at_open k2 11
  obtain ⟨s1, s2, s3⟩ := putE (b := w.heap.size + 1 + 1) (by omega) k2 d0 (.int .i64 sq) (.int .i64 cl) (.int .i64 tg) (.int .i64 k) (.string nm) (.string ot) (.int .i64 at_) (.int .i64 va) (.int .i64 ep)
  have e1 := (s3.block (w.heap.size + 1) (heap_lt k1) (by omega)).trans k1
  obtain ⟨W2, hW2⟩ : ∃ W2, W2 = (((((((((W0.setCell ⟨w.heap.size + 1 + 1, 3, none⟩ (.int .i64 sq)).setCell ⟨w.heap.size + 1 + 1, 4, none⟩ (.int .i64 cl)).setCell ⟨w.heap.size + 1 + 1, 5, none⟩ (.int .i64 tg)).setCell ⟨w.heap.size + 1 + 1, 6, none⟩ (.int .i64 k)).setCell ⟨w.heap.size + 1 + 1, 7, none⟩ (.string nm)).setCell ⟨w.heap.size + 1 + 1, 8, none⟩ (.string ot)).setCell ⟨w.heap.size + 1 + 1, 9, none⟩ (.int .i64 at_)).setCell ⟨w.heap.size + 1 + 1, 10, none⟩ (.int .i64 va)).setCell ⟨w.heap.size + 1 + 1, 11, none⟩ (.int .i64 ep)) := ⟨_, rfl⟩
  rw [← hW2] at s1 s2 e1
  have HW2 : Hid (W2 = _) := hW2
  clear hW2
  have q0 := at_cell s1 0
  have q1 := at_cell s1 1
  have q2 := at_cell s1 2
  have q3 := at_cell s1 3
  have q4 := at_cell s1 4
  have q5 := at_cell s1 5
  have q6 := at_cell s1 6
  have q7 := at_cell s1 7
  have q8 := at_cell s1 8
  have q9 := at_cell s1 9
  have q10 := at_cell s1 10
  have q11 := at_cell s1 11
  have q12 := at_cell s1 12
  have q13 := at_cell s1 13
  have q14 := at_cell s1 14
  have g0 := at_open e1 0
  have g1 := at_open e1 1
  have g2 := at_open e1 2
  have g3 := at_open e1 3
  have g4 := at_open e1 4
  have g5 := at_open e1 5
  have g6 := at_open e1 6
  have g7 := at_open e1 7
  have g8 := at_open e1 8
  have g9 := at_open e1 9
  have g10 := at_open e1 10
  have g11 := at_open e1 11
  have g12 := at_open e1 12
  have g13 := at_open e1 13
  have g14 := at_open e1 14
  have r0 := at_cell e1 0
  have r1 := at_cell e1 1
  have r2 := at_cell e1 2
  have r3 := at_cell e1 3
  have r4 := at_cell e1 4
  have r5 := at_cell e1 5
  have r6 := at_cell e1 6
  have r7 := at_cell e1 7
  have r8 := at_cell e1 8
  have r9 := at_cell e1 9
  have r10 := at_cell e1 10
  have r11 := at_cell e1 11
  have r12 := at_cell e1 12
  have r13 := at_cell e1 13
  have r14 := at_cell e1 14
  have HS : Hid _ := putF (b := w.heap.size + 1) (by omega) e1 s2 (.int .i64 2) (.int .i64 ds) (.int .i64 vw) (.int .i64 sq) (.int .i64 cl) (.int .i64 tg) (.int .i64 k) (.string nm) (.string ot) (.int .i64 at_) (.int .i64 va) (.int .i64 ep) (.int .i64 0) (.int .i64 0) (.int .i64 0)

  clear s1 s2 s3 e1 k0 k1 k2 d0
  go_enter Try.func28, Try.ntmps28
  go_upto_region 5 with fail
  rw [← HW0.out]
  clear HW0
  go_upto_region 10 with fail
  rw [← HW2.out]
  clear HW2 c3 f3 c4 f4 c5 f5 c6 f6 c7 f7 c8 f8 c9 f9 c10 f10 c11 f11
  go_wp2_with fail
  exact bodyPost_ret (v := .agg #[.int .i64 2, .int .i64 ds, .int .i64 vw, .int .i64 sq, .int .i64 cl, .int .i64 tg, .int .i64 k, .string nm, .string ot, .int .i64 at_, .int .i64 va, .int .i64 ep, .int .i64 0, .int .i64 0, .int .i64 0]) (by simp [results, Try.results28, go_sem, at_cell HS.out.1]) rfl ⟨rfl, HS.out.2.1⟩

set_option maxHeartbeats 6400000 in
theorem told3_any (ds vw sq cl tg k : Int) (nm ot : ByteArray) (at_ va ep s rc rv : Int) (w : World) :
    Calls Try.prog 28 #[.agg #[.int .i64 3, .int .i64 ds, .int .i64 vw, .int .i64 sq, .int .i64 cl, .int .i64 tg, .int .i64 k, .string nm, .string ot, .int .i64 at_, .int .i64 va, .int .i64 ep, .int .i64 s, .int .i64 rc, .int .i64 rv]] w fun e w' => e = .returned (.agg #[.int .i64 3, .int .i64 ds, .int .i64 vw, .int .i64 0, .int .i64 0, .int .i64 0, .int .i64 0, .string ⟨#[]⟩, .string ⟨#[]⟩, .int .i64 0, .int .i64 0, .int .i64 0, .int .i64 s, .int .i64 0, .int .i64 0]) ∧ Below w.heap.size w w' := by
  obtain ⟨W0, hW0, k0, k1, k2, d0, z0⟩ := box3 w #[.int .i64 3, .int .i64 ds, .int .i64 vw, .int .i64 sq, .int .i64 cl, .int .i64 tg, .int .i64 k, .string nm, .string ot, .int .i64 at_, .int .i64 va, .int .i64 ep, .int .i64 s, .int .i64 rc, .int .i64 rv] #[.int .i64 0, .int .i64 0, .int .i64 0, .int .i64 0, .int .i64 0, .int .i64 0, .int .i64 0, .string ⟨#[]⟩, .string ⟨#[]⟩, .int .i64 0, .int .i64 0, .int .i64 0, .int .i64 0, .int .i64 0, .int .i64 0] #[.int .i64 3, .int .i64 ds, .int .i64 vw, .int .i64 0, .int .i64 0, .int .i64 0, .int .i64 0, .string ⟨#[]⟩, .string ⟨#[]⟩, .int .i64 0, .int .i64 0, .int .i64 0, .int .i64 0, .int .i64 0, .int .i64 0] 38 38 38
  have HW0 : Hid (W0 = _) := hW0
  have p0 := at_cell k0 0
  have p1 := at_cell k0 1
  have p2 := at_cell k0 2
  have p3 := at_cell k0 3
  have p4 := at_cell k0 4
  have p5 := at_cell k0 5
  have p6 := at_cell k0 6
  have p7 := at_cell k0 7
  have p8 := at_cell k0 8
  have p9 := at_cell k0 9
  have p10 := at_cell k0 10
  have p11 := at_cell k0 11
  have p12 := at_cell k0 12
  have p13 := at_cell k0 13
  have p14 := at_cell k0 14
  clear hW0 z0
  have c12 := at_cell k2 12
  have f12 := at_open k2 12
  obtain ⟨s1, s2, s3⟩ := putS (b := w.heap.size + 1 + 1) (by omega) k2 d0 (.int .i64 s)
  have e1 := (s3.block (w.heap.size + 1) (heap_lt k1) (by omega)).trans k1
  obtain ⟨W2, hW2⟩ : ∃ W2, W2 = (W0.setCell ⟨w.heap.size + 1 + 1, 12, none⟩ (.int .i64 s)) := ⟨_, rfl⟩
  rw [← hW2] at s1 s2 e1
  have HW2 : Hid (W2 = _) := hW2
  clear hW2
  have q0 := at_cell s1 0
  have q1 := at_cell s1 1
  have q2 := at_cell s1 2
  have q3 := at_cell s1 3
  have q4 := at_cell s1 4
  have q5 := at_cell s1 5
  have q6 := at_cell s1 6
  have q7 := at_cell s1 7
  have q8 := at_cell s1 8
  have q9 := at_cell s1 9
  have q10 := at_cell s1 10
  have q11 := at_cell s1 11
  have q12 := at_cell s1 12
  have q13 := at_cell s1 13
  have q14 := at_cell s1 14
  have g0 := at_open e1 0
  have g1 := at_open e1 1
  have g2 := at_open e1 2
  have g3 := at_open e1 3
  have g4 := at_open e1 4
  have g5 := at_open e1 5
  have g6 := at_open e1 6
  have g7 := at_open e1 7
  have g8 := at_open e1 8
  have g9 := at_open e1 9
  have g10 := at_open e1 10
  have g11 := at_open e1 11
  have g12 := at_open e1 12
  have g13 := at_open e1 13
  have g14 := at_open e1 14
  have r0 := at_cell e1 0
  have r1 := at_cell e1 1
  have r2 := at_cell e1 2
  have r3 := at_cell e1 3
  have r4 := at_cell e1 4
  have r5 := at_cell e1 5
  have r6 := at_cell e1 6
  have r7 := at_cell e1 7
  have r8 := at_cell e1 8
  have r9 := at_cell e1 9
  have r10 := at_cell e1 10
  have r11 := at_cell e1 11
  have r12 := at_cell e1 12
  have r13 := at_cell e1 13
  have r14 := at_cell e1 14
  have HS : Hid _ := putF (b := w.heap.size + 1) (by omega) e1 s2 (.int .i64 3) (.int .i64 ds) (.int .i64 vw) (.int .i64 0) (.int .i64 0) (.int .i64 0) (.int .i64 0) (.string ⟨#[]⟩) (.string ⟨#[]⟩) (.int .i64 0) (.int .i64 0) (.int .i64 0) (.int .i64 s) (.int .i64 0) (.int .i64 0)

  clear s1 s2 s3 e1 k0 k1 k2 d0
  go_enter Try.func28, Try.ntmps28
  go_upto_region 7 with fail
  rw [← HW0.out]
  clear HW0
  go_upto_region 10 with fail
  rw [← HW2.out]
  clear HW2 c12 f12
  go_wp2_with fail
  exact bodyPost_ret (v := .agg #[.int .i64 3, .int .i64 ds, .int .i64 vw, .int .i64 0, .int .i64 0, .int .i64 0, .int .i64 0, .string ⟨#[]⟩, .string ⟨#[]⟩, .int .i64 0, .int .i64 0, .int .i64 0, .int .i64 s, .int .i64 0, .int .i64 0]) (by simp [results, Try.results28, go_sem, at_cell HS.out.1]) rfl ⟨rfl, HS.out.2.1⟩

set_option maxHeartbeats 6400000 in
theorem told0_any (kd ds vw sq cl tg k : Int) (nm ot : ByteArray) (at_ va ep s rc rv : Int) (w : World) (h1 : kd ≠ 1) (h2 : kd ≠ 2) (h3 : kd ≠ 3) (h4 : kd ≠ 4) :
    Calls Try.prog 28 #[.agg #[.int .i64 kd, .int .i64 ds, .int .i64 vw, .int .i64 sq, .int .i64 cl, .int .i64 tg, .int .i64 k, .string nm, .string ot, .int .i64 at_, .int .i64 va, .int .i64 ep, .int .i64 s, .int .i64 rc, .int .i64 rv]] w fun e w' => e = .returned (.agg #[.int .i64 kd, .int .i64 ds, .int .i64 vw, .int .i64 0, .int .i64 0, .int .i64 0, .int .i64 0, .string ⟨#[]⟩, .string ⟨#[]⟩, .int .i64 0, .int .i64 0, .int .i64 0, .int .i64 0, .int .i64 0, .int .i64 0]) ∧ Below w.heap.size w w' := by
  obtain ⟨W0, hW0, k0, k1, k2, d0, z0⟩ := box3 w #[.int .i64 kd, .int .i64 ds, .int .i64 vw, .int .i64 sq, .int .i64 cl, .int .i64 tg, .int .i64 k, .string nm, .string ot, .int .i64 at_, .int .i64 va, .int .i64 ep, .int .i64 s, .int .i64 rc, .int .i64 rv] #[.int .i64 0, .int .i64 0, .int .i64 0, .int .i64 0, .int .i64 0, .int .i64 0, .int .i64 0, .string ⟨#[]⟩, .string ⟨#[]⟩, .int .i64 0, .int .i64 0, .int .i64 0, .int .i64 0, .int .i64 0, .int .i64 0] #[.int .i64 kd, .int .i64 ds, .int .i64 vw, .int .i64 0, .int .i64 0, .int .i64 0, .int .i64 0, .string ⟨#[]⟩, .string ⟨#[]⟩, .int .i64 0, .int .i64 0, .int .i64 0, .int .i64 0, .int .i64 0, .int .i64 0] 38 38 38
  have HW0 : Hid (W0 = _) := hW0
  have p0 := at_cell k0 0
  have p1 := at_cell k0 1
  have p2 := at_cell k0 2
  have p3 := at_cell k0 3
  have p4 := at_cell k0 4
  have p5 := at_cell k0 5
  have p6 := at_cell k0 6
  have p7 := at_cell k0 7
  have p8 := at_cell k0 8
  have p9 := at_cell k0 9
  have p10 := at_cell k0 10
  have p11 := at_cell k0 11
  have p12 := at_cell k0 12
  have p13 := at_cell k0 13
  have p14 := at_cell k0 14
  clear hW0 z0
  have s1 := k2
  have s2 := d0
  have s3 := Upto.refl (w.heap.size + 1 + 1) W0
  have e1 := (s3.block (w.heap.size + 1) (heap_lt k1) (by omega)).trans k1
  have q0 := at_cell s1 0
  have q1 := at_cell s1 1
  have q2 := at_cell s1 2
  have q3 := at_cell s1 3
  have q4 := at_cell s1 4
  have q5 := at_cell s1 5
  have q6 := at_cell s1 6
  have q7 := at_cell s1 7
  have q8 := at_cell s1 8
  have q9 := at_cell s1 9
  have q10 := at_cell s1 10
  have q11 := at_cell s1 11
  have q12 := at_cell s1 12
  have q13 := at_cell s1 13
  have q14 := at_cell s1 14
  have g0 := at_open e1 0
  have g1 := at_open e1 1
  have g2 := at_open e1 2
  have g3 := at_open e1 3
  have g4 := at_open e1 4
  have g5 := at_open e1 5
  have g6 := at_open e1 6
  have g7 := at_open e1 7
  have g8 := at_open e1 8
  have g9 := at_open e1 9
  have g10 := at_open e1 10
  have g11 := at_open e1 11
  have g12 := at_open e1 12
  have g13 := at_open e1 13
  have g14 := at_open e1 14
  have r0 := at_cell e1 0
  have r1 := at_cell e1 1
  have r2 := at_cell e1 2
  have r3 := at_cell e1 3
  have r4 := at_cell e1 4
  have r5 := at_cell e1 5
  have r6 := at_cell e1 6
  have r7 := at_cell e1 7
  have r8 := at_cell e1 8
  have r9 := at_cell e1 9
  have r10 := at_cell e1 10
  have r11 := at_cell e1 11
  have r12 := at_cell e1 12
  have r13 := at_cell e1 13
  have r14 := at_cell e1 14
  have HS : Hid _ := putF (b := w.heap.size + 1) (by omega) e1 s2 (.int .i64 kd) (.int .i64 ds) (.int .i64 vw) (.int .i64 0) (.int .i64 0) (.int .i64 0) (.int .i64 0) (.string ⟨#[]⟩) (.string ⟨#[]⟩) (.int .i64 0) (.int .i64 0) (.int .i64 0) (.int .i64 0) (.int .i64 0) (.int .i64 0)

  clear s1 s2 s3 e1 k0 k1 k2 d0
  go_enter Try.func28, Try.ntmps28
  go_upto_region 10 with fail
  rw [← HW0.out]
  clear HW0
  go_wp2_with fail
  exact bodyPost_ret (v := .agg #[.int .i64 kd, .int .i64 ds, .int .i64 vw, .int .i64 0, .int .i64 0, .int .i64 0, .int .i64 0, .string ⟨#[]⟩, .string ⟨#[]⟩, .int .i64 0, .int .i64 0, .int .i64 0, .int .i64 0, .int .i64 0, .int .i64 0]) (by simp [results, Try.results28, go_sem, at_cell HS.out.1]) rfl ⟨rfl, HS.out.2.1⟩
end Go.Proofs.Ytgabhnhfomekfaa

