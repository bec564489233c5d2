/-
  Contracts and plain laws, one chapter behind the other.
-/
import Derived.Test.YtgabhnhfomekfaaM07
import Derived.Test.YtgabhnhfomekfaaM09
import Derived.Test.YtgabhnhfomekfaaM18
namespace Go.Proofs.Ytgabhnhfomekfaa
open Go.RowKit

set_option linter.unusedVariables false

set_option maxRecDepth 100000


theorem within_any (x lo hi : Int) (w : World) :
    Calls Try.prog 33 #[.int .i64 x, .int .i64 lo, .int .i64 hi] w fun e w' => e = .returned (.bool (inB x lo hi)) ∧ w' = w := by
  by_cases h : lo ≤ x
  · go_enter Try.func33, Try.ntmps33
    go_wp2
    go_ret
    exact ⟨ret_bool (by simp [inB, h]), rfl⟩
  · go_enter Try.func33, Try.ntmps33
    go_wp2
    go_ret
    exact ⟨ret_bool (by simp [inB]; omega), rfl⟩

theorem otherOk_any (ot : ByteArray) (b : Bool) (w : World) (ho : ot.size ≤ maxLen) :
    Calls Try.prog 63 #[.string ot, .bool b] w fun e w' => e = .returned (.bool (otOk ot b)) ∧ w' = w := by
  cases b
  · have HE : Hid (_ = _) := text_nil ot
    have HV : Hid (otOk ot false = decide (ot.size = 0)) := by simp [Hid, otOk]
    go_enter Try.func63, Try.ntmps63
    go_wp2_with fail
    go_ret
    exact ⟨ret_bool (by rw [HV.out, ← HE.out]; simp), rfl⟩
  · have HV : Hid (otOk ot true = Nums.nameB ot.data.toList) := by simp [Hid, otOk]
    go_enter Try.func63, Try.ntmps63
    go_wp2_with fail
    refine (implName_any ot _ ho).mono ?_
    rintro e w' ⟨rfl, rfl⟩
    go_wp2_with fail
    go_ret
    exact ⟨ret_bool HV.out.symm, rfl⟩

/-- What limitsOf answers. -/
def limV (k : Int) : Value := .tuple #[.agg #[.bool (kOther k), .int .i64 (lmAt k), .int .i64 (lmLo k), .int .i64 (lmHi k), .int .i64 (lmEp k)], .bool (inB k 1 9)]

theorem limits_in (k : Int) (w : World) (h : k = 1 ∨ k = 2 ∨ k = 3 ∨ k = 4 ∨ k = 5 ∨ k = 6 ∨ k = 7 ∨ k = 8 ∨ k = 9) :
    Calls Try.prog 61 #[.int .i64 k] w fun e w' => e = .returned (limV k) ∧ Below w.heap.size w w' := by
  rcases h with rfl | rfl | rfl | rfl | rfl | rfl | rfl | rfl | rfl
  all_goals
    go_enter Try.func61, Try.ntmps61
    go_wp2_with fail
    exact bodyPost_ret (v := limV _) (by simp [results, Try.results61, go_sem]; rfl) rfl ⟨rfl, by go_grown⟩

theorem limits_out (k : Int) (w : World) (h : ¬ (1 ≤ k ∧ k ≤ 9)) :
    Calls Try.prog 61 #[.int .i64 k] w fun e w' => e = .returned (limV k) ∧ Below w.heap.size w w' := by
  have n1 : ¬ k = 1 := by omega
  have n2 : ¬ k = 2 := by omega
  have n3 : ¬ k = 3 := by omega
  have n4 : ¬ k = 4 := by omega
  have n5 : ¬ k = 5 := by omega
  have n6 : ¬ k = 6 := by omega
  have n7 : ¬ k = 7 := by omega
  have n8 : ¬ k = 8 := by omega
  have n9 : ¬ k = 9 := by omega
  have HV : Hid (limV k = .tuple #[.agg #[.bool false, .int .i64 0, .int .i64 0, .int .i64 0, .int .i64 0], .bool false]) := by
    have e : inB k 1 9 = false := by rw [Bool.eq_false_iff, ne_eq, inB_iff]; exact h
    unfold limV
    rw [Hid, e]
    simp [lmAt, lmLo, lmHi, lmEp, kAt, kSize, kEpoch, kOther, *]
  go_enter Try.func61, Try.ntmps61
  go_wp2_with fail
  exact bodyPost_ret (v := .tuple #[.agg #[.bool false, .int .i64 0, .int .i64 0, .int .i64 0, .int .i64 0], .bool false]) (by simp [results, Try.results61, go_sem]) rfl ⟨by rw [HV.out], by go_grown⟩

theorem limits_any (k : Int) (w : World) :
    Calls Try.prog 61 #[.int .i64 k] w fun e w' => e = .returned (limV k) ∧ Below w.heap.size w w' := by
  by_cases h : 1 ≤ k ∧ k ≤ 9
  · exact limits_in k w (by omega)
  · exact limits_out k w h

set_option maxHeartbeats 1600000 in
theorem implOpOk_any (k : Int) (nm ot : ByteArray) (at_ va ep : Int) (w : World) (hn : nm.size ≤ maxLen) (ho : ot.size ≤ maxLen) (fk : I64 k) (fa : I64 at_) (fv : I64 va) (fe : I64 ep) :
    Calls Try.prog 52 #[.agg #[.int .i64 k, .string nm, .string ot, .int .i64 at_, .int .i64 va, .int .i64 ep]] w fun e w' => e = .returned (.bool (opOk ⟨k, nm, ot, at_, va, ep⟩)) ∧ Below w.heap.size w w' := by
  rw [opOk_by]
  obtain ⟨W0, hW0, k0, d0, z0⟩ := box1 w #[.int .i64 k, .string nm, .string ot, .int .i64 at_, .int .i64 va, .int .i64 ep] 32
  have HW0 : Hid (W0 = _) := hW0
  have s0 := heap_lt k0
  have p0 := at_cell k0 0
  clear hW0 z0
  go_enter Try.func52, Try.ntmps52
  go_wp2_with fail
  rw [← HW0.out]
  clear HW0 p0
  refine (limits_any k _).mono ?_
  unfold limV
  rintro e w1 ⟨rfl, b1⟩
  replace k0 := (b1.block _ s0).trans k0
  replace d0 := bw_call d0 b1
  have t0 := heap_lt k0
  have o1 := at_cell k0 1
  obtain ⟨W1, hW1, k1, d1, z1⟩ := box1 w1 #[.bool (kOther k), .int .i64 (lmAt k), .int .i64 (lmLo k), .int .i64 (lmHi k), .int .i64 (lmEp k)] 88
  have HW1 : Hid (W1 = _) := hW1
  replace k0 := (d1.block _ t0).trans k0
  replace d0 := bw_call d0 d1
  have p1 := at_cell k0 1
  have p2 := at_cell k0 2
  have p3 := at_cell k0 3
  have p4 := at_cell k0 4
  have p5 := at_cell k0 5
  have r0 := at_cell k1 0
  have r1 := at_cell k1 1
  have r2 := at_cell k1 2
  have r3 := at_cell k1 3
  have r4 := at_cell k1 4
  have HB : Hid (opBy ⟨k, nm, ot, at_, va, ep⟩ = (inB k 1 9 && Nums.nameB nm.data.toList && otOk ot (kOther k) && inB at_ 0 (lmAt k) && inB va (lmLo k) (lmHi k) && inB ep 0 (lmEp k))) := rfl
  clear b1 d1 z1 hW1 k0 k1 s0
  generalize kOther k = x0 at *
  generalize lmAt k = x1 at *
  generalize lmLo k = x2 at *
  generalize lmHi k = x3 at *
  generalize lmEp k = x4 at *
  generalize inB k 1 9 = c0 at *
  cases c0
  · go_wp2_with fail
    rw [← HW1.out]
    clear HW1
    go_ret
    exact ⟨ret_bool (by rw [HB.out]; rfl), d0⟩
  go_wp2_with fail
  rw [← HW1.out]
  clear HW1 o1 t0
  refine (implName_any nm _ hn).mono ?_
  rintro e w' ⟨rfl, rfl⟩
  generalize Nums.nameB nm.data.toList = c1 at *
  cases c1
  · go_wp2_with fail
    go_ret
    exact ⟨ret_bool (by rw [HB.out]; rfl), d0⟩
  go_wp2_with fail
  refine (otherOk_any ot x0 _ ho).mono ?_
  rintro e w' ⟨rfl, rfl⟩
  generalize otOk ot x0 = c2 at *
  cases c2
  · go_wp2_with fail
    go_ret
    exact ⟨ret_bool (by rw [HB.out]; rfl), d0⟩
  go_wp2_with fail
  refine (within_any at_ 0 x1 _).mono ?_
  rintro e w' ⟨rfl, rfl⟩
  generalize inB at_ 0 x1 = c3 at *
  cases c3
  · go_wp2_with fail
    go_ret
    exact ⟨ret_bool (by rw [HB.out]; rfl), d0⟩
  go_wp2_with fail
  refine (within_any va x2 x3 _).mono ?_
  rintro e w' ⟨rfl, rfl⟩
  generalize inB va x2 x3 = c4 at *
  cases c4
  · go_wp2_with fail
    go_ret
    exact ⟨ret_bool (by rw [HB.out]; rfl), d0⟩
  go_wp2_with fail
  refine (within_any ep 0 x4 _).mono ?_
  rintro e w' ⟨rfl, rfl⟩
  generalize inB ep 0 x4 = c5 at *
  go_wp2_with fail
  go_ret
  exact ⟨ret_bool (by rw [HB.out]; rfl), d0⟩

theorem implChanges_any (k : Int) (nm ot : ByteArray) (at_ va ep : Int) (w : World) (hn : nm.size ≤ maxLen) (ho : ot.size ≤ maxLen) (fk : I64 k) (fa : I64 at_) (fv : I64 va) (fe : I64 ep) :
    Calls Try.prog 53 #[.agg #[.int .i64 k, .string nm, .string ot, .int .i64 at_, .int .i64 va, .int .i64 ep]] w fun e w' => e = .returned (.bool (changes ⟨k, nm, ot, at_, va, ep⟩)) ∧ Below w.heap.size w w' := by
  obtain ⟨W0, hW0, k0, d0, z0⟩ := box1 w #[.int .i64 k, .string nm, .string ot, .int .i64 at_, .int .i64 va, .int .i64 ep] 32
  have HW0 : Hid (W0 = _) := hW0
  have s0 := heap_lt k0
  clear hW0 z0
  go_enter Try.func53, Try.ntmps53
  go_wp2_with fail
  rw [← HW0.out]
  clear HW0
  refine (implOpOk_any k nm ot at_ va ep _ hn ho fk fa fv fe).mono ?_
  rintro e w1 ⟨rfl, b1⟩
  replace k0 := (b1.block _ s0).trans k0
  replace d0 := bw_call d0 b1
  have p0 := at_cell k0 0
  clear b1 k0
  have HC : Hid (changes ⟨k, nm, ot, at_, va, ep⟩ = (opOk ⟨k, nm, ot, at_, va, ep⟩ && decide (k ≠ 9))) := rfl
  generalize opOk ⟨k, nm, ot, at_, va, ep⟩ = c at *
  cases c
  · go_wp2_with fail
    go_ret
    exact ⟨ret_bool (by rw [HC.out]; rfl), d0⟩
  · go_wp2_with fail
    go_ret
    exact ⟨ret_bool (by rw [HC.out]; simp; rfl), d0⟩
end Go.Proofs.Ytgabhnhfomekfaa

namespace Go.Proofs.Ytgabhnhfomekfaa
open Go.RowKit

set_option linter.unusedVariables false

set_option maxRecDepth 100000


theorem clientOk_any (x : Int) (w : World) : Calls Try.prog 50 #[.int .i64 x] w fun e w' => e = .returned (.bool (inB x 0 3)) ∧ w' = w := by
  go_enter Try.func50, Try.ntmps50
  go_wp2_with fail
  refine (within_any x 0 3 _).mono ?_
  rintro e w' ⟨rfl, rfl⟩
  go_wp2_with fail
  go_ret
  exact ⟨rfl, rfl⟩

theorem tagOk_any (x : Int) (w : World) : Calls Try.prog 51 #[.int .i64 x] w fun e w' => e = .returned (.bool (inB x 1 1000)) ∧ w' = w := by
  go_enter Try.func51, Try.ntmps51
  go_wp2_with fail
  refine (within_any x 1 1000 _).mono ?_
  rintro e w' ⟨rfl, rfl⟩
  go_wp2_with fail
  go_ret
  exact ⟨rfl, rfl⟩
end Go.Proofs.Ytgabhnhfomekfaa

