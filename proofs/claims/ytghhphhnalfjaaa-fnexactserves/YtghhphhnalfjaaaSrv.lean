/-
  Chapter 16: who serves an op, by the specification and by the program, at every argument.
-/
import Derived.Test.YtghhphhnalfjaaaImVw
import Derived.Test.YtghhphhnalfjaaaImOp1
namespace Go.Proofs.Ytghhphhnalfjaaa
open Go.RowKit Nums
set_option linter.unusedVariables false
set_option maxRecDepth 100000

/-- Who serves: the tail a read, the head whatever else, nobody where the view or the op isn't right. -/
def serves (n : Int) (ms : List Int) (o : Oq) : Int := if viewOk n ms && opOk o then (if o.k = 9 then tailOf n ms else headOf n ms) else -1
theorem serves_noV {n : Int} {ms : List Int} {o : Oq} (h : viewOk n ms = false) : serves n ms o = -1 := by rw [serves, h]; rfl
theorem serves_noO {n : Int} {ms : List Int} {o : Oq} (h : opOk o = false) : serves n ms o = -1 := by rw [serves, h, Bool.and_false]; rfl
theorem serves_yes {n : Int} {ms : List Int} {o : Oq} (h : viewOk n ms = true) (k : opOk o = true) : serves n ms o = if o.k = 9 then tailOf n ms else headOf n ms := by rw [serves, h, k]; rfl
theorem serves_read {n : Int} {ms : List Int} {o : Oq} (k : opOk o = true) (q : o.k = 9) : serves n ms o = tailOf n ms := by
  cases h : viewOk n ms
  · rw [serves_noV h, (headOf_no h).2]
  · rw [serves_yes h k, if_pos q]
theorem serves_change {n : Int} {ms : List Int} {o : Oq} (k : opOk o = true) (q : ¬ o.k = 9) : serves n ms o = headOf n ms := by
  cases h : viewOk n ms
  · rw [serves_noV h, (headOf_no h).1]
  · rw [serves_yes h k, if_neg q]

set_option maxHeartbeats 1600000 in
theorem l16Serves_any (n : Int) (v : Value) (ms : List Int) (k : Int) (nm ot : ByteArray) (at_ va ep : Int) (w : World) (r : Reads w.heap.size w v (ms.map (Value.int .i64))) (hok : viewOk n ms = true) :
    Calls Try.prog 65 #[.agg #[.int .i64 n, v], .agg #[.int .i64 k, .string nm, .string ot, .int .i64 at_, .int .i64 va, .int .i64 ep]] w fun e w' => e = .returned (.int .i64 (if k = 9 then tailOf n ms else headOf n ms)) ∧ Below w.heap.size w w' := by
  obtain ⟨W0, hW0, k0, k1, d0, z0⟩ := box2 w #[.int .i64 n, v] #[.int .i64 k, .string nm, .string ot, .int .i64 at_, .int .i64 va, .int .i64 ep] 59 32
  have r0 := (r.below d0).mono d0.size
  have HW0 : Hid (W0 = _) := hW0
  have p1 := at_cell k0 1
  have o0 := at_cell k1 0
  clear hW0 r
  obtain ⟨hl, hh, ht⟩ := headOf_yes hok
  have hle := (viewOk_parts hok).2.2.2.2
  obtain ⟨o1, cap1, rfl, m1, c1, -⟩ := r0
  by_cases hk : k = 9
  · have HV : Hid ((if k = 9 then tailOf n ms else headOf n ms) = ms[ms.length - 1]) := by rw [Hid, if_pos hk]; exact ht
    obtain ⟨g1, of1, rfl, q1, cc1⟩ := cellsI_of c1 (ms.length - 1) (by omega)
    simp only [List.length_map] at p1 HW0 ⊢
    generalize ms[ms.length - 1] = x at HV cc1
    obtain ⟨j, hj⟩ : ∃ j, ms.length = j + 1 := ⟨ms.length - 1, by omega⟩
    rw [hj] at p1 cc1 HW0 ⊢
    simp only [Nat.add_sub_cancel] at cc1
    have hw1 : IntKind.i64.wrap ((j : Int) + 1 - 1) = j := by rw [IntKind.wrap_i64]; omega
    have hw2 : (j : Int) + 1 - 1 = j := by omega
    have hw4 : IntKind.i64.wrap (j : Int) = j := by rw [IntKind.wrap_i64]; omega
    have hi0 : (0 : Int) ≤ (j : Int) := by omega
    have hi1 : (j : Int) < (j : Int) + 1 := by omega
    clear hok k0 k1 c1 m1 hh ht hl hle hj
    subst hk
    go_enter Try.func65, Try.ntmps65
    go_upto_region 1 with fail
    rw [← HW0.out]
    clear HW0
    go_wp2_with fail
    go_ret
    exact ⟨ret_int HV.out.symm, d0⟩
  · have HV : Hid ((if k = 9 then tailOf n ms else headOf n ms) = ms[0]) := by rw [Hid, if_neg hk]; exact hh
    obtain ⟨g1, of1, rfl, q1, cc1⟩ := cellsI_of c1 0 hl
    simp only [List.length_map, Nat.add_zero] at p1 cc1 HW0 ⊢
    generalize ms[0] = x at HV cc1
    have hl' : (0 : Int) < (ms.length : Int) := by omega
    clear hok k0 k1 c1 m1 hh ht
    go_enter Try.func65, Try.ntmps65
    go_upto_region 1 with fail
    rw [← HW0.out]
    clear HW0
    go_wp2_with fail
    go_ret
    exact ⟨ret_int (by have q := HV.out; rw [if_neg hk] at q; exact q.symm), d0⟩

set_option maxHeartbeats 1600000 in
theorem specServes_any (n : Int) (v : Value) (ms : List Int) (k : Int) (nm ot : ByteArray) (at_ va ep : Int) (w : World) (r : Reads w.heap.size w v (ms.map (Value.int .i64))) (hn : nm.size ≤ maxLen) (ho : ot.size ≤ maxLen) :
    Calls Try.prog 30 #[.agg #[.int .i64 n, v], .agg #[.int .i64 k, .string nm, .string ot, .int .i64 at_, .int .i64 va, .int .i64 ep]] w fun e w' => e = .returned (.int .i64 (serves n ms ⟨k, nm, ot, at_, va, ep⟩)) ∧ Below w.heap.size w w' := by
  obtain ⟨W0, hW0, k0, k1, d0, z0⟩ := box2 w #[.int .i64 n, v] #[.int .i64 k, .string nm, .string ot, .int .i64 at_, .int .i64 va, .int .i64 ep] 59 32
  have r0 := (r.below d0).mono d0.size
  have HW0 : Hid (W0 = _) := hW0
  have p0 := at_cell k0 0
  have p1 := at_cell k0 1
  clear hW0 r
  go_enter Try.func30, Try.ntmps30
  go_wp2_with fail
  rw [← HW0.out]
  clear HW0
  refine (specViewOk_any n v ms _ r0).mono ?_
  rintro e w1 ⟨rfl, b1⟩
  replace k0 := (b1.block _ (by omega)).trans k0
  replace k1 := (b1.block _ (by omega)).trans k1
  replace d0 := bw_call d0 b1
  replace r0 := (r0.below b1).mono b1.size
  have s1 := b1.size
  clear p0 p1 b1
  cases hok : viewOk n ms
  · have HV : Hid _ := serves_noV (o := ⟨k, nm, ot, at_, va, ep⟩) hok
    clear hok k0 k1 r0
    go_wp2_with fail
    go_ret
    exact ⟨ret_int HV.out.symm, d0⟩
  have p0 := at_cell k1 0
  have p1 := at_cell k1 1
  have p2 := at_cell k1 2
  have p3 := at_cell k1 3
  have p4 := at_cell k1 4
  have p5 := at_cell k1 5
  go_wp2_with fail
  refine (specOpOk_any k nm ot at_ va ep _ hn ho).mono ?_
  rintro e w2 ⟨rfl, b2⟩
  replace k0 := (b2.block _ (by omega)).trans k0
  replace k1 := (b2.block _ (by omega)).trans k1
  replace d0 := bw_call d0 b2
  replace r0 := (r0.below b2).mono b2.size
  clear p0 p1 p2 p3 p4 p5 b2
  cases hop : opOk ⟨k, nm, ot, at_, va, ep⟩
  · have HV : Hid _ := serves_noO (n := n) (ms := ms) hop
    clear hok hop k0 k1 r0
    go_wp2_with fail
    go_ret
    exact ⟨ret_int HV.out.symm, d0⟩
  have HV : Hid _ := serves_yes hok hop
  have p0 := at_cell k1 0
  have p1 := at_cell k1 1
  have p2 := at_cell k1 2
  have p3 := at_cell k1 3
  have p4 := at_cell k1 4
  have p5 := at_cell k1 5
  have q0 := at_cell k0 0
  have q1 := at_cell k0 1
  clear hop
  go_wp2_with fail
  refine (l16Serves_any n v ms k nm ot at_ va ep _ r0 hok).mono ?_
  rintro e w3 ⟨rfl, b3⟩
  replace d0 := bw_call d0 b3
  clear p0 p1 p2 p3 p4 p5 q0 q1 k0 k1 r0 hok b3
  have HV2 : serves n ms ⟨k, nm, ot, at_, va, ep⟩ = if k = 9 then tailOf n ms else headOf n ms := HV.out
  rw [← HV2]
  clear HV2 HV
  go_wp2_with fail
  go_ret
  exact ⟨rfl, d0⟩

set_option maxHeartbeats 1600000 in
theorem implServes_any (n : Int) (v : Value) (ms : List Int) (k : Int) (nm ot : ByteArray) (at_ va ep : Int) (w : World) (r : Reads w.heap.size w v (ms.map (Value.int .i64))) (hn : nm.size ≤ maxLen) (ho : ot.size ≤ maxLen) (fk : I64 k) (fa : I64 at_) (fv : I64 va) (fe : I64 ep) :
    Calls Try.prog 33 #[.agg #[.int .i64 n, v], .agg #[.int .i64 k, .string nm, .string ot, .int .i64 at_, .int .i64 va, .int .i64 ep]] w fun e w' => e = .returned (.int .i64 (serves n ms ⟨k, nm, ot, at_, va, ep⟩)) ∧ Below w.heap.size w w' := by
  obtain ⟨W0, hW0, k0, k1, d0, z0⟩ := box2 w #[.int .i64 n, v] #[.int .i64 k, .string nm, .string ot, .int .i64 at_, .int .i64 va, .int .i64 ep] 59 32
  have r0 := (r.below d0).mono d0.size
  have HW0 : Hid (W0 = _) := hW0
  have p0 := at_cell k1 0
  have p1 := at_cell k1 1
  have p2 := at_cell k1 2
  have p3 := at_cell k1 3
  have p4 := at_cell k1 4
  have p5 := at_cell k1 5
  clear hW0 r
  go_enter Try.func33, Try.ntmps33
  go_wp2_with fail
  rw [← HW0.out]
  clear HW0
  refine (implOpOk_any k nm ot at_ va ep _ hn ho fk fa fv fe).mono ?_
  rintro e w1 ⟨rfl, b1⟩
  replace k0 := (b1.block _ (by omega)).trans k0
  replace k1 := (b1.block _ (by omega)).trans k1
  replace d0 := bw_call d0 b1
  replace r0 := (r0.below b1).mono b1.size
  have s1 := b1.size
  clear p0 p1 p2 p3 p4 p5 b1
  cases hop : opOk ⟨k, nm, ot, at_, va, ep⟩
  · have HV : Hid _ := serves_noO (n := n) (ms := ms) hop
    clear hop k0 k1 r0
    go_wp2_with fail
    go_ret
    exact ⟨ret_int HV.out.symm, d0⟩
  have p0 := at_cell k1 0
  have p1 := at_cell k1 1
  have p2 := at_cell k1 2
  have p3 := at_cell k1 3
  have p4 := at_cell k1 4
  have p5 := at_cell k1 5
  have HO : Hid _ := hop
  clear hop
  go_wp2_with fail
  refine (implChanges_any k nm ot at_ va ep _ hn ho fk fa fv fe).mono ?_
  rintro e w2 ⟨rfl, b2⟩
  replace k0 := (b2.block _ (by omega)).trans k0
  replace d0 := bw_call d0 b2
  replace r0 := (r0.below b2).mono b2.size
  clear p0 p1 p2 p3 p4 p5 k1 b2
  have HC : changes ⟨k, nm, ot, at_, va, ep⟩ = decide (k ≠ 9) := by rw [changes, HO.out, Bool.true_and]
  have q0 := at_cell k0 0
  have q1 := at_cell k0 1
  rw [HC]
  clear HC k0
  by_cases hk : k = 9
  · rw [decide_eq_false (by omega)]
    have HV : Hid _ := serves_read (n := n) (ms := ms) HO.out hk
    clear hk HO
    go_wp2_with fail
    refine (implTailOf_any n v ms _ r0).mono ?_
    rintro e w3 ⟨rfl, b3⟩
    replace d0 := bw_call d0 b3
    clear q0 q1 r0 b3
    go_wp2_with fail
    go_ret
    exact ⟨ret_int HV.out.symm, d0⟩
  · rw [decide_eq_true hk]
    have HV : Hid _ := serves_change (n := n) (ms := ms) HO.out hk
    clear hk HO
    go_wp2_with fail
    refine (implHeadOf_any n v ms _ r0).mono ?_
    rintro e w3 ⟨rfl, b3⟩
    replace d0 := bw_call d0 b3
    clear q0 q1 r0 b3
    go_wp2_with fail
    go_ret
    exact ⟨ret_int HV.out.symm, d0⟩

end Go.Proofs.Ytghhphhnalfjaaa
