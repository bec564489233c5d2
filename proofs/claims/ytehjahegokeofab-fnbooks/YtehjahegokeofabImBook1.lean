/-
  Chapter 6: the program's BookOk and NewBook, at every argument.
-/
import Derived.Test.YtehjahegokeofabBook2
import Derived.Test.YtehjahegokeofabImMap2
import Derived.Test.YtehjahegokeofabImPre
namespace Go.Proofs.Ytehjahegokeofab
open Go.RowKit
set_option linter.unusedVariables false

theorem sizeOk_any (x : Int) (w : World) :
    Calls Try.prog 71 #[.int .i64 x] w fun e w' => e = .returned (.bool (decide (1 ≤ x) && decide (x ≤ 16))) ∧ w' = w := by
  by_cases h : (1 : Int) ≤ x
  · go_enter Try.func71, Try.ntmps71
    go_wp2
    go_ret
    exact ⟨ret_bool (by simp [h]), rfl⟩
  · go_enter Try.func71, Try.ntmps71
    go_wp2
    go_ret
    exact ⟨ret_bool (by simp; omega), rfl⟩

theorem epochOk_any (x : Int) (w : World) :
    Calls Try.prog 79 #[.int .i64 x] w fun e w' => e = .returned (.bool (decide (0 ≤ x) && decide (x ≤ 1000))) ∧ w' = w := by
  by_cases h : (0 : Int) ≤ x
  · go_enter Try.func79, Try.ntmps79
    go_wp2
    go_ret
    exact ⟨ret_bool (by simp [h]), rfl⟩
  · go_enter Try.func79, Try.ntmps79
    go_wp2
    go_ret
    exact ⟨ret_bool (by simp; omega), rfl⟩

set_option maxHeartbeats 800000 in
theorem implEndsBy_any (v : Value) (rs : List (Int × Int × Int)) (sz : Int) (w : World) (hok : mapOk rs = true) (r : ReadsR 3 runC w.heap.size w v rs) :
    Calls Try.prog 78 #[v, .int .i64 sz] w fun e w' => e = .returned (.bool (endsBy rs sz)) ∧ Below w.heap.size w w' := by
  obtain ⟨o, cap, rfl, hm, hc, -⟩ := r
  rcases Nat.eq_zero_or_pos rs.length with h0 | hpos
  · have HE : Hid (endsBy rs sz = true) := by rw [Hid, List.length_eq_zero_iff.1 h0]; rfl
    rw [h0]
    clear hok hc h0 hm
    go_enter Try.func78, Try.ntmps78
    go_wp2_with fail
    go_ret
    exact ⟨ret_bool HE.out.symm, Below.refl _ _⟩
  · obtain ⟨k, hk⟩ : ∃ k, rs.length = k + 1 := ⟨rs.length - 1, by omega⟩
    have hlt : k < rs.length := by omega
    obtain ⟨g, off, rfl, hg, a0, a1, a2⟩ := three_cells hc k hlt
    have HE : Hid _ := endsBy_at rs sz k hk
    have hin := map_in rs hok k hlt
    generalize rs[k] = x at a0 a1 a2 HE hin
    obtain ⟨f, c, p⟩ := x
    simp only at a0 a1 a2 HE hin
    have hw1 : IntKind.i64.wrap ((k : Int) + 1 - 1) = k := by unfold maxLen at hm; rw [IntKind.wrap_i64]; omega
    have hw2 : (k : Int) + 1 - 1 = k := by omega
    have hw4 : IntKind.i64.wrap (k : Int) = k := by unfold maxLen at hm; rw [IntKind.wrap_i64]; omega
    have hw3 : IntKind.i64.wrap (f + c) = f + c := by rw [IntKind.wrap_i64]; omega
    have hi0 : (0 : Int) ≤ (k : Int) := by omega
    have hi1 : (k : Int) < (k : Int) + 1 := by omega
    have hz : ((k : Int) + 1 == 0) = false := by rw [beq_eq_false_iff_ne]; omega
    rw [hk]
    clear hok hc hpos hin hk
    go_enter Try.func78, Try.ntmps78
    go_wp2_with fail
    go_ret
    exact ⟨ret_bool (by rw [HE.out]), by go_grown⟩

set_option maxHeartbeats 1600000 in
theorem implBookOk_any (nm : ByteArray) (sz : Int) (m : Value) (rs : List (Int × Int × Int)) (fx : Bool) (ep : Int) (w : World) (hn : nm.size ≤ maxLen) (hfit : FitRuns rs) (r : ReadsR 3 runC w.heap.size w m rs) :
    Calls Try.prog 42 #[.agg #[.string nm, .int .i64 sz, m, .bool fx, .int .i64 ep]] w fun e w' => e = .returned (.bool (bookOk nm sz rs ep)) ∧ Below w.heap.size w w' := by
  obtain ⟨o, cap, rfl⟩ := r.form
  obtain ⟨W0, hW0, k0, d0, z0⟩ := box1 w #[.string nm, .int .i64 sz, .slice o rs.length cap, .bool fx, .int .i64 ep] 50
  have r0 := (r.below d0).mono d0.size
  have HW0 : Hid (W0 = _) := hW0
  have p0 := at_cell k0 0
  have p1 := at_cell k0 1
  have p2 := at_cell k0 2
  clear hW0 r
  go_enter Try.func42, Try.ntmps42
  go_wp2_with fail
  rw [← HW0.out]
  clear HW0
  refine (implName_any nm _ hn).mono ?_
  rintro e w' ⟨rfl, rfl⟩
  cases h1 : Nums.nameB nm.data.toList
  · have HV : Hid (bookOk nm sz rs ep = false) := by simp [Hid, bookOk, h1]
    clear h1 k0
    go_wp2_with fail
    go_ret
    exact ⟨ret_bool HV.out.symm, d0⟩
  have H1 : Hid _ := h1
  clear h1
  go_wp2_with fail
  refine (sizeOk_any sz _).mono ?_
  rintro e w' ⟨rfl, rfl⟩
  cases h2 : (decide (1 ≤ sz) && decide (sz ≤ 16))
  · have HV : Hid (bookOk nm sz rs ep = false) := by simp [Hid, bookOk, h2]
    clear h2 k0
    go_wp2_with fail
    go_ret
    exact ⟨ret_bool HV.out.symm, d0⟩
  have H2 : Hid _ := h2
  clear h2
  go_wp2_with fail
  refine (implMapOk_any _ rs _ hfit r0).mono ?_
  rintro e w1 ⟨rfl, b1⟩
  replace k0 := (b1.block _ (by omega)).trans k0
  replace d0 := bw_call d0 b1
  replace r0 := (r0.below b1).mono b1.size
  have z1 := b1.size
  clear p0 p1 p2 b1
  cases h4 : mapOk rs
  · have HV : Hid (bookOk nm sz rs ep = false) := by simp [Hid, bookOk, h4]
    clear h4 k0 r0
    go_wp2_with fail
    go_ret
    exact ⟨ret_bool HV.out.symm, d0⟩
  have p1 := at_cell k0 1
  have p2 := at_cell k0 2
  have H4 : Hid _ := h4
  clear h4
  go_wp2_with fail
  clear p1 p2
  refine (implEndsBy_any _ rs sz _ H4.out r0).mono ?_
  rintro e w2 ⟨rfl, b1⟩
  replace k0 := (b1.block _ (by omega)).trans k0
  replace d0 := bw_call d0 b1
  clear b1 r0
  cases h5 : endsBy rs sz
  · have HV : Hid (bookOk nm sz rs ep = false) := by simp [Hid, bookOk, h5]
    clear h5 k0
    go_wp2_with fail
    go_ret
    exact ⟨ret_bool HV.out.symm, d0⟩
  have HV : Hid (bookOk nm sz rs ep = (decide (0 ≤ ep) && decide (ep ≤ 1000))) := by rw [Hid, bookOk, H1.out, H2.out, H4.out, h5]; simp
  have p4 := at_cell k0 4
  clear h5 H1 H2 H4 k0
  go_wp2_with fail
  refine (epochOk_any ep _).mono ?_
  rintro e w' ⟨rfl, rfl⟩
  go_wp2_with fail
  go_ret
  exact ⟨ret_bool HV.out.symm, d0⟩

end Go.Proofs.Ytehjahegokeofab
