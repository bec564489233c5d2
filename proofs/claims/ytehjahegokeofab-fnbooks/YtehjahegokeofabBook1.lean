/-
  Chapter 6: the specification's BookOk, at every argument.
-/
import Derived.Test.YtehjahegokeofabMap1
import Derived.Test.YtehjahegokeofabMap2
import Derived.Test.YtehjahegokeofabRows2
namespace Go.Proofs.Ytehjahegokeofab
open Go.RowKit
set_option linter.unusedVariables false

/-- The last run ends at the size or ahead of it. -/
def endsBy (rs : List (Int × Int × Int)) (sz : Int) : Bool := match rs.getLast? with
  | none => true
  | some r => decide (r.1 + r.2.1 ≤ sz)
def bookOk (nm : ByteArray) (sz : Int) (rs : List (Int × Int × Int)) (ep : Int) : Bool :=
  Nums.nameB nm.data.toList && (decide (1 ≤ sz) && decide (sz ≤ 16)) && (decide (0 ≤ ep) && decide (ep ≤ 1000)) && mapOk rs && endsBy rs sz
theorem endsBy_nil (sz : Int) : endsBy [] sz = true := rfl
theorem endsBy_at (rs : List (Int × Int × Int)) (sz : Int) (k : Nat) (h : rs.length = k + 1) : endsBy rs sz = decide ((rs[k]'(by omega)).1 + (rs[k]'(by omega)).2.1 ≤ sz) := by
  have : rs.getLast? = some (rs[k]'(by omega)) := by rw [List.getLast?_eq_getElem?, show rs.length - 1 = k by omega, List.getElem?_eq_getElem]
  rw [endsBy, this]
theorem map_in (rs : List (Int × Int × Int)) (h : mapOk rs = true) (k : Nat) (hk : k < rs.length) : 0 ≤ rs[k].1 ∧ 1 ≤ rs[k].2.1 ∧ rs[k].1 + rs[k].2.1 ≤ 16 := by
  have := okFrom_mem rs 0 none (mapOk_from h) (Int.le_refl _) rs[k] (List.getElem_mem hk)
  omega

set_option maxHeartbeats 1600000 in
theorem specBookOk_any (nm : ByteArray) (sz : Int) (m : Value) (rs : List (Int × Int × Int)) (fx : Bool) (ep : Int) (w : World) (hn : nm.size ≤ maxLen) (r : ReadsR 3 runC w.heap.size w m rs) :
    Calls Try.prog 43 #[.agg #[.string nm, .int .i64 sz, m, .bool fx, .int .i64 ep]] w fun e w' => e = .returned (.bool (bookOk nm sz rs ep)) ∧ Below w.heap.size w w' := by
  obtain ⟨o, cap, rfl⟩ := r.form
  obtain ⟨W0, hW0, k0, d0, z0⟩ := box1 w #[.string nm, .int .i64 sz, .slice o rs.length cap, .bool fx, .int .i64 ep] 50
  have r0 := (r.below d0).mono d0.size
  have HW0 : Hid (W0 = _) := hW0
  have p0 := at_cell k0 0
  have p1 := at_cell k0 1
  have p2 := at_cell k0 2
  have p4 := at_cell k0 4
  clear hW0 r
  go_enter Try.func43, Try.ntmps43
  go_wp2_with fail
  rw [← HW0.out]
  clear HW0
  refine (specName_any nm _ hn).mono ?_
  rintro e w' ⟨rfl, rfl⟩
  cases h1 : Nums.nameB nm.data.toList
  · have HV : Hid (bookOk nm sz rs ep = false) := by simp [Hid, bookOk, h1]
    clear h1 k0
    go_wp2_with fail
    go_ret
    exact ⟨ret_bool HV.out.symm, d0⟩
  have H1 : Hid _ := h1
  clear h1
  go_wp2_with fail
  refine (l1In_any sz 1 16 _).mono ?_
  rintro e w' ⟨rfl, rfl⟩
  cases h2 : (decide (1 ≤ sz) && decide (sz ≤ 16))
  · have HV : Hid (bookOk nm sz rs ep = false) := by simp [Hid, bookOk, h2]
    clear h2 k0
    go_wp2_with fail
    go_ret
    exact ⟨ret_bool HV.out.symm, d0⟩
  have H2 : Hid _ := h2
  clear h2
  go_wp2_with fail
  refine (l1In_any ep 0 1000 _).mono ?_
  rintro e w' ⟨rfl, rfl⟩
  cases h3 : (decide (0 ≤ ep) && decide (ep ≤ 1000))
  · have HV : Hid (bookOk nm sz rs ep = false) := by simp [Hid, bookOk, h3]
    clear h3 k0
    go_wp2_with fail
    go_ret
    exact ⟨ret_bool HV.out.symm, d0⟩
  have H3 : Hid _ := h3
  clear h3
  go_wp2_with fail
  refine (specMapOk_any _ rs _ r0).mono ?_
  rintro e w1 ⟨rfl, b1⟩
  replace k0 := (b1.block _ (by omega)).trans k0
  replace d0 := bw_call d0 b1
  replace r0 := (r0.below b1).mono b1.size
  clear p0 p1 p2 p4
  cases h4 : mapOk rs
  · have HV : Hid (bookOk nm sz rs ep = false) := by simp [Hid, bookOk, h4]
    clear h4 k0 r0
    go_wp2_with fail
    go_ret
    exact ⟨ret_bool HV.out.symm, d0⟩
  have p1 := at_cell k0 1
  have p2 := at_cell k0 2
  have HV : Hid (bookOk nm sz rs ep = endsBy rs sz) := by rw [Hid, bookOk, H1.out, H2.out, H3.out, h4]; rfl
  obtain ⟨o', cap', e', hm, hc, -⟩ := r0
  cases e'
  rcases Nat.eq_zero_or_pos rs.length with h0 | hpos
  · have HE : Hid (endsBy rs sz = true) := by rw [Hid, List.length_eq_zero_iff.1 h0]; rfl
    rw [h0] at p2 ⊢
    clear h4 k0 hc h0
    go_wp2_with fail
    go_quiet (fail)
    go_wp2_with fail
    go_ret
    exact ⟨ret_bool (by rw [HV.out, HE.out]), ⟨d0.os, d0.tape, d0.output, d0.size, d0.block⟩⟩
  · obtain ⟨k, hk⟩ : ∃ k, rs.length = k + 1 := ⟨rs.length - 1, by omega⟩
    have hlt : k < rs.length := by omega
    obtain ⟨g, off, rfl, hg, a0, a1, -⟩ := three_cells hc k hlt
    have HE : Hid _ := endsBy_at rs sz k hk
    have hin := map_in rs h4 k hlt
    generalize rs[k] = x at a0 a1 HE hin
    obtain ⟨f, c, p⟩ := x
    simp only at a0 a1 HE hin
    have hw1 : IntKind.i64.wrap ((k : Int) + 1 - 1) = k := by unfold maxLen at hm; rw [IntKind.wrap_i64]; omega
    have hw2 : (k : Int) + 1 - 1 = k := by omega
    have hw4 : IntKind.i64.wrap (k : Int) = k := by unfold maxLen at hm; rw [IntKind.wrap_i64]; omega
    have hw3 : IntKind.i64.wrap (f + c) = f + c := by rw [IntKind.wrap_i64]; omega
    have hi0 : (0 : Int) ≤ (k : Int) := by omega
    have hi1 : (k : Int) < (k : Int) + 1 := by omega
    have hz : ((k : Int) + 1 == 0) = false := by rw [beq_eq_false_iff_ne]; omega
    rw [hk] at p2
    clear h4 k0 hc hpos hin
    rw [hk]
    clear hk
    go_wp2_with fail
    go_quiet (fail)
    go_wp2_with fail
    go_ret
    exact ⟨ret_bool (by rw [HV.out, HE.out]), ⟨d0.os, d0.tape, d0.output, d0.size, d0.block⟩⟩

end Go.Proofs.Ytehjahegokeofab
