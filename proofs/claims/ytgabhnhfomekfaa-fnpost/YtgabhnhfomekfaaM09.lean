/-
  Contracts and plain laws, one chapter behind the other.
-/
import Derived.Test.YtgabhnhfomekfaaM01
import Derived.Test.YtgabhnhfomekfaaM06
import Derived.Test.YtgabhnhfomekfaaM07
namespace Go.Proofs.Ytgabhnhfomekfaa
open Go.RowKit

set_option linter.unusedVariables false

set_option maxRecDepth 100000

theorem text_nil (s : ByteArray) : (s.toList == (⟨#[]⟩ : ByteArray).toList) = decide (s.size = 0) := by
  rw [text_eq, decide_eq_decide]
  constructor
  · intro h; rw [h]; rfl
  · intro h; apply ext_list; exact List.length_eq_zero_iff.1 (by simpa using h)

theorem text_none2 (s : ByteArray) : s.toList = [] ↔ s.size = 0 := by
  have h := text_nil s
  have e : (⟨#[]⟩ : ByteArray).toList = [] := by rw [ByteArray.toList_eq]
  rw [e, Bool.eq_iff_iff, beq_iff_eq, decide_eq_true_eq] at h
  exact h

set_option maxHeartbeats 6400000 in
theorem specOpOk_any (k : Int) (nm ot : ByteArray) (at_ va ep : Int) (w : World) (hn : nm.size ≤ maxLen) (ho : ot.size ≤ maxLen) :
    Calls Try.prog 54 #[.agg #[.int .i64 k, .string nm, .string ot, .int .i64 at_, .int .i64 va, .int .i64 ep]] w fun e w' => e = .returned (.bool (opOk ⟨k, nm, ot, at_, va, ep⟩)) ∧ Below w.heap.size w w' := by
  obtain ⟨W0, hW0, k0, d0, z0⟩ := box1 w #[.int .i64 k, .string nm, .string ot, .int .i64 at_, .int .i64 va, .int .i64 ep] 32
  have HW0 : Hid (W0 = _) := hW0
  have p0 := at_cell k0 0
  have p1 := at_cell k0 1
  have p2 := at_cell k0 2
  have p3 := at_cell k0 3
  have p4 := at_cell k0 4
  have p5 := at_cell k0 5
  clear hW0 k0
  go_enter Try.func54, Try.ntmps54
  go_wp2_with fail
  rw [← HW0.out]
  clear HW0
  refine (specName_any nm _ hn).mono ?_
  rintro e w' ⟨rfl, rfl⟩
  cases h1 : Nums.nameB nm.data.toList
  · have HV : Hid (opOk ⟨k, nm, ot, at_, va, ep⟩ = false) := by simp [Hid, opOk, h1]
    clear h1
    go_wp2_with fail
    go_ret
    exact ⟨ret_bool HV.out.symm, d0⟩
  have H1 : Hid _ := h1
  clear h1
  go_wp2_with fail
  refine (l1In_any k 1 9 _).mono ?_
  rintro e w' ⟨rfl, rfl⟩
  cases h2 : (decide (1 ≤ k) && decide (k ≤ 9))
  · have HV : Hid (opOk ⟨k, nm, ot, at_, va, ep⟩ = false) := by simp [Hid, opOk, inB, h2]
    clear h2
    go_wp2_with fail
    go_ret
    exact ⟨ret_bool HV.out.symm, d0⟩
  have h2' : k = 1 ∨ k = 2 ∨ k = 3 ∨ k = 4 ∨ k = 5 ∨ k = 6 ∨ k = 7 ∨ k = 8 ∨ k = 9 := by simp at h2; omega
  clear h2
  have e0 := text_none2 ot
  rcases h2' with rfl | rfl | rfl | rfl | rfl | rfl | rfl | rfl | rfl
  · cases h3 : decide (ot.size = 0)
    · have h3' : ¬ ot.size = 0 := of_decide_eq_false h3
      have HV : Hid (opOk ⟨1, nm, ot, at_, va, ep⟩ = false) := by simp [Hid, opOk, inB, kOther, kAt, kEpoch, kSize, valOk, h3']
      have e1 : ¬ ot.toList = [] := fun h => h3' (e0.1 h)
      clear e0
      go_wp2_with fail
      go_ret
      exact ⟨ret_bool HV.out.symm, d0⟩
    · have h3' : ot.size = 0 := of_decide_eq_true h3
      have e1 : ot.toList = [] := e0.2 h3'
      clear e0
      by_cases h5 : ¬ at_ = 0
      · have HV : Hid (opOk ⟨1, nm, ot, at_, va, ep⟩ = false) := by simp [Hid, opOk, inB, kOther, kAt, kEpoch, kSize, valOk, h5]
        have hq : (at_ != 0) = true := by rw [bne_iff_ne]; exact h5
        go_wp2_with fail
        go_ret
        exact ⟨ret_bool HV.out.symm, d0⟩
      obtain rfl : at_ = 0 := by omega
      clear h5
      go_wp2_with fail
      refine (l1In_any 0 0 255 _).mono ?_
      rintro e w' ⟨rfl, rfl⟩
      by_cases h7 : ¬ ep = 0
      · have HV : Hid (opOk ⟨1, nm, ot, 0, va, ep⟩ = false) := by simp [Hid, opOk, inB, kOther, kAt, kEpoch, kSize, valOk, h7]
        have hq : (ep != 0) = true := by rw [bne_iff_ne]; exact h7
        go_wp2_with fail
        go_ret
        exact ⟨ret_bool HV.out.symm, d0⟩
      obtain rfl : ep = 0 := by omega
      clear h7
      go_wp2_with fail
      refine (l1In_any 0 0 1000 _).mono ?_
      rintro e w' ⟨rfl, rfl⟩
      have HV : Hid (opOk ⟨1, nm, ot, 0, va, 0⟩ = (decide ((1 : Int) ≤ va) && decide (va ≤ 16))) := by simp [Hid, opOk, inB, kOther, kAt, kEpoch, kSize, valOk, H1.out, h3']
      go_wp2_with fail
      refine (l1In_any va 1 16 _).mono ?_
      rintro e w' ⟨rfl, rfl⟩
      go_wp2_with fail
      go_ret
      exact ⟨ret_bool HV.out.symm, d0⟩
  · cases h3 : decide (ot.size = 0)
    · have h3' : ¬ ot.size = 0 := of_decide_eq_false h3
      have HV : Hid (opOk ⟨2, nm, ot, at_, va, ep⟩ = false) := by simp [Hid, opOk, inB, kOther, kAt, kEpoch, kSize, valOk, h3']
      have e1 : ¬ ot.toList = [] := fun h => h3' (e0.1 h)
      clear e0
      go_wp2_with fail
      go_ret
      exact ⟨ret_bool HV.out.symm, d0⟩
    · have h3' : ot.size = 0 := of_decide_eq_true h3
      have e1 : ot.toList = [] := e0.2 h3'
      clear e0
      go_wp2_with fail
      refine (l1In_any at_ 0 255 _).mono ?_
      rintro e w' ⟨rfl, rfl⟩
      cases h6 : (decide ((0 : Int) ≤ at_) && decide (at_ ≤ 255))
      · have HV : Hid (opOk ⟨2, nm, ot, at_, va, ep⟩ = false) := by simp [Hid, opOk, inB, kOther, kAt, kEpoch, kSize, valOk, h6]
        clear h6
        go_wp2_with fail
        go_ret
        exact ⟨ret_bool HV.out.symm, d0⟩
      have H6 : Hid _ := h6
      clear h6
      go_wp2_with fail
      refine (l1In_any ep 0 1000 _).mono ?_
      rintro e w' ⟨rfl, rfl⟩
      cases h8 : (decide ((0 : Int) ≤ ep) && decide (ep ≤ 1000))
      · have HV : Hid (opOk ⟨2, nm, ot, at_, va, ep⟩ = false) := by simp [Hid, opOk, inB, kOther, kAt, kEpoch, kSize, valOk, h8]
        clear h8
        go_wp2_with fail
        go_ret
        exact ⟨ret_bool HV.out.symm, d0⟩
      have H8 : Hid _ := h8
      clear h8
      have HV : Hid (opOk ⟨2, nm, ot, at_, va, ep⟩ = (decide ((0 : Int) ≤ va) && decide (va ≤ 999))) := by simp [Hid, opOk, inB, kOther, kAt, kEpoch, kSize, valOk, H1.out, h3', H6.out, H8.out]
      go_wp2_with fail
      refine (l1In_any va 0 999 _).mono ?_
      rintro e w' ⟨rfl, rfl⟩
      go_wp2_with fail
      go_ret
      exact ⟨ret_bool HV.out.symm, d0⟩
  · cases h3 : decide (ot.size = 0)
    · have h3' : ¬ ot.size = 0 := of_decide_eq_false h3
      have HV : Hid (opOk ⟨3, nm, ot, at_, va, ep⟩ = false) := by simp [Hid, opOk, inB, kOther, kAt, kEpoch, kSize, valOk, h3']
      have e1 : ¬ ot.toList = [] := fun h => h3' (e0.1 h)
      clear e0
      go_wp2_with fail
      go_ret
      exact ⟨ret_bool HV.out.symm, d0⟩
    · have h3' : ot.size = 0 := of_decide_eq_true h3
      have e1 : ot.toList = [] := e0.2 h3'
      clear e0
      go_wp2_with fail
      refine (l1In_any at_ 0 255 _).mono ?_
      rintro e w' ⟨rfl, rfl⟩
      cases h6 : (decide ((0 : Int) ≤ at_) && decide (at_ ≤ 255))
      · have HV : Hid (opOk ⟨3, nm, ot, at_, va, ep⟩ = false) := by simp [Hid, opOk, inB, kOther, kAt, kEpoch, kSize, valOk, h6]
        clear h6
        go_wp2_with fail
        go_ret
        exact ⟨ret_bool HV.out.symm, d0⟩
      have H6 : Hid _ := h6
      clear h6
      go_wp2_with fail
      refine (l1In_any ep 0 1000 _).mono ?_
      rintro e w' ⟨rfl, rfl⟩
      cases h8 : (decide ((0 : Int) ≤ ep) && decide (ep ≤ 1000))
      · have HV : Hid (opOk ⟨3, nm, ot, at_, va, ep⟩ = false) := by simp [Hid, opOk, inB, kOther, kAt, kEpoch, kSize, valOk, h8]
        clear h8
        go_wp2_with fail
        go_ret
        exact ⟨ret_bool HV.out.symm, d0⟩
      have H8 : Hid _ := h8
      clear h8
      have HV : Hid (opOk ⟨3, nm, ot, at_, va, ep⟩ = decide (va = 0)) := by simp [Hid, opOk, inB, kOther, kAt, kEpoch, kSize, valOk, H1.out, h3', H6.out, H8.out]
      go_wp2_with fail
      go_ret
      exact ⟨ret_bool HV.out.symm, d0⟩
  · cases h3 : decide (ot.size = 0)
    · skip
      have h3' : ¬ ot.size = 0 := of_decide_eq_false h3
      have h3e : ¬ ot = ByteArray.empty := fun h => h3' (by rw [h]; rfl)
      have e1 : ¬ ot.toList = [] := fun h => h3' (e0.1 h)
      have e2 : ot.toList.isEmpty = false := by rw [Bool.eq_false_iff]; exact fun h => e1 (List.isEmpty_iff.1 h)
      clear e0
      go_wp2_with fail
      refine (specName_any ot _ ho).mono ?_
      rintro e w' ⟨rfl, rfl⟩
      cases h4 : Nums.nameB ot.data.toList
      · have HV : Hid (opOk ⟨4, nm, ot, at_, va, ep⟩ = false) := by simp [Hid, opOk, inB, kOther, kAt, kEpoch, kSize, valOk, h4]
        clear h4
        go_wp2_with fail
        go_ret
        exact ⟨ret_bool HV.out.symm, d0⟩
      have H4 : Hid _ := h4
      clear h4
      by_cases h5 : ¬ at_ = 0
      · have HV : Hid (opOk ⟨4, nm, ot, at_, va, ep⟩ = false) := by simp [Hid, opOk, inB, kOther, kAt, kEpoch, kSize, valOk, h5]
        have hq : (at_ != 0) = true := by rw [bne_iff_ne]; exact h5
        go_wp2_with fail
        go_ret
        exact ⟨ret_bool HV.out.symm, d0⟩
      obtain rfl : at_ = 0 := by omega
      clear h5
      go_wp2_with fail
      refine (l1In_any 0 0 255 _).mono ?_
      rintro e w' ⟨rfl, rfl⟩
      by_cases h7 : ¬ ep = 0
      · have HV : Hid (opOk ⟨4, nm, ot, 0, va, ep⟩ = false) := by simp [Hid, opOk, inB, kOther, kAt, kEpoch, kSize, valOk, h7]
        have hq : (ep != 0) = true := by rw [bne_iff_ne]; exact h7
        go_wp2_with fail
        go_ret
        exact ⟨ret_bool HV.out.symm, d0⟩
      obtain rfl : ep = 0 := by omega
      clear h7
      go_wp2_with fail
      refine (l1In_any 0 0 1000 _).mono ?_
      rintro e w' ⟨rfl, rfl⟩
      have HV : Hid (opOk ⟨4, nm, ot, 0, va, 0⟩ = decide (va = 0)) := by simp [Hid, opOk, inB, kOther, kAt, kEpoch, kSize, valOk, H1.out, H4.out, h3e]
      go_wp2_with fail
      go_ret
      exact ⟨ret_bool HV.out.symm, d0⟩
    · have h3' : ot.size = 0 := of_decide_eq_true h3
      have HV : Hid (opOk ⟨4, nm, ot, at_, va, ep⟩ = false) := by simp [Hid, opOk, inB, kOther, kAt, kEpoch, kSize, valOk, h3']
      have e1 : ot.toList = [] := e0.2 h3'
      have e2 : ot.toList.isEmpty = true := List.isEmpty_iff.2 e1
      clear e0
      go_wp2_with fail
      go_ret
      exact ⟨ret_bool HV.out.symm, d0⟩
  · cases h3 : decide (ot.size = 0)
    · skip
      have h3' : ¬ ot.size = 0 := of_decide_eq_false h3
      have h3e : ¬ ot = ByteArray.empty := fun h => h3' (by rw [h]; rfl)
      have e1 : ¬ ot.toList = [] := fun h => h3' (e0.1 h)
      have e2 : ot.toList.isEmpty = false := by rw [Bool.eq_false_iff]; exact fun h => e1 (List.isEmpty_iff.1 h)
      clear e0
      go_wp2_with fail
      refine (specName_any ot _ ho).mono ?_
      rintro e w' ⟨rfl, rfl⟩
      cases h4 : Nums.nameB ot.data.toList
      · have HV : Hid (opOk ⟨5, nm, ot, at_, va, ep⟩ = false) := by simp [Hid, opOk, inB, kOther, kAt, kEpoch, kSize, valOk, h4]
        clear h4
        go_wp2_with fail
        go_ret
        exact ⟨ret_bool HV.out.symm, d0⟩
      have H4 : Hid _ := h4
      clear h4
      by_cases h5 : ¬ at_ = 0
      · have HV : Hid (opOk ⟨5, nm, ot, at_, va, ep⟩ = false) := by simp [Hid, opOk, inB, kOther, kAt, kEpoch, kSize, valOk, h5]
        have hq : (at_ != 0) = true := by rw [bne_iff_ne]; exact h5
        go_wp2_with fail
        go_ret
        exact ⟨ret_bool HV.out.symm, d0⟩
      obtain rfl : at_ = 0 := by omega
      clear h5
      go_wp2_with fail
      refine (l1In_any 0 0 255 _).mono ?_
      rintro e w' ⟨rfl, rfl⟩
      by_cases h7 : ¬ ep = 0
      · have HV : Hid (opOk ⟨5, nm, ot, 0, va, ep⟩ = false) := by simp [Hid, opOk, inB, kOther, kAt, kEpoch, kSize, valOk, h7]
        have hq : (ep != 0) = true := by rw [bne_iff_ne]; exact h7
        go_wp2_with fail
        go_ret
        exact ⟨ret_bool HV.out.symm, d0⟩
      obtain rfl : ep = 0 := by omega
      clear h7
      go_wp2_with fail
      refine (l1In_any 0 0 1000 _).mono ?_
      rintro e w' ⟨rfl, rfl⟩
      have HV : Hid (opOk ⟨5, nm, ot, 0, va, 0⟩ = decide (va = 0)) := by simp [Hid, opOk, inB, kOther, kAt, kEpoch, kSize, valOk, H1.out, H4.out, h3e]
      go_wp2_with fail
      go_ret
      exact ⟨ret_bool HV.out.symm, d0⟩
    · have h3' : ot.size = 0 := of_decide_eq_true h3
      have HV : Hid (opOk ⟨5, nm, ot, at_, va, ep⟩ = false) := by simp [Hid, opOk, inB, kOther, kAt, kEpoch, kSize, valOk, h3']
      have e1 : ot.toList = [] := e0.2 h3'
      have e2 : ot.toList.isEmpty = true := List.isEmpty_iff.2 e1
      clear e0
      go_wp2_with fail
      go_ret
      exact ⟨ret_bool HV.out.symm, d0⟩
  · cases h3 : decide (ot.size = 0)
    · have h3' : ¬ ot.size = 0 := of_decide_eq_false h3
      have HV : Hid (opOk ⟨6, nm, ot, at_, va, ep⟩ = false) := by simp [Hid, opOk, inB, kOther, kAt, kEpoch, kSize, valOk, h3']
      have e1 : ¬ ot.toList = [] := fun h => h3' (e0.1 h)
      clear e0
      go_wp2_with fail
      go_ret
      exact ⟨ret_bool HV.out.symm, d0⟩
    · have h3' : ot.size = 0 := of_decide_eq_true h3
      have e1 : ot.toList = [] := e0.2 h3'
      clear e0
      by_cases h5 : ¬ at_ = 0
      · have HV : Hid (opOk ⟨6, nm, ot, at_, va, ep⟩ = false) := by simp [Hid, opOk, inB, kOther, kAt, kEpoch, kSize, valOk, h5]
        have hq : (at_ != 0) = true := by rw [bne_iff_ne]; exact h5
        go_wp2_with fail
        go_ret
        exact ⟨ret_bool HV.out.symm, d0⟩
      obtain rfl : at_ = 0 := by omega
      clear h5
      go_wp2_with fail
      refine (l1In_any 0 0 255 _).mono ?_
      rintro e w' ⟨rfl, rfl⟩
      go_wp2_with fail
      refine (l1In_any ep 0 1000 _).mono ?_
      rintro e w' ⟨rfl, rfl⟩
      cases h8 : (decide ((0 : Int) ≤ ep) && decide (ep ≤ 1000))
      · have HV : Hid (opOk ⟨6, nm, ot, 0, va, ep⟩ = false) := by simp [Hid, opOk, inB, kOther, kAt, kEpoch, kSize, valOk, h8]
        clear h8
        go_wp2_with fail
        go_ret
        exact ⟨ret_bool HV.out.symm, d0⟩
      have H8 : Hid _ := h8
      clear h8
      have HV : Hid (opOk ⟨6, nm, ot, 0, va, ep⟩ = decide (va = 0)) := by simp [Hid, opOk, inB, kOther, kAt, kEpoch, kSize, valOk, H1.out, h3', H8.out]
      go_wp2_with fail
      go_ret
      exact ⟨ret_bool HV.out.symm, d0⟩
  · cases h3 : decide (ot.size = 0)
    · have h3' : ¬ ot.size = 0 := of_decide_eq_false h3
      have HV : Hid (opOk ⟨7, nm, ot, at_, va, ep⟩ = false) := by simp [Hid, opOk, inB, kOther, kAt, kEpoch, kSize, valOk, h3']
      have e1 : ¬ ot.toList = [] := fun h => h3' (e0.1 h)
      clear e0
      go_wp2_with fail
      go_ret
      exact ⟨ret_bool HV.out.symm, d0⟩
    · have h3' : ot.size = 0 := of_decide_eq_true h3
      have e1 : ot.toList = [] := e0.2 h3'
      clear e0
      by_cases h5 : ¬ at_ = 0
      · have HV : Hid (opOk ⟨7, nm, ot, at_, va, ep⟩ = false) := by simp [Hid, opOk, inB, kOther, kAt, kEpoch, kSize, valOk, h5]
        have hq : (at_ != 0) = true := by rw [bne_iff_ne]; exact h5
        go_wp2_with fail
        go_ret
        exact ⟨ret_bool HV.out.symm, d0⟩
      obtain rfl : at_ = 0 := by omega
      clear h5
      go_wp2_with fail
      refine (l1In_any 0 0 255 _).mono ?_
      rintro e w' ⟨rfl, rfl⟩
      go_wp2_with fail
      refine (l1In_any ep 0 1000 _).mono ?_
      rintro e w' ⟨rfl, rfl⟩
      cases h8 : (decide ((0 : Int) ≤ ep) && decide (ep ≤ 1000))
      · have HV : Hid (opOk ⟨7, nm, ot, 0, va, ep⟩ = false) := by simp [Hid, opOk, inB, kOther, kAt, kEpoch, kSize, valOk, h8]
        clear h8
        go_wp2_with fail
        go_ret
        exact ⟨ret_bool HV.out.symm, d0⟩
      have H8 : Hid _ := h8
      clear h8
      have HV : Hid (opOk ⟨7, nm, ot, 0, va, ep⟩ = (decide ((1 : Int) ≤ va) && decide (va ≤ 16))) := by simp [Hid, opOk, inB, kOther, kAt, kEpoch, kSize, valOk, H1.out, h3', H8.out]
      go_wp2_with fail
      refine (l1In_any va 1 16 _).mono ?_
      rintro e w' ⟨rfl, rfl⟩
      go_wp2_with fail
      go_ret
      exact ⟨ret_bool HV.out.symm, d0⟩
  · cases h3 : decide (ot.size = 0)
    · have h3' : ¬ ot.size = 0 := of_decide_eq_false h3
      have HV : Hid (opOk ⟨8, nm, ot, at_, va, ep⟩ = false) := by simp [Hid, opOk, inB, kOther, kAt, kEpoch, kSize, valOk, h3']
      have e1 : ¬ ot.toList = [] := fun h => h3' (e0.1 h)
      clear e0
      go_wp2_with fail
      go_ret
      exact ⟨ret_bool HV.out.symm, d0⟩
    · have h3' : ot.size = 0 := of_decide_eq_true h3
      have e1 : ot.toList = [] := e0.2 h3'
      clear e0
      by_cases h5 : ¬ at_ = 0
      · have HV : Hid (opOk ⟨8, nm, ot, at_, va, ep⟩ = false) := by simp [Hid, opOk, inB, kOther, kAt, kEpoch, kSize, valOk, h5]
        have hq : (at_ != 0) = true := by rw [bne_iff_ne]; exact h5
        go_wp2_with fail
        go_ret
        exact ⟨ret_bool HV.out.symm, d0⟩
      obtain rfl : at_ = 0 := by omega
      clear h5
      go_wp2_with fail
      refine (l1In_any 0 0 255 _).mono ?_
      rintro e w' ⟨rfl, rfl⟩
      by_cases h7 : ¬ ep = 0
      · have HV : Hid (opOk ⟨8, nm, ot, 0, va, ep⟩ = false) := by simp [Hid, opOk, inB, kOther, kAt, kEpoch, kSize, valOk, h7]
        have hq : (ep != 0) = true := by rw [bne_iff_ne]; exact h7
        go_wp2_with fail
        go_ret
        exact ⟨ret_bool HV.out.symm, d0⟩
      obtain rfl : ep = 0 := by omega
      clear h7
      go_wp2_with fail
      refine (l1In_any 0 0 1000 _).mono ?_
      rintro e w' ⟨rfl, rfl⟩
      have HV : Hid (opOk ⟨8, nm, ot, 0, va, 0⟩ = decide (va = 0)) := by simp [Hid, opOk, inB, kOther, kAt, kEpoch, kSize, valOk, H1.out, h3']
      go_wp2_with fail
      go_ret
      exact ⟨ret_bool HV.out.symm, d0⟩
  · cases h3 : decide (ot.size = 0)
    · have h3' : ¬ ot.size = 0 := of_decide_eq_false h3
      have HV : Hid (opOk ⟨9, nm, ot, at_, va, ep⟩ = false) := by simp [Hid, opOk, inB, kOther, kAt, kEpoch, kSize, valOk, h3']
      have e1 : ¬ ot.toList = [] := fun h => h3' (e0.1 h)
      clear e0
      go_wp2_with fail
      go_ret
      exact ⟨ret_bool HV.out.symm, d0⟩
    · have h3' : ot.size = 0 := of_decide_eq_true h3
      have e1 : ot.toList = [] := e0.2 h3'
      clear e0
      go_wp2_with fail
      refine (l1In_any at_ 0 255 _).mono ?_
      rintro e w' ⟨rfl, rfl⟩
      cases h6 : (decide ((0 : Int) ≤ at_) && decide (at_ ≤ 255))
      · have HV : Hid (opOk ⟨9, nm, ot, at_, va, ep⟩ = false) := by simp [Hid, opOk, inB, kOther, kAt, kEpoch, kSize, valOk, h6]
        clear h6
        go_wp2_with fail
        go_ret
        exact ⟨ret_bool HV.out.symm, d0⟩
      have H6 : Hid _ := h6
      clear h6
      by_cases h7 : ¬ ep = 0
      · have HV : Hid (opOk ⟨9, nm, ot, at_, va, ep⟩ = false) := by simp [Hid, opOk, inB, kOther, kAt, kEpoch, kSize, valOk, h7]
        have hq : (ep != 0) = true := by rw [bne_iff_ne]; exact h7
        go_wp2_with fail
        go_ret
        exact ⟨ret_bool HV.out.symm, d0⟩
      obtain rfl : ep = 0 := by omega
      clear h7
      go_wp2_with fail
      refine (l1In_any 0 0 1000 _).mono ?_
      rintro e w' ⟨rfl, rfl⟩
      have HV : Hid (opOk ⟨9, nm, ot, at_, va, 0⟩ = decide (va = 0)) := by simp [Hid, opOk, inB, kOther, kAt, kEpoch, kSize, valOk, H1.out, h3', H6.out]
      go_wp2_with fail
      go_ret
      exact ⟨ret_bool HV.out.symm, d0⟩

def changes (o : Oq) : Bool := opOk o && decide (o.k ≠ 9)

theorem specChanges_any (k : Int) (nm ot : ByteArray) (at_ va ep : Int) (w : World) (hn : nm.size ≤ maxLen) (ho : ot.size ≤ maxLen) :
    Calls Try.prog 55 #[.agg #[.int .i64 k, .string nm, .string ot, .int .i64 at_, .int .i64 va, .int .i64 ep]] w fun e w' => e = .returned (.bool (changes ⟨k, nm, ot, at_, va, ep⟩)) ∧ Below w.heap.size w w' := by
  obtain ⟨W0, hW0, k0, d0, z0⟩ := box1 w #[.int .i64 k, .string nm, .string ot, .int .i64 at_, .int .i64 va, .int .i64 ep] 32
  have HW0 : Hid (W0 = _) := hW0
  clear hW0
  go_enter Try.func55, Try.ntmps55
  go_wp2_with fail
  rw [← HW0.out]
  clear HW0
  refine (specOpOk_any k nm ot at_ va ep _ hn ho).mono ?_
  rintro e w1 ⟨rfl, b1⟩
  replace k0 := (b1.block _ (by omega)).trans k0
  replace d0 := bw_call d0 b1
  have p0 := at_cell k0 0
  have HC : Hid (changes ⟨k, nm, ot, at_, va, ep⟩ = (opOk ⟨k, nm, ot, at_, va, ep⟩ && decide (k ≠ 9))) := rfl
  have hd : (k != 9) = decide (k ≠ 9) := by rw [Bool.eq_iff_iff]; simp
  generalize opOk ⟨k, nm, ot, at_, va, ep⟩ = q at HC ⊢
  clear k0 b1
  cases q
  · go_wp2_with fail
    go_ret
    exact ⟨ret_bool (by rw [HC.out]; rfl), d0⟩
  · go_wp2_with fail
    go_ret
    exact ⟨ret_bool (by rw [HC.out]; simp), d0⟩
end Go.Proofs.Ytgabhnhfomekfaa

