/-
  Contracts and plain laws, one chapter behind the other.
-/
import Derived.Deep.DeepCutAuto
import Derived.Deep.RegionHeld3
import Derived.Test.YtcefcglonooelaaGreatDoorM01
import Derived.Test.YtcefcglonooelaaGreatDoorM02
import Derived.Test.YtcefcglonooelaaGreatDoorM03
import Derived.Test.YtcefcglonooelaaGreatDoorM08
import Derived.Test.YtcefcglonooelaaGreatDoorM12
import Derived.Test.YtcefcglonooelaaGreatDoorM13
import Derived.Test.YtcefcglonooelaaGreatDoorM14
namespace Go.Proofs.YtcefcglonooelaaGreatDoor
open Go.RowKit

set_option linter.unusedVariables false

set_option maxRecDepth 100000

theorem text_nil (s : ByteArray) : (s.toList == (⟨#[]⟩ : ByteArray).toList) = decide (s.size = 0) := by
  rw [text_eq, decide_eq_decide]
  constructor
  · intro h; rw [h]; rfl
  · intro h; apply ext_list; exact List.length_eq_zero_iff.1 (by simpa using h)

theorem text_none2 (s : ByteArray) : s.toList = [] ↔ s.size = 0 := by
  have h := text_nil s
  have e : (⟨#[]⟩ : ByteArray).toList = [] := by rw [ByteArray.toList_eq]
  rw [e, Bool.eq_iff_iff, beq_iff_eq, decide_eq_true_eq] at h
  exact h

set_option maxHeartbeats 6400000 in
theorem specOpOk_any (k : Int) (nm ot : ByteArray) (at_ va ep : Int) (w : World) (hn : nm.size ≤ maxLen) (ho : ot.size ≤ maxLen) :
    Calls Tryz.prog 71 #[.agg #[.int .i64 k, .string nm, .string ot, .int .i64 at_, .int .i64 va, .int .i64 ep]] w fun e w' => e = .returned (.bool (opOk ⟨k, nm, ot, at_, va, ep⟩)) ∧ Below w.heap.size w w' := by
  obtain ⟨W0, hW0, k0, d0, z0⟩ := box1 w #[.int .i64 k, .string nm, .string ot, .int .i64 at_, .int .i64 va, .int .i64 ep] 26
  have HW0 : Hid (W0 = _) := hW0
  have p0 := at_cell k0 0
  have p1 := at_cell k0 1
  have p2 := at_cell k0 2
  have p3 := at_cell k0 3
  have p4 := at_cell k0 4
  have p5 := at_cell k0 5
  clear hW0 k0
  go_enter Tryz.func71, Tryz.ntmps71
  go_wp2_with fail
  rw [← HW0.out]
  clear HW0
  refine (specName_any nm _ hn).mono ?_
  rintro e w' ⟨rfl, rfl⟩
  cases h1 : Nums.nameB nm.data.toList
  · have HV : Hid (opOk ⟨k, nm, ot, at_, va, ep⟩ = false) := by simp [Hid, opOk, h1]
    clear h1
    go_wp2_with fail
    go_ret
    exact ⟨ret_bool HV.out.symm, d0⟩
  have H1 : Hid _ := h1
  clear h1
  go_wp2_with fail
  refine (l1In_any k 1 9 _).mono ?_
  rintro e w' ⟨rfl, rfl⟩
  cases h2 : (decide (1 ≤ k) && decide (k ≤ 9))
  · have HV : Hid (opOk ⟨k, nm, ot, at_, va, ep⟩ = false) := by simp [Hid, opOk, inB, h2]
    clear h2
    go_wp2_with fail
    go_ret
    exact ⟨ret_bool HV.out.symm, d0⟩
  have h2' : k = 1 ∨ k = 2 ∨ k = 3 ∨ k = 4 ∨ k = 5 ∨ k = 6 ∨ k = 7 ∨ k = 8 ∨ k = 9 := by simp at h2; omega
  clear h2
  have e0 := text_none2 ot
  rcases h2' with rfl | rfl | rfl | rfl | rfl | rfl | rfl | rfl | rfl
  · cases h3 : decide (ot.size = 0)
    · have h3' : ¬ ot.size = 0 := of_decide_eq_false h3
      have HV : Hid (opOk ⟨1, nm, ot, at_, va, ep⟩ = false) := by simp [Hid, opOk, inB, kOther, kAt, kEpoch, kSize, valOk, h3']
      have e1 : ¬ ot.toList = [] := fun h => h3' (e0.1 h)
      clear e0
      go_wp2_with fail
      go_ret
      exact ⟨ret_bool HV.out.symm, d0⟩
    · have h3' : ot.size = 0 := of_decide_eq_true h3
      have e1 : ot.toList = [] := e0.2 h3'
      clear e0
      by_cases h5 : ¬ at_ = 0
      · have HV : Hid (opOk ⟨1, nm, ot, at_, va, ep⟩ = false) := by simp [Hid, opOk, inB, kOther, kAt, kEpoch, kSize, valOk, h5]
        have hq : (at_ != 0) = true := by rw [bne_iff_ne]; exact h5
        go_wp2_with fail
        go_ret
        exact ⟨ret_bool HV.out.symm, d0⟩
      obtain rfl : at_ = 0 := by omega
      clear h5
      go_wp2_with fail
      refine (l1In_any 0 0 255 _).mono ?_
      rintro e w' ⟨rfl, rfl⟩
      by_cases h7 : ¬ ep = 0
      · have HV : Hid (opOk ⟨1, nm, ot, 0, va, ep⟩ = false) := by simp [Hid, opOk, inB, kOther, kAt, kEpoch, kSize, valOk, h7]
        have hq : (ep != 0) = true := by rw [bne_iff_ne]; exact h7
        go_wp2_with fail
        go_ret
        exact ⟨ret_bool HV.out.symm, d0⟩
      obtain rfl : ep = 0 := by omega
      clear h7
      go_wp2_with fail
      refine (l1In_any 0 0 1000 _).mono ?_
      rintro e w' ⟨rfl, rfl⟩
      have HV : Hid (opOk ⟨1, nm, ot, 0, va, 0⟩ = (decide ((1 : Int) ≤ va) && decide (va ≤ 16))) := by simp [Hid, opOk, inB, kOther, kAt, kEpoch, kSize, valOk, H1.out, h3']
      go_wp2_with fail
      refine (l1In_any va 1 16 _).mono ?_
      rintro e w' ⟨rfl, rfl⟩
      go_wp2_with fail
      go_ret
      exact ⟨ret_bool HV.out.symm, d0⟩
  · cases h3 : decide (ot.size = 0)
    · have h3' : ¬ ot.size = 0 := of_decide_eq_false h3
      have HV : Hid (opOk ⟨2, nm, ot, at_, va, ep⟩ = false) := by simp [Hid, opOk, inB, kOther, kAt, kEpoch, kSize, valOk, h3']
      have e1 : ¬ ot.toList = [] := fun h => h3' (e0.1 h)
      clear e0
      go_wp2_with fail
      go_ret
      exact ⟨ret_bool HV.out.symm, d0⟩
    · have h3' : ot.size = 0 := of_decide_eq_true h3
      have e1 : ot.toList = [] := e0.2 h3'
      clear e0
      go_wp2_with fail
      refine (l1In_any at_ 0 255 _).mono ?_
      rintro e w' ⟨rfl, rfl⟩
      cases h6 : (decide ((0 : Int) ≤ at_) && decide (at_ ≤ 255))
      · have HV : Hid (opOk ⟨2, nm, ot, at_, va, ep⟩ = false) := by simp [Hid, opOk, inB, kOther, kAt, kEpoch, kSize, valOk, h6]
        clear h6
        go_wp2_with fail
        go_ret
        exact ⟨ret_bool HV.out.symm, d0⟩
      have H6 : Hid _ := h6
      clear h6
      go_wp2_with fail
      refine (l1In_any ep 0 1000 _).mono ?_
      rintro e w' ⟨rfl, rfl⟩
      cases h8 : (decide ((0 : Int) ≤ ep) && decide (ep ≤ 1000))
      · have HV : Hid (opOk ⟨2, nm, ot, at_, va, ep⟩ = false) := by simp [Hid, opOk, inB, kOther, kAt, kEpoch, kSize, valOk, h8]
        clear h8
        go_wp2_with fail
        go_ret
        exact ⟨ret_bool HV.out.symm, d0⟩
      have H8 : Hid _ := h8
      clear h8
      have HV : Hid (opOk ⟨2, nm, ot, at_, va, ep⟩ = (decide ((0 : Int) ≤ va) && decide (va ≤ 999))) := by simp [Hid, opOk, inB, kOther, kAt, kEpoch, kSize, valOk, H1.out, h3', H6.out, H8.out]
      go_wp2_with fail
      refine (l1In_any va 0 999 _).mono ?_
      rintro e w' ⟨rfl, rfl⟩
      go_wp2_with fail
      go_ret
      exact ⟨ret_bool HV.out.symm, d0⟩
  · cases h3 : decide (ot.size = 0)
    · have h3' : ¬ ot.size = 0 := of_decide_eq_false h3
      have HV : Hid (opOk ⟨3, nm, ot, at_, va, ep⟩ = false) := by simp [Hid, opOk, inB, kOther, kAt, kEpoch, kSize, valOk, h3']
      have e1 : ¬ ot.toList = [] := fun h => h3' (e0.1 h)
      clear e0
      go_wp2_with fail
      go_ret
      exact ⟨ret_bool HV.out.symm, d0⟩
    · have h3' : ot.size = 0 := of_decide_eq_true h3
      have e1 : ot.toList = [] := e0.2 h3'
      clear e0
      go_wp2_with fail
      refine (l1In_any at_ 0 255 _).mono ?_
      rintro e w' ⟨rfl, rfl⟩
      cases h6 : (decide ((0 : Int) ≤ at_) && decide (at_ ≤ 255))
      · have HV : Hid (opOk ⟨3, nm, ot, at_, va, ep⟩ = false) := by simp [Hid, opOk, inB, kOther, kAt, kEpoch, kSize, valOk, h6]
        clear h6
        go_wp2_with fail
        go_ret
        exact ⟨ret_bool HV.out.symm, d0⟩
      have H6 : Hid _ := h6
      clear h6
      go_wp2_with fail
      refine (l1In_any ep 0 1000 _).mono ?_
      rintro e w' ⟨rfl, rfl⟩
      cases h8 : (decide ((0 : Int) ≤ ep) && decide (ep ≤ 1000))
      · have HV : Hid (opOk ⟨3, nm, ot, at_, va, ep⟩ = false) := by simp [Hid, opOk, inB, kOther, kAt, kEpoch, kSize, valOk, h8]
        clear h8
        go_wp2_with fail
        go_ret
        exact ⟨ret_bool HV.out.symm, d0⟩
      have H8 : Hid _ := h8
      clear h8
      have HV : Hid (opOk ⟨3, nm, ot, at_, va, ep⟩ = decide (va = 0)) := by simp [Hid, opOk, inB, kOther, kAt, kEpoch, kSize, valOk, H1.out, h3', H6.out, H8.out]
      go_wp2_with fail
      go_ret
      exact ⟨ret_bool HV.out.symm, d0⟩
  · cases h3 : decide (ot.size = 0)
    · skip
      have h3' : ¬ ot.size = 0 := of_decide_eq_false h3
      have h3e : ¬ ot = ByteArray.empty := fun h => h3' (by rw [h]; rfl)
      have e1 : ¬ ot.toList = [] := fun h => h3' (e0.1 h)
      have e2 : ot.toList.isEmpty = false := by rw [Bool.eq_false_iff]; exact fun h => e1 (List.isEmpty_iff.1 h)
      clear e0
      go_wp2_with fail
      refine (specName_any ot _ ho).mono ?_
      rintro e w' ⟨rfl, rfl⟩
      cases h4 : Nums.nameB ot.data.toList
      · have HV : Hid (opOk ⟨4, nm, ot, at_, va, ep⟩ = false) := by simp [Hid, opOk, inB, kOther, kAt, kEpoch, kSize, valOk, h4]
        clear h4
        go_wp2_with fail
        go_ret
        exact ⟨ret_bool HV.out.symm, d0⟩
      have H4 : Hid _ := h4
      clear h4
      by_cases h5 : ¬ at_ = 0
      · have HV : Hid (opOk ⟨4, nm, ot, at_, va, ep⟩ = false) := by simp [Hid, opOk, inB, kOther, kAt, kEpoch, kSize, valOk, h5]
        have hq : (at_ != 0) = true := by rw [bne_iff_ne]; exact h5
        go_wp2_with fail
        go_ret
        exact ⟨ret_bool HV.out.symm, d0⟩
      obtain rfl : at_ = 0 := by omega
      clear h5
      go_wp2_with fail
      refine (l1In_any 0 0 255 _).mono ?_
      rintro e w' ⟨rfl, rfl⟩
      by_cases h7 : ¬ ep = 0
      · have HV : Hid (opOk ⟨4, nm, ot, 0, va, ep⟩ = false) := by simp [Hid, opOk, inB, kOther, kAt, kEpoch, kSize, valOk, h7]
        have hq : (ep != 0) = true := by rw [bne_iff_ne]; exact h7
        go_wp2_with fail
        go_ret
        exact ⟨ret_bool HV.out.symm, d0⟩
      obtain rfl : ep = 0 := by omega
      clear h7
      go_wp2_with fail
      refine (l1In_any 0 0 1000 _).mono ?_
      rintro e w' ⟨rfl, rfl⟩
      have HV : Hid (opOk ⟨4, nm, ot, 0, va, 0⟩ = decide (va = 0)) := by simp [Hid, opOk, inB, kOther, kAt, kEpoch, kSize, valOk, H1.out, H4.out, h3e]
      go_wp2_with fail
      go_ret
      exact ⟨ret_bool HV.out.symm, d0⟩
    · have h3' : ot.size = 0 := of_decide_eq_true h3
      have HV : Hid (opOk ⟨4, nm, ot, at_, va, ep⟩ = false) := by simp [Hid, opOk, inB, kOther, kAt, kEpoch, kSize, valOk, h3']
      have e1 : ot.toList = [] := e0.2 h3'
      have e2 : ot.toList.isEmpty = true := List.isEmpty_iff.2 e1
      clear e0
      go_wp2_with fail
      go_ret
      exact ⟨ret_bool HV.out.symm, d0⟩
  · cases h3 : decide (ot.size = 0)
    · skip
      have h3' : ¬ ot.size = 0 := of_decide_eq_false h3
      have h3e : ¬ ot = ByteArray.empty := fun h => h3' (by rw [h]; rfl)
      have e1 : ¬ ot.toList = [] := fun h => h3' (e0.1 h)
      have e2 : ot.toList.isEmpty = false := by rw [Bool.eq_false_iff]; exact fun h => e1 (List.isEmpty_iff.1 h)
      clear e0
      go_wp2_with fail
      refine (specName_any ot _ ho).mono ?_
      rintro e w' ⟨rfl, rfl⟩
      cases h4 : Nums.nameB ot.data.toList
      · have HV : Hid (opOk ⟨5, nm, ot, at_, va, ep⟩ = false) := by simp [Hid, opOk, inB, kOther, kAt, kEpoch, kSize, valOk, h4]
        clear h4
        go_wp2_with fail
        go_ret
        exact ⟨ret_bool HV.out.symm, d0⟩
      have H4 : Hid _ := h4
      clear h4
      by_cases h5 : ¬ at_ = 0
      · have HV : Hid (opOk ⟨5, nm, ot, at_, va, ep⟩ = false) := by simp [Hid, opOk, inB, kOther, kAt, kEpoch, kSize, valOk, h5]
        have hq : (at_ != 0) = true := by rw [bne_iff_ne]; exact h5
        go_wp2_with fail
        go_ret
        exact ⟨ret_bool HV.out.symm, d0⟩
      obtain rfl : at_ = 0 := by omega
      clear h5
      go_wp2_with fail
      refine (l1In_any 0 0 255 _).mono ?_
      rintro e w' ⟨rfl, rfl⟩
      by_cases h7 : ¬ ep = 0
      · have HV : Hid (opOk ⟨5, nm, ot, 0, va, ep⟩ = false) := by simp [Hid, opOk, inB, kOther, kAt, kEpoch, kSize, valOk, h7]
        have hq : (ep != 0) = true := by rw [bne_iff_ne]; exact h7
        go_wp2_with fail
        go_ret
        exact ⟨ret_bool HV.out.symm, d0⟩
      obtain rfl : ep = 0 := by omega
      clear h7
      go_wp2_with fail
      refine (l1In_any 0 0 1000 _).mono ?_
      rintro e w' ⟨rfl, rfl⟩
      have HV : Hid (opOk ⟨5, nm, ot, 0, va, 0⟩ = decide (va = 0)) := by simp [Hid, opOk, inB, kOther, kAt, kEpoch, kSize, valOk, H1.out, H4.out, h3e]
      go_wp2_with fail
      go_ret
      exact ⟨ret_bool HV.out.symm, d0⟩
    · have h3' : ot.size = 0 := of_decide_eq_true h3
      have HV : Hid (opOk ⟨5, nm, ot, at_, va, ep⟩ = false) := by simp [Hid, opOk, inB, kOther, kAt, kEpoch, kSize, valOk, h3']
      have e1 : ot.toList = [] := e0.2 h3'
      have e2 : ot.toList.isEmpty = true := List.isEmpty_iff.2 e1
      clear e0
      go_wp2_with fail
      go_ret
      exact ⟨ret_bool HV.out.symm, d0⟩
  · cases h3 : decide (ot.size = 0)
    · have h3' : ¬ ot.size = 0 := of_decide_eq_false h3
      have HV : Hid (opOk ⟨6, nm, ot, at_, va, ep⟩ = false) := by simp [Hid, opOk, inB, kOther, kAt, kEpoch, kSize, valOk, h3']
      have e1 : ¬ ot.toList = [] := fun h => h3' (e0.1 h)
      clear e0
      go_wp2_with fail
      go_ret
      exact ⟨ret_bool HV.out.symm, d0⟩
    · have h3' : ot.size = 0 := of_decide_eq_true h3
      have e1 : ot.toList = [] := e0.2 h3'
      clear e0
      by_cases h5 : ¬ at_ = 0
      · have HV : Hid (opOk ⟨6, nm, ot, at_, va, ep⟩ = false) := by simp [Hid, opOk, inB, kOther, kAt, kEpoch, kSize, valOk, h5]
        have hq : (at_ != 0) = true := by rw [bne_iff_ne]; exact h5
        go_wp2_with fail
        go_ret
        exact ⟨ret_bool HV.out.symm, d0⟩
      obtain rfl : at_ = 0 := by omega
      clear h5
      go_wp2_with fail
      refine (l1In_any 0 0 255 _).mono ?_
      rintro e w' ⟨rfl, rfl⟩
      go_wp2_with fail
      refine (l1In_any ep 0 1000 _).mono ?_
      rintro e w' ⟨rfl, rfl⟩
      cases h8 : (decide ((0 : Int) ≤ ep) && decide (ep ≤ 1000))
      · have HV : Hid (opOk ⟨6, nm, ot, 0, va, ep⟩ = false) := by simp [Hid, opOk, inB, kOther, kAt, kEpoch, kSize, valOk, h8]
        clear h8
        go_wp2_with fail
        go_ret
        exact ⟨ret_bool HV.out.symm, d0⟩
      have H8 : Hid _ := h8
      clear h8
      have HV : Hid (opOk ⟨6, nm, ot, 0, va, ep⟩ = decide (va = 0)) := by simp [Hid, opOk, inB, kOther, kAt, kEpoch, kSize, valOk, H1.out, h3', H8.out]
      go_wp2_with fail
      go_ret
      exact ⟨ret_bool HV.out.symm, d0⟩
  · cases h3 : decide (ot.size = 0)
    · have h3' : ¬ ot.size = 0 := of_decide_eq_false h3
      have HV : Hid (opOk ⟨7, nm, ot, at_, va, ep⟩ = false) := by simp [Hid, opOk, inB, kOther, kAt, kEpoch, kSize, valOk, h3']
      have e1 : ¬ ot.toList = [] := fun h => h3' (e0.1 h)
      clear e0
      go_wp2_with fail
      go_ret
      exact ⟨ret_bool HV.out.symm, d0⟩
    · have h3' : ot.size = 0 := of_decide_eq_true h3
      have e1 : ot.toList = [] := e0.2 h3'
      clear e0
      by_cases h5 : ¬ at_ = 0
      · have HV : Hid (opOk ⟨7, nm, ot, at_, va, ep⟩ = false) := by simp [Hid, opOk, inB, kOther, kAt, kEpoch, kSize, valOk, h5]
        have hq : (at_ != 0) = true := by rw [bne_iff_ne]; exact h5
        go_wp2_with fail
        go_ret
        exact ⟨ret_bool HV.out.symm, d0⟩
      obtain rfl : at_ = 0 := by omega
      clear h5
      go_wp2_with fail
      refine (l1In_any 0 0 255 _).mono ?_
      rintro e w' ⟨rfl, rfl⟩
      go_wp2_with fail
      refine (l1In_any ep 0 1000 _).mono ?_
      rintro e w' ⟨rfl, rfl⟩
      cases h8 : (decide ((0 : Int) ≤ ep) && decide (ep ≤ 1000))
      · have HV : Hid (opOk ⟨7, nm, ot, 0, va, ep⟩ = false) := by simp [Hid, opOk, inB, kOther, kAt, kEpoch, kSize, valOk, h8]
        clear h8
        go_wp2_with fail
        go_ret
        exact ⟨ret_bool HV.out.symm, d0⟩
      have H8 : Hid _ := h8
      clear h8
      have HV : Hid (opOk ⟨7, nm, ot, 0, va, ep⟩ = (decide ((1 : Int) ≤ va) && decide (va ≤ 16))) := by simp [Hid, opOk, inB, kOther, kAt, kEpoch, kSize, valOk, H1.out, h3', H8.out]
      go_wp2_with fail
      refine (l1In_any va 1 16 _).mono ?_
      rintro e w' ⟨rfl, rfl⟩
      go_wp2_with fail
      go_ret
      exact ⟨ret_bool HV.out.symm, d0⟩
  · cases h3 : decide (ot.size = 0)
    · have h3' : ¬ ot.size = 0 := of_decide_eq_false h3
      have HV : Hid (opOk ⟨8, nm, ot, at_, va, ep⟩ = false) := by simp [Hid, opOk, inB, kOther, kAt, kEpoch, kSize, valOk, h3']
      have e1 : ¬ ot.toList = [] := fun h => h3' (e0.1 h)
      clear e0
      go_wp2_with fail
      go_ret
      exact ⟨ret_bool HV.out.symm, d0⟩
    · have h3' : ot.size = 0 := of_decide_eq_true h3
      have e1 : ot.toList = [] := e0.2 h3'
      clear e0
      by_cases h5 : ¬ at_ = 0
      · have HV : Hid (opOk ⟨8, nm, ot, at_, va, ep⟩ = false) := by simp [Hid, opOk, inB, kOther, kAt, kEpoch, kSize, valOk, h5]
        have hq : (at_ != 0) = true := by rw [bne_iff_ne]; exact h5
        go_wp2_with fail
        go_ret
        exact ⟨ret_bool HV.out.symm, d0⟩
      obtain rfl : at_ = 0 := by omega
      clear h5
      go_wp2_with fail
      refine (l1In_any 0 0 255 _).mono ?_
      rintro e w' ⟨rfl, rfl⟩
      by_cases h7 : ¬ ep = 0
      · have HV : Hid (opOk ⟨8, nm, ot, 0, va, ep⟩ = false) := by simp [Hid, opOk, inB, kOther, kAt, kEpoch, kSize, valOk, h7]
        have hq : (ep != 0) = true := by rw [bne_iff_ne]; exact h7
        go_wp2_with fail
        go_ret
        exact ⟨ret_bool HV.out.symm, d0⟩
      obtain rfl : ep = 0 := by omega
      clear h7
      go_wp2_with fail
      refine (l1In_any 0 0 1000 _).mono ?_
      rintro e w' ⟨rfl, rfl⟩
      have HV : Hid (opOk ⟨8, nm, ot, 0, va, 0⟩ = decide (va = 0)) := by simp [Hid, opOk, inB, kOther, kAt, kEpoch, kSize, valOk, H1.out, h3']
      go_wp2_with fail
      go_ret
      exact ⟨ret_bool HV.out.symm, d0⟩
  · cases h3 : decide (ot.size = 0)
    · have h3' : ¬ ot.size = 0 := of_decide_eq_false h3
      have HV : Hid (opOk ⟨9, nm, ot, at_, va, ep⟩ = false) := by simp [Hid, opOk, inB, kOther, kAt, kEpoch, kSize, valOk, h3']
      have e1 : ¬ ot.toList = [] := fun h => h3' (e0.1 h)
      clear e0
      go_wp2_with fail
      go_ret
      exact ⟨ret_bool HV.out.symm, d0⟩
    · have h3' : ot.size = 0 := of_decide_eq_true h3
      have e1 : ot.toList = [] := e0.2 h3'
      clear e0
      go_wp2_with fail
      refine (l1In_any at_ 0 255 _).mono ?_
      rintro e w' ⟨rfl, rfl⟩
      cases h6 : (decide ((0 : Int) ≤ at_) && decide (at_ ≤ 255))
      · have HV : Hid (opOk ⟨9, nm, ot, at_, va, ep⟩ = false) := by simp [Hid, opOk, inB, kOther, kAt, kEpoch, kSize, valOk, h6]
        clear h6
        go_wp2_with fail
        go_ret
        exact ⟨ret_bool HV.out.symm, d0⟩
      have H6 : Hid _ := h6
      clear h6
      by_cases h7 : ¬ ep = 0
      · have HV : Hid (opOk ⟨9, nm, ot, at_, va, ep⟩ = false) := by simp [Hid, opOk, inB, kOther, kAt, kEpoch, kSize, valOk, h7]
        have hq : (ep != 0) = true := by rw [bne_iff_ne]; exact h7
        go_wp2_with fail
        go_ret
        exact ⟨ret_bool HV.out.symm, d0⟩
      obtain rfl : ep = 0 := by omega
      clear h7
      go_wp2_with fail
      refine (l1In_any 0 0 1000 _).mono ?_
      rintro e w' ⟨rfl, rfl⟩
      have HV : Hid (opOk ⟨9, nm, ot, at_, va, 0⟩ = decide (va = 0)) := by simp [Hid, opOk, inB, kOther, kAt, kEpoch, kSize, valOk, H1.out, h3', H6.out]
      go_wp2_with fail
      go_ret
      exact ⟨ret_bool HV.out.symm, d0⟩
end Go.Proofs.YtcefcglonooelaaGreatDoor

namespace Go.Proofs.YtcefcglonooelaaGreatDoor
open Go.RowKit

set_option linter.unusedVariables false


/-- What l9Did leaves behind. -/
def DoKP (l : List Pv) (o : Oq) (told : Int) (w : World) (e : Ending) (w' : World) : Prop :=
  ∃ (v' : Value) (ms : List Pk), e = .returned (.tuple #[v', .agg #[.int .i64 (doPlain l o told).2.1, .int .i64 (doPlain l o told).2.2]]) ∧ ms.map Pk.pv = (doPlain l o told).1 ∧ OwnK w.heap.size w' v' ms ∧ ApartK ms ∧ Below w.heap.size w w'

theorem own_box_k {w w' : World} {base b : Nat} {e : TypeId} {size : Nat} {v : Value} {n : Nat} {xs : List Value} {cs : Array Value} {t : TypeId} (h : w.ownsRow base e size v n xs) (k : w.heap[b]? = some (.cells cs t (0, 0))) (ht : t ≠ e) (u : Upto b w w') : w'.ownsRow base e size v n xs :=
  own_rng_not h fun g hg hv => u.block g hg fun e => own_not_box h k ht (by rw [hv, e])

theorem OwnK.box {base b : Nat} {w w' : World} {v : Value} {ms : List Pk} {cs : Array Value} {t : TypeId} (h : OwnK base w v ms) (k : w.heap[b]? = some (.cells cs t (0, 0))) (h1 : t ≠ 51) (h2 : t ≠ 2) (u : Upto b w w') : OwnK base w' v ms := ⟨own_box_k h.row k h1 u, fun m hm => own_box_k (h.maps m hm) k h2 u⟩

/-- The reply's box is written. -/
theorem k_end {w W : World} {n : Nat} {x0 x1 v8 : Value} {ms : List Pk} {c v : Int} (k1 : W.heap[n]? = some (.cells #[x0, x1] 30 (0, 0))) (own : OwnK w.heap.size W v8 ms) (d : Below w.heap.size w W) (hn : w.heap.size ≤ n) :
    ((W.setCell ⟨n, 0, none⟩ (.int .i64 c)).setCell ⟨n, 1, none⟩ (.int .i64 v)).heap[n]? = some (.cells #[.int .i64 c, .int .i64 v] 30 (0, 0)) ∧ OwnK w.heap.size ((W.setCell ⟨n, 0, none⟩ (.int .i64 c)).setCell ⟨n, 1, none⟩ (.int .i64 v)) v8 ms ∧ Below w.heap.size w ((W.setCell ⟨n, 0, none⟩ (.int .i64 c)).setCell ⟨n, 1, none⟩ (.int .i64 v)) := by
  obtain ⟨h1, h2⟩ := set_two k1 (.int .i64 c) (.int .i64 v)
  exact ⟨h1, own.box k1 (by decide) (by decide) h2, d.trans (h2.toBelow d.size hn)⟩

theorem k_endD {w W : World} {n : Nat} {x0 x1 v8 : Value} {ms : List Pk} {c v : Int} (k1 : W.heap[n]? = some (.cells #[x0, x1] 30 (0, 0))) (own : OwnK w.heap.size W v8 ms) (d : Below w.heap.size w W) (hn : w.heap.size ≤ n) :
    (((W.setCell ⟨n, 0, none⟩ (.int .i64 c)).setCell ⟨n, 1, none⟩ (.int .i64 v)).drew).heap[n]? = some (.cells #[.int .i64 c, .int .i64 v] 30 (0, 0)) ∧ OwnK w.heap.size (((W.setCell ⟨n, 0, none⟩ (.int .i64 c)).setCell ⟨n, 1, none⟩ (.int .i64 v)).drew) v8 ms ∧ Below w.heap.size w (((W.setCell ⟨n, 0, none⟩ (.int .i64 c)).setCell ⟨n, 1, none⟩ (.int .i64 v)).drew) := by
  obtain ⟨h1, h2, h3⟩ := k_end (c := c) (v := v) k1 own d hn
  exact ⟨h1, h2.below ((Below.refl _ _).drew), bw_drew h3⟩

set_option maxRecDepth 100000 in
set_option maxHeartbeats 6400000 in
theorem l9Did_bad (v : Value) (bks : List Pk) (k : Int) (nm ot : ByteArray) (at_ va ep : Int) (told : Int) (w : World) (hn : nm.size ≤ maxLen) (ho : ot.size ≤ maxLen) (hr : ∀ b ∈ bks, b.rs.length ≤ 1048576) (hpo : plainsOk (bks.map Pk.pv) = true) (r : ReadsK w.heap.size w v bks) (hok : opOk ⟨k, nm, ot, at_, va, ep⟩ = false) :
    Calls Tryz.prog 43 #[v, .agg #[.int .i64 k, .string nm, .string ot, .int .i64 at_, .int .i64 va, .int .i64 ep], .int .i64 told] w (DoKP (bks.map Pk.pv) ⟨k, nm, ot, at_, va, ep⟩ told w) := by
  obtain ⟨ov, cv, hvf⟩ := r.row.form
  subst hvf
  have hfew : bks.length ≤ 6 := by have := (plains_ok hpo).1; rwa [List.length_map] at this
  obtain ⟨W0, hW0, k0, k1, d0, z0⟩ := box2 w #[.int .i64 k, .string nm, .string ot, .int .i64 at_, .int .i64 va, .int .i64 ep] #[.int .i64 0, .int .i64 0] 26 30
  have HW0 : Hid (W0 = _) := hW0
  have r0 := (r.below d0).mono d0.size
  clear hW0 z0 r
  go_enter Tryz.func43, Tryz.ntmps43
  go_upto_region 1 with fail
  rw [← HW0.out]
  clear HW0
  go_wp2_with fail
  refine (l9Copy_any _ bks _ (by omega) hr r0).mono ?_
  rintro e w1 ⟨v8, ms, rfl, hpv, own, ap, hnil, b1⟩
  have own0 := own.mono d0.size
  clear own
  replace k0 := (b1.block _ (heap_lt k0)).trans k0
  replace k1 := (b1.block _ (heap_lt k1)).trans k1
  replace d0 := bw_call d0 b1
  replace r0 := (r0.below b1).mono b1.size
  have HPV : Hid (ms.map Pk.pv = bks.map Pk.pv) := hpv
  have hml1 : ms.length ≤ bks.length := by have := congrArg List.length hpv; simp at this; omega
  have hml2 : bks.length ≤ ms.length := by have := congrArg List.length hpv; simp at this; omega
  clear b1 hpv
  have p0 := at_cell k0 0
  have p1 := at_cell k0 1
  have p2 := at_cell k0 2
  have p3 := at_cell k0 3
  have p4 := at_cell k0 4
  have p5 := at_cell k0 5
  go_wp2_with fail
  clear p0 p1 p2 p3 p4 p5
  refine (specOpOk_any k nm ot at_ va ep _ hn ho).mono ?_
  rw [hok]
  rintro e w2 ⟨rfl, b1⟩
  replace k0 := (b1.block _ (heap_lt k0)).trans k0
  replace k1 := (b1.block _ (heap_lt k1)).trans k1
  replace d0 := bw_call d0 b1
  replace r0 := (r0.below b1).mono b1.size
  replace own0 := own0.below b1
  clear b1
  obtain ⟨o8, c8, rfl⟩ := own_slice own0.row
  have HS : Hid _ := k_end (c := 1) (v := 0) k1 own0 d0 (Nat.le_succ _)
  have HD : Hid (doPlain (bks.map Pk.pv) _ _ = _) := doPlain_bad told hok
  have q0 := at_cell k1 0
  have q1 := at_cell k1 1
  have f0 := at_open k1 0
  have f1 := at_open k1 1
  have HAP : Hid _ := ap
  clear k0 k1 own0 d0 ap
  go_wp2_with fail
  exact bodyPost_ret (v := .tuple #[.slice o8 ms.length c8, .agg #[.int .i64 1, .int .i64 0]]) (by simp [results, Tryz.results43, go_sem, at_cell HS.out.1]) rfl ⟨_, ms, by rw [HD.out], by rw [HD.out]; exact HPV.out, HS.out.2.1, HAP.out, HS.out.2.2⟩

set_option maxRecDepth 100000 in
set_option maxHeartbeats 6400000 in
theorem l9Did_refd (v : Value) (bks : List Pk) (k : Int) (nm ot : ByteArray) (at_ va ep : Int) (told : Int) (w : World) (hn : nm.size ≤ maxLen) (ho : ot.size ≤ maxLen) (hr : ∀ b ∈ bks, b.rs.length ≤ 1048576) (hpo : plainsOk (bks.map Pk.pv) = true) (r : ReadsK w.heap.size w v bks) (hok : opOk ⟨k, nm, ot, at_, va, ep⟩ = true) (href : refused ((bks.map Pk.pv).map Pv.pb) ⟨k, nm, ot, at_, va, ep⟩ ≠ 0) :
    Calls Tryz.prog 43 #[v, .agg #[.int .i64 k, .string nm, .string ot, .int .i64 at_, .int .i64 va, .int .i64 ep], .int .i64 told] w (DoKP (bks.map Pk.pv) ⟨k, nm, ot, at_, va, ep⟩ told w) := by
  have hk9 := (opOk_bd _ hok).1
  simp only at hk9
  obtain ⟨rc, hrc⟩ : ∃ rc, refused ((bks.map Pk.pv).map Pv.pb) ⟨k, nm, ot, at_, va, ep⟩ = rc := ⟨_, rfl⟩
  have HDR : Hid (doPlain (bks.map Pk.pv) ⟨k, nm, ot, at_, va, ep⟩ told = (bks.map Pk.pv, (rc, 0))) := by rw [Hid, doPlain_refd told hok href, hrc]
  have hrn : rc ≠ 0 := by rw [← hrc]; exact href
  have hrb : (rc != 0) = true := by rw [bne_iff_ne]; exact hrn
  obtain ⟨ov, cv, hvf⟩ := r.row.form
  subst hvf
  have hfew : bks.length ≤ 6 := by have := (plains_ok hpo).1; rwa [List.length_map] at this
  obtain ⟨W0, hW0, k0, k1, d0, z0⟩ := box2 w #[.int .i64 k, .string nm, .string ot, .int .i64 at_, .int .i64 va, .int .i64 ep] #[.int .i64 0, .int .i64 0] 26 30
  have HW0 : Hid (W0 = _) := hW0
  have r0 := (r.below d0).mono d0.size
  clear hW0 z0 r
  go_enter Tryz.func43, Tryz.ntmps43
  go_upto_region 1 with fail
  rw [← HW0.out]
  clear HW0
  go_wp2_with fail
  refine (l9Copy_any _ bks _ (by omega) hr r0).mono ?_
  rintro e w1 ⟨v8, ms, rfl, hpv, own, ap, hnil, b1⟩
  have own0 := own.mono d0.size
  clear own
  replace k0 := (b1.block _ (heap_lt k0)).trans k0
  replace k1 := (b1.block _ (heap_lt k1)).trans k1
  replace d0 := bw_call d0 b1
  replace r0 := (r0.below b1).mono b1.size
  have HPV : Hid (ms.map Pk.pv = bks.map Pk.pv) := hpv
  have hml1 : ms.length ≤ bks.length := by have := congrArg List.length hpv; simp at this; omega
  have hml2 : bks.length ≤ ms.length := by have := congrArg List.length hpv; simp at this; omega
  clear b1 hpv
  have p0 := at_cell k0 0
  have p1 := at_cell k0 1
  have p2 := at_cell k0 2
  have p3 := at_cell k0 3
  have p4 := at_cell k0 4
  have p5 := at_cell k0 5
  go_wp2_with fail
  clear p0 p1 p2 p3 p4 p5
  refine (specOpOk_any k nm ot at_ va ep _ hn ho).mono ?_
  rw [hok]
  rintro e w2 ⟨rfl, b1⟩
  replace k0 := (b1.block _ (heap_lt k0)).trans k0
  replace k1 := (b1.block _ (heap_lt k1)).trans k1
  replace d0 := bw_call d0 b1
  replace r0 := (r0.below b1).mono b1.size
  replace own0 := own0.below b1
  clear b1
  obtain ⟨o8, c8, rfl⟩ := own_slice own0.row
  go_wp2_with fail
  refine (l9Books_any _ bks _ (by omega) r0).mono ?_
  rintro e w3 ⟨v9, bs, rfl, hbs, ob, hnil9, b1⟩
  replace k0 := (b1.block _ (heap_lt k0)).trans k0
  replace k1 := (b1.block _ (heap_lt k1)).trans k1
  replace d0 := bw_call d0 b1
  replace own0 := own0.below b1
  have rb : ReadsR 5 bookC w3.heap.size w3 v9 bs := ReadsR.of_own bookC_len ob.row
  have hfm : ∀ b ∈ bs, ∃ o k cp, b.m = .slice o k cp := fun b hb => by obtain ⟨o, cp, e⟩ := own_slice (ob.maps b hb); exact ⟨o, _, cp, e⟩
  obtain ⟨o9, c9, h9⟩ := rb.form
  subst h9
  clear b1 r0 ob
  have p0 := at_cell k0 0
  have p1 := at_cell k0 1
  have p2 := at_cell k0 2
  have p3 := at_cell k0 3
  have p4 := at_cell k0 4
  have p5 := at_cell k0 5
  go_wp2_with fail
  clear p0 p1 p2 p3 p4 p5
  refine (l8Refused_any _ bs k nm ot at_ va ep _ (by omega) rb hfm).mono ?_
  rw [hbs, hrc]
  rintro e w4 ⟨rfl, b1⟩
  replace k0 := (b1.block _ (heap_lt k0)).trans k0
  replace k1 := (b1.block _ (heap_lt k1)).trans k1
  replace d0 := bw_call d0 b1
  replace own0 := own0.below b1
  replace rb := (rb.below b1).mono b1.size
  clear b1 hfm
  have HS : Hid _ := k_end (c := rc) (v := 0) k1 own0 d0 (Nat.le_succ _)
  have HD : Hid (doPlain (bks.map Pk.pv) _ _ = _) := HDR.out
  have q0 := at_cell k1 0
  have q1 := at_cell k1 1
  have f0 := at_open k1 0
  have f1 := at_open k1 1
  have HAP : Hid _ := ap
  clear k0 k1 own0 d0 ap
  go_wp2_with fail
  exact bodyPost_ret (v := .tuple #[.slice o8 ms.length c8, .agg #[.int .i64 rc, .int .i64 0]]) (by simp [results, Tryz.results43, go_sem, at_cell HS.out.1]) rfl ⟨_, ms, by rw [HD.out], by rw [HD.out]; exact HPV.out, HS.out.2.1, HAP.out, HS.out.2.2⟩
end Go.Proofs.YtcefcglonooelaaGreatDoor

