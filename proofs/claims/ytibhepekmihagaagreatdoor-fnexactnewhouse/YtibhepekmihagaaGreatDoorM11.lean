/-
  Contracts and plain laws, one chapter behind the other.
-/
import Derived.Test.YtibhepekmihagaaGreatDoorM02
import Derived.Test.YtibhepekmihagaaGreatDoorM03
import Derived.Test.YtibhepekmihagaaGreatDoorM05
namespace Go.Proofs.YtibhepekmihagaaGreatDoor
open Go.RowKit

set_option linter.unusedVariables false

set_option maxRecDepth 100000

theorem text_nil (s : ByteArray) : (s.toList == (⟨#[]⟩ : ByteArray).toList) = decide (s.size = 0) := by
  rw [text_eq, decide_eq_decide]
  constructor
  · intro h; rw [h]; rfl
  · intro h; apply ext_list; exact List.length_eq_zero_iff.1 (by simpa using h)

theorem text_none2 (s : ByteArray) : s.toList = [] ↔ s.size = 0 := by
  have h := text_nil s
  have e : (⟨#[]⟩ : ByteArray).toList = [] := by rw [ByteArray.toList_eq]
  rw [e, Bool.eq_iff_iff, beq_iff_eq, decide_eq_true_eq] at h
  exact h

set_option maxHeartbeats 6400000 in
theorem specOpOk_any (k : Int) (nm ot : ByteArray) (at_ va ep : Int) (w : World) (hn : nm.size ≤ maxLen) (ho : ot.size ≤ maxLen) :
    Calls Tryz.prog 127 #[.agg #[.int .i64 k, .string nm, .string ot, .int .i64 at_, .int .i64 va, .int .i64 ep]] w fun e w' => e = .returned (.bool (opOk ⟨k, nm, ot, at_, va, ep⟩)) ∧ Below w.heap.size w w' := by
  obtain ⟨W0, hW0, k0, d0, z0⟩ := box1 w #[.int .i64 k, .string nm, .string ot, .int .i64 at_, .int .i64 va, .int .i64 ep] 89
  have HW0 : Hid (W0 = _) := hW0
  have p0 := at_cell k0 0
  have p1 := at_cell k0 1
  have p2 := at_cell k0 2
  have p3 := at_cell k0 3
  have p4 := at_cell k0 4
  have p5 := at_cell k0 5
  clear hW0 k0
  go_enter Tryz.func127, Tryz.ntmps127
  go_wp2_with fail
  rw [← HW0.out]
  clear HW0
  refine (specName_any nm _ hn).mono ?_
  rintro e w' ⟨rfl, rfl⟩
  cases h1 : Nums.nameB nm.data.toList
  · have HV : Hid (opOk ⟨k, nm, ot, at_, va, ep⟩ = false) := by simp [Hid, opOk, h1]
    clear h1
    go_wp2_with fail
    go_ret
    exact ⟨ret_bool HV.out.symm, d0⟩
  have H1 : Hid _ := h1
  clear h1
  go_wp2_with fail
  refine (l1In_any k 1 9 _).mono ?_
  rintro e w' ⟨rfl, rfl⟩
  cases h2 : (decide (1 ≤ k) && decide (k ≤ 9))
  · have HV : Hid (opOk ⟨k, nm, ot, at_, va, ep⟩ = false) := by simp [Hid, opOk, inB, h2]
    clear h2
    go_wp2_with fail
    go_ret
    exact ⟨ret_bool HV.out.symm, d0⟩
  have h2' : k = 1 ∨ k = 2 ∨ k = 3 ∨ k = 4 ∨ k = 5 ∨ k = 6 ∨ k = 7 ∨ k = 8 ∨ k = 9 := by simp at h2; omega
  clear h2
  have e0 := text_none2 ot
  rcases h2' with rfl | rfl | rfl | rfl | rfl | rfl | rfl | rfl | rfl
  · cases h3 : decide (ot.size = 0)
    · have h3' : ¬ ot.size = 0 := of_decide_eq_false h3
      have HV : Hid (opOk ⟨1, nm, ot, at_, va, ep⟩ = false) := by simp [Hid, opOk, inB, kOther, kAt, kEpoch, kSize, valOk, h3']
      have e1 : ¬ ot.toList = [] := fun h => h3' (e0.1 h)
      clear e0
      go_wp2_with fail
      go_ret
      exact ⟨ret_bool HV.out.symm, d0⟩
    · have h3' : ot.size = 0 := of_decide_eq_true h3
      have e1 : ot.toList = [] := e0.2 h3'
      clear e0
      by_cases h5 : ¬ at_ = 0
      · have HV : Hid (opOk ⟨1, nm, ot, at_, va, ep⟩ = false) := by simp [Hid, opOk, inB, kOther, kAt, kEpoch, kSize, valOk, h5]
        have hq : (at_ != 0) = true := by rw [bne_iff_ne]; exact h5
        go_wp2_with fail
        go_ret
        exact ⟨ret_bool HV.out.symm, d0⟩
      obtain rfl : at_ = 0 := by omega
      clear h5
      go_wp2_with fail
      refine (l1In_any 0 0 255 _).mono ?_
      rintro e w' ⟨rfl, rfl⟩
      by_cases h7 : ¬ ep = 0
      · have HV : Hid (opOk ⟨1, nm, ot, 0, va, ep⟩ = false) := by simp [Hid, opOk, inB, kOther, kAt, kEpoch, kSize, valOk, h7]
        have hq : (ep != 0) = true := by rw [bne_iff_ne]; exact h7
        go_wp2_with fail
        go_ret
        exact ⟨ret_bool HV.out.symm, d0⟩
      obtain rfl : ep = 0 := by omega
      clear h7
      go_wp2_with fail
      refine (l1In_any 0 0 1000 _).mono ?_
      rintro e w' ⟨rfl, rfl⟩
      have HV : Hid (opOk ⟨1, nm, ot, 0, va, 0⟩ = (decide ((1 : Int) ≤ va) && decide (va ≤ 16))) := by simp [Hid, opOk, inB, kOther, kAt, kEpoch, kSize, valOk, H1.out, h3']
      go_wp2_with fail
      refine (l1In_any va 1 16 _).mono ?_
      rintro e w' ⟨rfl, rfl⟩
      go_wp2_with fail
      go_ret
      exact ⟨ret_bool HV.out.symm, d0⟩
  · cases h3 : decide (ot.size = 0)
    · have h3' : ¬ ot.size = 0 := of_decide_eq_false h3
      have HV : Hid (opOk ⟨2, nm, ot, at_, va, ep⟩ = false) := by simp [Hid, opOk, inB, kOther, kAt, kEpoch, kSize, valOk, h3']
      have e1 : ¬ ot.toList = [] := fun h => h3' (e0.1 h)
      clear e0
      go_wp2_with fail
      go_ret
      exact ⟨ret_bool HV.out.symm, d0⟩
    · have h3' : ot.size = 0 := of_decide_eq_true h3
      have e1 : ot.toList = [] := e0.2 h3'
      clear e0
      go_wp2_with fail
      refine (l1In_any at_ 0 255 _).mono ?_
      rintro e w' ⟨rfl, rfl⟩
      cases h6 : (decide ((0 : Int) ≤ at_) && decide (at_ ≤ 255))
      · have HV : Hid (opOk ⟨2, nm, ot, at_, va, ep⟩ = false) := by simp [Hid, opOk, inB, kOther, kAt, kEpoch, kSize, valOk, h6]
        clear h6
        go_wp2_with fail
        go_ret
        exact ⟨ret_bool HV.out.symm, d0⟩
      have H6 : Hid _ := h6
      clear h6
      go_wp2_with fail
      refine (l1In_any ep 0 1000 _).mono ?_
      rintro e w' ⟨rfl, rfl⟩
      cases h8 : (decide ((0 : Int) ≤ ep) && decide (ep ≤ 1000))
      · have HV : Hid (opOk ⟨2, nm, ot, at_, va, ep⟩ = false) := by simp [Hid, opOk, inB, kOther, kAt, kEpoch, kSize, valOk, h8]
        clear h8
        go_wp2_with fail
        go_ret
        exact ⟨ret_bool HV.out.symm, d0⟩
      have H8 : Hid _ := h8
      clear h8
      have HV : Hid (opOk ⟨2, nm, ot, at_, va, ep⟩ = (decide ((0 : Int) ≤ va) && decide (va ≤ 999))) := by simp [Hid, opOk, inB, kOther, kAt, kEpoch, kSize, valOk, H1.out, h3', H6.out, H8.out]
      go_wp2_with fail
      refine (l1In_any va 0 999 _).mono ?_
      rintro e w' ⟨rfl, rfl⟩
      go_wp2_with fail
      go_ret
      exact ⟨ret_bool HV.out.symm, d0⟩
  · cases h3 : decide (ot.size = 0)
    · have h3' : ¬ ot.size = 0 := of_decide_eq_false h3
      have HV : Hid (opOk ⟨3, nm, ot, at_, va, ep⟩ = false) := by simp [Hid, opOk, inB, kOther, kAt, kEpoch, kSize, valOk, h3']
      have e1 : ¬ ot.toList = [] := fun h => h3' (e0.1 h)
      clear e0
      go_wp2_with fail
      go_ret
      exact ⟨ret_bool HV.out.symm, d0⟩
    · have h3' : ot.size = 0 := of_decide_eq_true h3
      have e1 : ot.toList = [] := e0.2 h3'
      clear e0
      go_wp2_with fail
      refine (l1In_any at_ 0 255 _).mono ?_
      rintro e w' ⟨rfl, rfl⟩
      cases h6 : (decide ((0 : Int) ≤ at_) && decide (at_ ≤ 255))
      · have HV : Hid (opOk ⟨3, nm, ot, at_, va, ep⟩ = false) := by simp [Hid, opOk, inB, kOther, kAt, kEpoch, kSize, valOk, h6]
        clear h6
        go_wp2_with fail
        go_ret
        exact ⟨ret_bool HV.out.symm, d0⟩
      have H6 : Hid _ := h6
      clear h6
      go_wp2_with fail
      refine (l1In_any ep 0 1000 _).mono ?_
      rintro e w' ⟨rfl, rfl⟩
      cases h8 : (decide ((0 : Int) ≤ ep) && decide (ep ≤ 1000))
      · have HV : Hid (opOk ⟨3, nm, ot, at_, va, ep⟩ = false) := by simp [Hid, opOk, inB, kOther, kAt, kEpoch, kSize, valOk, h8]
        clear h8
        go_wp2_with fail
        go_ret
        exact ⟨ret_bool HV.out.symm, d0⟩
      have H8 : Hid _ := h8
      clear h8
      have HV : Hid (opOk ⟨3, nm, ot, at_, va, ep⟩ = decide (va = 0)) := by simp [Hid, opOk, inB, kOther, kAt, kEpoch, kSize, valOk, H1.out, h3', H6.out, H8.out]
      go_wp2_with fail
      go_ret
      exact ⟨ret_bool HV.out.symm, d0⟩
  · cases h3 : decide (ot.size = 0)
    · skip
      have h3' : ¬ ot.size = 0 := of_decide_eq_false h3
      have h3e : ¬ ot = ByteArray.empty := fun h => h3' (by rw [h]; rfl)
      have e1 : ¬ ot.toList = [] := fun h => h3' (e0.1 h)
      have e2 : ot.toList.isEmpty = false := by rw [Bool.eq_false_iff]; exact fun h => e1 (List.isEmpty_iff.1 h)
      clear e0
      go_wp2_with fail
      refine (specName_any ot _ ho).mono ?_
      rintro e w' ⟨rfl, rfl⟩
      cases h4 : Nums.nameB ot.data.toList
      · have HV : Hid (opOk ⟨4, nm, ot, at_, va, ep⟩ = false) := by simp [Hid, opOk, inB, kOther, kAt, kEpoch, kSize, valOk, h4]
        clear h4
        go_wp2_with fail
        go_ret
        exact ⟨ret_bool HV.out.symm, d0⟩
      have H4 : Hid _ := h4
      clear h4
      by_cases h5 : ¬ at_ = 0
      · have HV : Hid (opOk ⟨4, nm, ot, at_, va, ep⟩ = false) := by simp [Hid, opOk, inB, kOther, kAt, kEpoch, kSize, valOk, h5]
        have hq : (at_ != 0) = true := by rw [bne_iff_ne]; exact h5
        go_wp2_with fail
        go_ret
        exact ⟨ret_bool HV.out.symm, d0⟩
      obtain rfl : at_ = 0 := by omega
      clear h5
      go_wp2_with fail
      refine (l1In_any 0 0 255 _).mono ?_
      rintro e w' ⟨rfl, rfl⟩
      by_cases h7 : ¬ ep = 0
      · have HV : Hid (opOk ⟨4, nm, ot, 0, va, ep⟩ = false) := by simp [Hid, opOk, inB, kOther, kAt, kEpoch, kSize, valOk, h7]
        have hq : (ep != 0) = true := by rw [bne_iff_ne]; exact h7
        go_wp2_with fail
        go_ret
        exact ⟨ret_bool HV.out.symm, d0⟩
      obtain rfl : ep = 0 := by omega
      clear h7
      go_wp2_with fail
      refine (l1In_any 0 0 1000 _).mono ?_
      rintro e w' ⟨rfl, rfl⟩
      have HV : Hid (opOk ⟨4, nm, ot, 0, va, 0⟩ = decide (va = 0)) := by simp [Hid, opOk, inB, kOther, kAt, kEpoch, kSize, valOk, H1.out, H4.out, h3e]
      go_wp2_with fail
      go_ret
      exact ⟨ret_bool HV.out.symm, d0⟩
    · have h3' : ot.size = 0 := of_decide_eq_true h3
      have HV : Hid (opOk ⟨4, nm, ot, at_, va, ep⟩ = false) := by simp [Hid, opOk, inB, kOther, kAt, kEpoch, kSize, valOk, h3']
      have e1 : ot.toList = [] := e0.2 h3'
      have e2 : ot.toList.isEmpty = true := List.isEmpty_iff.2 e1
      clear e0
      go_wp2_with fail
      go_ret
      exact ⟨ret_bool HV.out.symm, d0⟩
  · cases h3 : decide (ot.size = 0)
    · skip
      have h3' : ¬ ot.size = 0 := of_decide_eq_false h3
      have h3e : ¬ ot = ByteArray.empty := fun h => h3' (by rw [h]; rfl)
      have e1 : ¬ ot.toList = [] := fun h => h3' (e0.1 h)
      have e2 : ot.toList.isEmpty = false := by rw [Bool.eq_false_iff]; exact fun h => e1 (List.isEmpty_iff.1 h)
      clear e0
      go_wp2_with fail
      refine (specName_any ot _ ho).mono ?_
      rintro e w' ⟨rfl, rfl⟩
      cases h4 : Nums.nameB ot.data.toList
      · have HV : Hid (opOk ⟨5, nm, ot, at_, va, ep⟩ = false) := by simp [Hid, opOk, inB, kOther, kAt, kEpoch, kSize, valOk, h4]
        clear h4
        go_wp2_with fail
        go_ret
        exact ⟨ret_bool HV.out.symm, d0⟩
      have H4 : Hid _ := h4
      clear h4
      by_cases h5 : ¬ at_ = 0
      · have HV : Hid (opOk ⟨5, nm, ot, at_, va, ep⟩ = false) := by simp [Hid, opOk, inB, kOther, kAt, kEpoch, kSize, valOk, h5]
        have hq : (at_ != 0) = true := by rw [bne_iff_ne]; exact h5
        go_wp2_with fail
        go_ret
        exact ⟨ret_bool HV.out.symm, d0⟩
      obtain rfl : at_ = 0 := by omega
      clear h5
      go_wp2_with fail
      refine (l1In_any 0 0 255 _).mono ?_
      rintro e w' ⟨rfl, rfl⟩
      by_cases h7 : ¬ ep = 0
      · have HV : Hid (opOk ⟨5, nm, ot, 0, va, ep⟩ = false) := by simp [Hid, opOk, inB, kOther, kAt, kEpoch, kSize, valOk, h7]
        have hq : (ep != 0) = true := by rw [bne_iff_ne]; exact h7
        go_wp2_with fail
        go_ret
        exact ⟨ret_bool HV.out.symm, d0⟩
      obtain rfl : ep = 0 := by omega
      clear h7
      go_wp2_with fail
      refine (l1In_any 0 0 1000 _).mono ?_
      rintro e w' ⟨rfl, rfl⟩
      have HV : Hid (opOk ⟨5, nm, ot, 0, va, 0⟩ = decide (va = 0)) := by simp [Hid, opOk, inB, kOther, kAt, kEpoch, kSize, valOk, H1.out, H4.out, h3e]
      go_wp2_with fail
      go_ret
      exact ⟨ret_bool HV.out.symm, d0⟩
    · have h3' : ot.size = 0 := of_decide_eq_true h3
      have HV : Hid (opOk ⟨5, nm, ot, at_, va, ep⟩ = false) := by simp [Hid, opOk, inB, kOther, kAt, kEpoch, kSize, valOk, h3']
      have e1 : ot.toList = [] := e0.2 h3'
      have e2 : ot.toList.isEmpty = true := List.isEmpty_iff.2 e1
      clear e0
      go_wp2_with fail
      go_ret
      exact ⟨ret_bool HV.out.symm, d0⟩
  · cases h3 : decide (ot.size = 0)
    · have h3' : ¬ ot.size = 0 := of_decide_eq_false h3
      have HV : Hid (opOk ⟨6, nm, ot, at_, va, ep⟩ = false) := by simp [Hid, opOk, inB, kOther, kAt, kEpoch, kSize, valOk, h3']
      have e1 : ¬ ot.toList = [] := fun h => h3' (e0.1 h)
      clear e0
      go_wp2_with fail
      go_ret
      exact ⟨ret_bool HV.out.symm, d0⟩
    · have h3' : ot.size = 0 := of_decide_eq_true h3
      have e1 : ot.toList = [] := e0.2 h3'
      clear e0
      by_cases h5 : ¬ at_ = 0
      · have HV : Hid (opOk ⟨6, nm, ot, at_, va, ep⟩ = false) := by simp [Hid, opOk, inB, kOther, kAt, kEpoch, kSize, valOk, h5]
        have hq : (at_ != 0) = true := by rw [bne_iff_ne]; exact h5
        go_wp2_with fail
        go_ret
        exact ⟨ret_bool HV.out.symm, d0⟩
      obtain rfl : at_ = 0 := by omega
      clear h5
      go_wp2_with fail
      refine (l1In_any 0 0 255 _).mono ?_
      rintro e w' ⟨rfl, rfl⟩
      go_wp2_with fail
      refine (l1In_any ep 0 1000 _).mono ?_
      rintro e w' ⟨rfl, rfl⟩
      cases h8 : (decide ((0 : Int) ≤ ep) && decide (ep ≤ 1000))
      · have HV : Hid (opOk ⟨6, nm, ot, 0, va, ep⟩ = false) := by simp [Hid, opOk, inB, kOther, kAt, kEpoch, kSize, valOk, h8]
        clear h8
        go_wp2_with fail
        go_ret
        exact ⟨ret_bool HV.out.symm, d0⟩
      have H8 : Hid _ := h8
      clear h8
      have HV : Hid (opOk ⟨6, nm, ot, 0, va, ep⟩ = decide (va = 0)) := by simp [Hid, opOk, inB, kOther, kAt, kEpoch, kSize, valOk, H1.out, h3', H8.out]
      go_wp2_with fail
      go_ret
      exact ⟨ret_bool HV.out.symm, d0⟩
  · cases h3 : decide (ot.size = 0)
    · have h3' : ¬ ot.size = 0 := of_decide_eq_false h3
      have HV : Hid (opOk ⟨7, nm, ot, at_, va, ep⟩ = false) := by simp [Hid, opOk, inB, kOther, kAt, kEpoch, kSize, valOk, h3']
      have e1 : ¬ ot.toList = [] := fun h => h3' (e0.1 h)
      clear e0
      go_wp2_with fail
      go_ret
      exact ⟨ret_bool HV.out.symm, d0⟩
    · have h3' : ot.size = 0 := of_decide_eq_true h3
      have e1 : ot.toList = [] := e0.2 h3'
      clear e0
      by_cases h5 : ¬ at_ = 0
      · have HV : Hid (opOk ⟨7, nm, ot, at_, va, ep⟩ = false) := by simp [Hid, opOk, inB, kOther, kAt, kEpoch, kSize, valOk, h5]
        have hq : (at_ != 0) = true := by rw [bne_iff_ne]; exact h5
        go_wp2_with fail
        go_ret
        exact ⟨ret_bool HV.out.symm, d0⟩
      obtain rfl : at_ = 0 := by omega
      clear h5
      go_wp2_with fail
      refine (l1In_any 0 0 255 _).mono ?_
      rintro e w' ⟨rfl, rfl⟩
      go_wp2_with fail
      refine (l1In_any ep 0 1000 _).mono ?_
      rintro e w' ⟨rfl, rfl⟩
      cases h8 : (decide ((0 : Int) ≤ ep) && decide (ep ≤ 1000))
      · have HV : Hid (opOk ⟨7, nm, ot, 0, va, ep⟩ = false) := by simp [Hid, opOk, inB, kOther, kAt, kEpoch, kSize, valOk, h8]
        clear h8
        go_wp2_with fail
        go_ret
        exact ⟨ret_bool HV.out.symm, d0⟩
      have H8 : Hid _ := h8
      clear h8
      have HV : Hid (opOk ⟨7, nm, ot, 0, va, ep⟩ = (decide ((1 : Int) ≤ va) && decide (va ≤ 16))) := by simp [Hid, opOk, inB, kOther, kAt, kEpoch, kSize, valOk, H1.out, h3', H8.out]
      go_wp2_with fail
      refine (l1In_any va 1 16 _).mono ?_
      rintro e w' ⟨rfl, rfl⟩
      go_wp2_with fail
      go_ret
      exact ⟨ret_bool HV.out.symm, d0⟩
  · cases h3 : decide (ot.size = 0)
    · have h3' : ¬ ot.size = 0 := of_decide_eq_false h3
      have HV : Hid (opOk ⟨8, nm, ot, at_, va, ep⟩ = false) := by simp [Hid, opOk, inB, kOther, kAt, kEpoch, kSize, valOk, h3']
      have e1 : ¬ ot.toList = [] := fun h => h3' (e0.1 h)
      clear e0
      go_wp2_with fail
      go_ret
      exact ⟨ret_bool HV.out.symm, d0⟩
    · have h3' : ot.size = 0 := of_decide_eq_true h3
      have e1 : ot.toList = [] := e0.2 h3'
      clear e0
      by_cases h5 : ¬ at_ = 0
      · have HV : Hid (opOk ⟨8, nm, ot, at_, va, ep⟩ = false) := by simp [Hid, opOk, inB, kOther, kAt, kEpoch, kSize, valOk, h5]
        have hq : (at_ != 0) = true := by rw [bne_iff_ne]; exact h5
        go_wp2_with fail
        go_ret
        exact ⟨ret_bool HV.out.symm, d0⟩
      obtain rfl : at_ = 0 := by omega
      clear h5
      go_wp2_with fail
      refine (l1In_any 0 0 255 _).mono ?_
      rintro e w' ⟨rfl, rfl⟩
      by_cases h7 : ¬ ep = 0
      · have HV : Hid (opOk ⟨8, nm, ot, 0, va, ep⟩ = false) := by simp [Hid, opOk, inB, kOther, kAt, kEpoch, kSize, valOk, h7]
        have hq : (ep != 0) = true := by rw [bne_iff_ne]; exact h7
        go_wp2_with fail
        go_ret
        exact ⟨ret_bool HV.out.symm, d0⟩
      obtain rfl : ep = 0 := by omega
      clear h7
      go_wp2_with fail
      refine (l1In_any 0 0 1000 _).mono ?_
      rintro e w' ⟨rfl, rfl⟩
      have HV : Hid (opOk ⟨8, nm, ot, 0, va, 0⟩ = decide (va = 0)) := by simp [Hid, opOk, inB, kOther, kAt, kEpoch, kSize, valOk, H1.out, h3']
      go_wp2_with fail
      go_ret
      exact ⟨ret_bool HV.out.symm, d0⟩
  · cases h3 : decide (ot.size = 0)
    · have h3' : ¬ ot.size = 0 := of_decide_eq_false h3
      have HV : Hid (opOk ⟨9, nm, ot, at_, va, ep⟩ = false) := by simp [Hid, opOk, inB, kOther, kAt, kEpoch, kSize, valOk, h3']
      have e1 : ¬ ot.toList = [] := fun h => h3' (e0.1 h)
      clear e0
      go_wp2_with fail
      go_ret
      exact ⟨ret_bool HV.out.symm, d0⟩
    · have h3' : ot.size = 0 := of_decide_eq_true h3
      have e1 : ot.toList = [] := e0.2 h3'
      clear e0
      go_wp2_with fail
      refine (l1In_any at_ 0 255 _).mono ?_
      rintro e w' ⟨rfl, rfl⟩
      cases h6 : (decide ((0 : Int) ≤ at_) && decide (at_ ≤ 255))
      · have HV : Hid (opOk ⟨9, nm, ot, at_, va, ep⟩ = false) := by simp [Hid, opOk, inB, kOther, kAt, kEpoch, kSize, valOk, h6]
        clear h6
        go_wp2_with fail
        go_ret
        exact ⟨ret_bool HV.out.symm, d0⟩
      have H6 : Hid _ := h6
      clear h6
      by_cases h7 : ¬ ep = 0
      · have HV : Hid (opOk ⟨9, nm, ot, at_, va, ep⟩ = false) := by simp [Hid, opOk, inB, kOther, kAt, kEpoch, kSize, valOk, h7]
        have hq : (ep != 0) = true := by rw [bne_iff_ne]; exact h7
        go_wp2_with fail
        go_ret
        exact ⟨ret_bool HV.out.symm, d0⟩
      obtain rfl : ep = 0 := by omega
      clear h7
      go_wp2_with fail
      refine (l1In_any 0 0 1000 _).mono ?_
      rintro e w' ⟨rfl, rfl⟩
      have HV : Hid (opOk ⟨9, nm, ot, at_, va, 0⟩ = decide (va = 0)) := by simp [Hid, opOk, inB, kOther, kAt, kEpoch, kSize, valOk, H1.out, h3', H6.out]
      go_wp2_with fail
      go_ret
      exact ⟨ret_bool HV.out.symm, d0⟩

def changes (o : Oq) : Bool := opOk o && decide (o.k ≠ 9)

theorem specChanges_any (k : Int) (nm ot : ByteArray) (at_ va ep : Int) (w : World) (hn : nm.size ≤ maxLen) (ho : ot.size ≤ maxLen) :
    Calls Tryz.prog 125 #[.agg #[.int .i64 k, .string nm, .string ot, .int .i64 at_, .int .i64 va, .int .i64 ep]] w fun e w' => e = .returned (.bool (changes ⟨k, nm, ot, at_, va, ep⟩)) ∧ Below w.heap.size w w' := by
  obtain ⟨W0, hW0, k0, d0, z0⟩ := box1 w #[.int .i64 k, .string nm, .string ot, .int .i64 at_, .int .i64 va, .int .i64 ep] 89
  have HW0 : Hid (W0 = _) := hW0
  clear hW0
  go_enter Tryz.func125, Tryz.ntmps125
  go_wp2_with fail
  rw [← HW0.out]
  clear HW0
  refine (specOpOk_any k nm ot at_ va ep _ hn ho).mono ?_
  rintro e w1 ⟨rfl, b1⟩
  replace k0 := (b1.block _ (by omega)).trans k0
  replace d0 := bw_call d0 b1
  have p0 := at_cell k0 0
  have HC : Hid (changes ⟨k, nm, ot, at_, va, ep⟩ = (opOk ⟨k, nm, ot, at_, va, ep⟩ && decide (k ≠ 9))) := rfl
  have hd : (k != 9) = decide (k ≠ 9) := by rw [Bool.eq_iff_iff]; simp
  generalize opOk ⟨k, nm, ot, at_, va, ep⟩ = q at HC ⊢
  clear k0 b1
  cases q
  · go_wp2_with fail
    go_ret
    exact ⟨ret_bool (by rw [HC.out]; rfl), d0⟩
  · go_wp2_with fail
    go_ret
    exact ⟨ret_bool (by rw [HC.out]; simp), d0⟩
end Go.Proofs.YtibhepekmihagaaGreatDoor

namespace Go.Proofs.YtibhepekmihagaaGreatDoor
set_option linter.unusedVariables false

set_option maxRecDepth 100000


structure Ent where
  sq : Int
  cl : Int
  tg : Int
  o : Oq

def Ent.zero : Ent := ⟨0, 0, 0, Oq.zero⟩

/-- An entry's nine cells. -/
def entC (e : Ent) : List Value := [.int .i64 e.sq, .int .i64 e.cl, .int .i64 e.tg, .int .i64 e.o.k, .string e.o.nm, .string e.o.ot, .int .i64 e.o.at_, .int .i64 e.o.va, .int .i64 e.o.ep]

theorem entC_len (e : Ent) : (entC e).length = 9 := rfl

def entOk (e : Ent) : Bool := inB e.sq 1 1000 && inB e.tg 1 1000 && inB e.cl 0 3 && changes e.o

def stepOk (n : Nat) (t : List Int) (e : Ent) : Bool := entOk e && decide (e.sq = (n : Int) + 1) && decide (t.getD e.cl.toNat 0 < e.tg)

def inOrd : Nat → List Int → List Ent → Nat
  | n, _, [] => n
  | n, t, e :: es => if stepOk n t e = true then inOrd (n + 1) (t.set e.cl.toNat e.tg) es else n

def tags0 : List Int := [0, 0, 0, 0]

def logOk (l : List Ent) : Bool := decide (l.length ≤ 120) && decide (inOrd 0 tags0 l = l.length)

def oqEq (x y : Oq) : Bool := decide (x.k = y.k) && decide (x.nm = y.nm) && decide (x.ot = y.ot) && decide (x.at_ = y.at_) && decide (x.va = y.va) && decide (x.ep = y.ep)

def entEq (x y : Ent) : Bool := decide (x.sq = y.sq) && decide (x.cl = y.cl) && decide (x.tg = y.tg) && oqEq x.o y.o

def begs : List Ent → List Ent → Bool
  | [], _ => true
  | _ :: _, [] => false
  | x :: xs, y :: ys => entEq x y && begs xs ys

def begins (a b : List Ent) : Bool := logOk a && logOk b && begs a b

theorem inOrd_yes {l : List Ent} {k : Nat} {t : List Int} (hk : k < l.length) (h : stepOk k t l[k] = true) : inOrd k t (l.drop k) = inOrd (k + 1) (t.set l[k].cl.toNat l[k].tg) (l.drop (k + 1)) := by
  rw [List.drop_eq_getElem_cons hk, inOrd, if_pos h]

theorem inOrd_no {l : List Ent} {k : Nat} {t : List Int} (hk : k < l.length) (h : stepOk k t l[k] = false) : inOrd k t (l.drop k) = k := by
  rw [List.drop_eq_getElem_cons hk, inOrd, if_neg (by rw [h]; decide)]

theorem inOrd_end {l : List Ent} {k : Nat} {t : List Int} (hk : ¬ k < l.length) : inOrd k t (l.drop k) = k := by
  rw [List.drop_of_length_le (by omega), inOrd]

theorem inOrd_le : ∀ (l : List Ent) (k : Nat) (t : List Int), k ≤ inOrd k t l ∧ inOrd k t l ≤ k + l.length
  | [], k, t => by simp [inOrd]
  | e :: es, k, t => by
    unfold inOrd
    split
    · have := inOrd_le es (k + 1) (t.set e.cl.toNat e.tg)
      simp only [List.length_cons]
      omega
    · simp

theorem entOk_bd {e : Ent} (h : entOk e = true) : (1 ≤ e.sq ∧ e.sq ≤ 1000) ∧ (1 ≤ e.tg ∧ e.tg ≤ 1000) ∧ (0 ≤ e.cl ∧ e.cl ≤ 3) ∧ changes e.o = true := by
  simp only [entOk, Bool.and_eq_true, inB_iff] at h
  exact ⟨h.1.1.1, h.1.1.2, h.1.2, h.2⟩
end Go.Proofs.YtibhepekmihagaaGreatDoor

namespace Go.Proofs.YtibhepekmihagaaGreatDoor
open Nums

set_option linter.unusedVariables false

set_option maxRecDepth 100000


def repOk (c v : Int) : Bool := inB c 0 9 && inB v 0 1000 && (decide (c = 0) || decide (v = 0))
end Go.Proofs.YtibhepekmihagaaGreatDoor

