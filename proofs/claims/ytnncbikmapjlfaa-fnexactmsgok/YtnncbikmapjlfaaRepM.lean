/-
  Chapter 10, plain: a reply, its bytes, and what is read of bytes.
-/
import Derived.Test.YtnncbikmapjlfaaOpM
namespace Go.Proofs.Ytnncbikmapjlfaa
open Nums
set_option linter.unusedVariables false
set_option maxRecDepth 100000

def repOk (c v : Int) : Bool := inB c 0 9 && inB v 0 1000 && (decide (c = 0) || decide (v = 0))
def repShow (c v : Int) : ByteArray := showS c 1 ++ showS v 2
def showRep (c v : Int) : ByteArray := if repOk c v = true then repShow c v else ByteArray.empty
def readRep (s : ByteArray) : (Int × Int) × Bool :=
  if s.size = 3 ∧ repOk (readN s 0 1) (readN s 1 2) = true then ((readN s 0 1, readN s 1 2), true) else ((0, 0), false)

theorem repOk_bd (c v : Int) (h : repOk c v = true) : (0 ≤ c ∧ c ≤ 9) ∧ (0 ≤ v ∧ v ≤ 1000) := by
  simp only [repOk, Bool.and_eq_true, inB_iff] at h
  exact ⟨h.1.1, h.1.2⟩
theorem repShow_size (c v : Int) (h : repOk c v = true) : (repShow c v).size = 3 := by
  obtain ⟨hc, hv⟩ := repOk_bd c v h
  have l1 := showS_len _ _ (ok1 c (by omega))
  have l2 := showS_len _ _ (ok2 v (by omega))
  unfold repShow
  rw [app_size]
  omega
theorem showRep_size (c v : Int) : (showRep c v).size ≤ 3 := by
  unfold showRep
  split
  · rename_i h
    exact Nat.le_of_eq (repShow_size c v h)
  · exact Nat.zero_le _
theorem read_show_rep (c v : Int) (h : repOk c v = true) : readRep (repShow c v) = ((c, v), true) := by
  obtain ⟨hc, hv⟩ := repOk_bd c v h
  have k1 := ok1 c (by omega)
  have k2 := ok2 v (by omega)
  have l1 := showS_len _ _ k1
  have a1 := read_mid ByteArray.empty (showS v 2) c 1 k1
  have e1 : (ByteArray.empty ++ showS c 1) ++ showS v 2 = repShow c v := by
    unfold repShow
    simp only [ByteArray.empty_append]
  rw [e1] at a1
  have a1' : okRead (repShow c v) 0 1 = true ∧ readN (repShow c v) 0 1 = c := a1
  have a2 := read_mid (showS c 1) ByteArray.empty v 2 k2
  have e2 : (showS c 1 ++ showS v 2) ++ ByteArray.empty = repShow c v := by rw [ByteArray.append_empty]; rfl
  rw [e2, l1] at a2
  unfold readRep
  rw [a1'.2, a2.2, if_pos ⟨repShow_size c v h, h⟩]
theorem show_read_rep (s : ByteArray) (c v : Int) (h : readRep s = ((c, v), true)) : repShow c v = s ∧ repOk c v = true := by
  unfold readRep at h
  split at h
  · rename_i h1
    simp only [Prod.mk.injEq, and_true] at h
    obtain ⟨rfl, rfl⟩ := h
    refine ⟨?_, h1.2⟩
    have q0 := show_readN s 0 1 (by omega) (by omega) (by omega)
    have q1 := show_readN s 1 2 (by omega) (by omega) (by omega)
    have g0 : ((0 : Nat) : Int) = 0 := rfl
    have g1 : ((1 : Nat) : Int) = 1 := rfl
    have g2 : ((2 : Nat) : Int) = 2 := rfl
    rw [g0, g1] at q0
    rw [g1, g2] at q1
    unfold repShow
    rw [q0, q1, show 0 + 1 = 1 from rfl, show 1 + 2 = s.size by omega, ext_join s 0 1 _ (by omega) (by omega)]
    apply ext_list
    simp
  · simp at h
theorem read_rep_no (s : ByteArray) (c v : Int) (h : readRep s = ((c, v), false)) : c = 0 ∧ v = 0 := by
  unfold readRep at h
  split at h
  · simp at h
  · simp only [Prod.mk.injEq, and_true] at h
    exact ⟨h.1.symm, h.2.symm⟩
/-- As the program asks: the highest first. -/
theorem repOk_by (c v : Int) : repOk c v = (inB c 0 9 && inB v 0 (if c = 0 then 1000 else 0)) := by
  unfold repOk
  by_cases h : c = 0
  · rw [if_pos h]
    simp [h]
  · rw [if_neg h, Bool.eq_iff_iff]
    simp only [Bool.and_eq_true, inB_iff, Bool.or_eq_true, decide_eq_true_eq]
    omega

end Go.Proofs.Ytnncbikmapjlfaa
