/-
  Chapter 14: the specification's HeadOf, TailOf, NextOf, PrevOf, at every argument.
-/
import Derived.Test.YtghhphhnalfjaaaVw1
namespace Go.Proofs.Ytghhphhnalfjaaa
open Go.RowKit Nums
set_option linter.unusedVariables false
set_option maxRecDepth 100000

theorem headOf_no {n : Int} {ms : List Int} (h : viewOk n ms = false) : headOf n ms = -1 ∧ tailOf n ms = -1 := ⟨by rw [headOf, if_neg (by rw [h]; decide)], by rw [tailOf, if_neg (by rw [h]; decide)]⟩
theorem headOf_yes {n : Int} {ms : List Int} (h : viewOk n ms = true) : ∃ hl : 0 < ms.length, headOf n ms = ms[0] ∧ tailOf n ms = ms[ms.length - 1] := by
  have hl : 0 < ms.length := by have := (viewOk_parts h).2.2.2.1; omega
  refine ⟨hl, ?_, ?_⟩
  · rw [headOf, if_pos h, List.getD_eq_getElem?_getD, List.getElem?_eq_getElem hl]; rfl
  · rw [tailOf, if_pos h, List.getD_eq_getElem?_getD, List.getElem?_eq_getElem (show ms.length - 1 < ms.length by omega)]; rfl

theorem vAt_bd (ms : List Int) (h : Int) : -1 ≤ vAt ms h ∧ vAt ms h < ms.length := by
  rcases vAt_range ms h with ⟨q, -⟩ | ⟨i, hi, q, -⟩ <;> omega

theorem nextOf_no {n : Int} {ms : List Int} {h : Int} (q : viewOk n ms = false ∨ vAt ms h < 0) : nextOf n ms h = -1 := by
  rw [nextOf, if_neg]
  rintro ⟨q1, q2⟩
  rcases q with q | q
  · rw [q] at q1; cases q1
  · omega
theorem nextOf_yes {n : Int} {ms : List Int} {h : Int} (q1 : viewOk n ms = true) (q2 : 0 ≤ vAt ms h) : nextOf n ms h = vMem ms (vAt ms h + 1) := by rw [nextOf, if_pos ⟨q1, q2⟩]

theorem prevOf_no {n : Int} {ms : List Int} {h : Int} (q : viewOk n ms = false ∨ vAt ms h < 0) : prevOf n ms h = -1 := by
  rw [prevOf, if_neg]
  rintro ⟨q1, q2⟩
  rcases q with q | q
  · rw [q] at q1; cases q1
  · omega
theorem prevOf_yes {n : Int} {ms : List Int} {h : Int} (q1 : viewOk n ms = true) (q2 : 0 ≤ vAt ms h) : prevOf n ms h = vMem ms (vAt ms h - 1) := by rw [prevOf, if_pos ⟨q1, q2⟩]

end Go.Proofs.Ytghhphhnalfjaaa
