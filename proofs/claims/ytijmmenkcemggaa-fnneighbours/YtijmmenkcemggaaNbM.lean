/-
  Chapter 14, plain: next and previous are one another's.
-/
import Derived.Test.YtijmmenkcemggaaVwM
import Derived.WalkKit
namespace Go.Proofs.Ytijmmenkcemggaa
open Nums
set_option linter.unusedVariables false
set_option maxRecDepth 100000

theorem nb_next {n : Int} {ms : List Int} {h N : Int} (e : nextOf n ms h = N) (hN : 0 ≤ N) : prevOf n ms N = h := by
  by_cases hc : viewOk n ms = true ∧ 0 ≤ vAt ms h
  · obtain ⟨hv, ha⟩ := hc
    obtain ⟨i, hi, q1, q2⟩ := vAt_mem (show h ∈ ms from Classical.byContradiction (fun q => by have := vAt_neg.2 q; omega))
    have hr := (next_at hv i hi).1
    rw [q2, e] at hr
    by_cases hl : i + 1 < ms.length
    · rw [dif_pos hl] at hr
      have h2 := (next_at hv (i + 1) hl).2
      rw [← hr, if_pos (by omega)] at h2
      rw [h2]
      simpa using q2
    · rw [dif_neg hl] at hr
      omega
  · rw [nextOf, if_neg hc] at e
    omega
theorem nb_prev {n : Int} {ms : List Int} {h R : Int} (e : prevOf n ms h = R) (hR : 0 ≤ R) : nextOf n ms R = h := by
  by_cases hc : viewOk n ms = true ∧ 0 ≤ vAt ms h
  · obtain ⟨hv, ha⟩ := hc
    obtain ⟨i, hi, q1, q2⟩ := vAt_mem (show h ∈ ms from Classical.byContradiction (fun q => by have := vAt_neg.2 q; omega))
    have hr := (next_at hv i hi).2
    rw [q2, e] at hr
    by_cases hl : 0 < i
    · rw [if_pos hl] at hr
      have h2 := (next_at hv (i - 1) (by omega)).1
      rw [← hr, dif_pos (by omega)] at h2
      rw [h2, ← q2]
      congr 1
      omega
    · rw [if_neg hl] at hr
      omega
  · rw [prevOf, if_neg hc] at e
    omega
theorem nb_bad {n : Int} {ms : List Int} (h : Int) (hv : viewOk n ms = false) : nextOf n ms h = -1 ∧ prevOf n ms h = -1 ∧ headOf n ms = -1 :=
  ⟨(next_none (.inl hv)).1, (next_none (.inl hv)).2, by rw [headOf, if_neg (by rw [hv]; decide)]⟩
theorem nb_head {n : Int} {ms : List Int} (hv : viewOk n ms = true) : headOf n ms = ms.getD 0 (-1) ∧ tailOf n ms = ms.getD (ms.length - 1) 0 := by
  have hl := (viewOk_parts hv).2.2.2.1
  refine ⟨?_, by rw [tailOf, if_pos hv]⟩
  rw [headOf, if_pos hv, List.getD_eq_getElem?_getD, List.getD_eq_getElem?_getD, List.getElem?_eq_getElem (by omega)]
  rfl
theorem nb_step {n : Int} {ms : List Int} (hv : viewOk n ms = true) (k : Nat) (hk : k < ms.length) : nextOf n ms (ms.getD k (-1)) = ms.getD (k + 1) (-1) ∧ 0 ≤ ms.getD k (-1) ∧ ms.take (k + 1) = ms.take k ++ [ms.getD k (-1)] := by
  have e : ms.getD k (-1) = ms[k] := by rw [List.getD_eq_getElem?_getD, List.getElem?_eq_getElem hk]; rfl
  rw [e]
  refine ⟨?_, ((viewOk_parts hv).1 _ (List.getElem_mem hk)).1, List.take_succ_eq_append_getElem hk⟩
  rw [(next_at hv k hk).1, List.getD_eq_getElem?_getD]
  by_cases h : k + 1 < ms.length
  · rw [dif_pos h, List.getElem?_eq_getElem h]; rfl
  · rw [dif_neg h, List.getElem?_eq_none (by omega)]; rfl
theorem nb_end {ms : List Int} (k : Nat) (hk : ¬ k < ms.length) : ms.getD k (-1) = -1 := by
  rw [List.getD_eq_getElem?_getD, List.getElem?_eq_none (by omega)]; rfl
theorem nb_front {ms : List Int} (k : Nat) (hk : k < ms.length) : ms.getD (ms.length - 1) 0 = ms[ms.length - 1]'(by omega) := by
  rw [List.getD_eq_getElem?_getD, List.getElem?_eq_getElem (by omega)]; rfl
/-- How long a slice's value is. -/
def lenOfV : Value → Nat
  | .slice _ n _ => n
  | _ => 0

end Go.Proofs.Ytijmmenkcemggaa
