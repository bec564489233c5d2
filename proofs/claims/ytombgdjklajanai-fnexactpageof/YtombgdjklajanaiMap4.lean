/-
  Chapter 5: the specification's Below and PagesOf, at every argument.
-/
import Derived.Test.YtombgdjklajanaiMap3
import Derived.Test.YtombgdjklajanaiRows5
namespace Go.Proofs.Ytombgdjklajanai
open Go.RowKit
set_option linter.unusedVariables false

/-- Places from s up to k have none. -/
def cutMid (l : List Int) (s k : Nat) : List Int := (List.range 16).map fun j : Nat => if s ≤ j ∧ j < k then -1 else l.getD j 0
theorem cutMid_length (l : List Int) (s k : Nat) : (cutMid l s k).length = 16 := by simp [cutMid]
theorem cutMid_get (l : List Int) (s k j : Nat) (hj : j < 16) : (cutMid l s k).getD j 0 = if s ≤ j ∧ j < k then -1 else l.getD j 0 := by
  rw [List.getD_eq_getElem?_getD, cutMid, List.getElem?_map, List.getElem?_range hj]; rfl
theorem cutMid_start (l : List Int) (s : Nat) (hl : l.length = 16) : cutMid l s s = l :=
  ext16 _ _ (cutMid_length _ _ _) hl fun j hj => by rw [cutMid_get l s s j hj, if_neg (by omega)]
theorem cutMid_step (l : List Int) (s k : Nat) (h : s ≤ k) (hk : k < 16) : (cutMid l s k).set k (-1) = cutMid l s (k + 1) :=
  ext16 _ _ (by rw [List.length_set, cutMid_length]) (cutMid_length _ _ _) fun j hj => by
    rw [getD_set16 _ _ _ _ (by rw [cutMid_length]; exact hk), cutMid_get l s k j hj, cutMid_get l s (k + 1) j hj]
    by_cases e : k = j
    · rw [if_pos e, if_pos (by omega)]
    · rw [if_neg e]
      by_cases q : s ≤ j ∧ j < k
      · rw [if_pos q, if_pos (by omega)]
      · rw [if_neg q, if_neg (by omega)]
theorem cutAt_length (l : List Int) (n : Int) : (cutAt l n).length = 16 := by simp [cutAt]
theorem cutAt_get (l : List Int) (n : Int) (j : Nat) (hj : j < 16) : (cutAt l n).getD j 0 = if (j : Int) < n then l.getD j 0 else -1 := by
  rw [List.getD_eq_getElem?_getD, cutAt, List.getElem?_map, List.getElem?_range hj]; rfl
theorem cutMid_end (l : List Int) (n : Int) (s k : Nat) (hs : (s : Int) = max 0 n) (hk : 16 ≤ k) : cutMid l s k = cutAt l n :=
  ext16 _ _ (cutMid_length _ _ _) (cutAt_length _ _) fun j hj => by
    rw [cutMid_get l s k j hj, cutAt_get l n j hj]
    by_cases e : (j : Int) < n
    · rw [if_pos e, if_neg (by omega)]
    · rw [if_neg e, if_pos (by omega)]
theorem cutAt_range (rs : List (Int × Int × Int)) (h : mapOk rs = true) (n : Int) : ∀ j, j < 16 → -1 ≤ (cutAt (pages rs) n).getD j 0 ∧ (cutAt (pages rs) n).getD j 0 ≤ 23 := fun j hj => by
  rw [cutAt_get _ _ _ hj]
  by_cases e : (j : Int) < n
  · rw [if_pos e]; exact pages_range rs h j hj
  · rw [if_neg e]; omega

theorem filter_take (l : List Int) (k : Nat) (h : k < l.length) : (l.take (k + 1)).filter (fun p => decide (0 ≤ p)) = (l.take k).filter (fun p => decide (0 ≤ p)) ++ (if 0 ≤ l[k] then [l[k]] else []) := by
  rw [List.take_succ_eq_append_getElem h, List.filter_append]
  by_cases e : 0 ≤ l[k] <;> simp [e]

end Go.Proofs.Ytombgdjklajanai
