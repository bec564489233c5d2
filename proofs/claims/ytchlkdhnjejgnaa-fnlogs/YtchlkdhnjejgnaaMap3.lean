/-
  Chapter 5: the specification's PageOf, Mapped, Below, PagesOf, at every argument.
-/
import Derived.Test.YtchlkdhnjejgnaaMap2
namespace Go.Proofs.Ytchlkdhnjejgnaa
open Go.RowKit
set_option linter.unusedVariables false
set_option maxRecDepth 100000

def pageOf (rs : List (Int × Int × Int)) (place : Int) : Int := if mapOk rs = true ∧ 0 ≤ place ∧ place ≤ 15 then (pages rs).getD place.toNat 0 else -1
def mapped (rs : List (Int × Int × Int)) (place page : Int) : List (Int × Int × Int) × Bool :=
  if mapOk rs = true then (if (0 ≤ place ∧ place ≤ 15) ∧ -1 ≤ page ∧ page ≤ 23 then (mapOf ((pages rs).set place.toNat page), true) else (rs, false)) else ([], false)
def cutAt (l : List Int) (n : Int) : List Int := (List.range 16).map fun k : Nat => if (k : Int) < n then l.getD k 0 else -1
def belowM (rs : List (Int × Int × Int)) (size : Int) : List (Int × Int × Int) := if mapOk rs = true then mapOf (cutAt (pages rs) size) else []
def pagesOf (rs : List (Int × Int × Int)) : List Int := if mapOk rs = true then (pages rs).filter (fun p => decide (0 ≤ p)) else []

theorem getD_set16 (l : List Int) (k j : Nat) (x : Int) (h : k < l.length) : (l.set k x).getD j 0 = if k = j then x else l.getD j 0 := by
  rw [List.getD_eq_getElem?_getD, List.getElem?_set, List.getD_eq_getElem?_getD]
  by_cases e : k = j
  · subst e; simp [h]
  · simp [e]
theorem set_range (rs : List (Int × Int × Int)) (h : mapOk rs = true) (k : Nat) (hk : k < 16) (page : Int) (hp : -1 ≤ page ∧ page ≤ 23) : ∀ j, j < 16 → -1 ≤ ((pages rs).set k page).getD j 0 ∧ ((pages rs).set k page).getD j 0 ≤ 23 := fun j hj => by
  rw [getD_set16 _ _ _ _ (by rw [pages_length]; exact hk)]
  by_cases e : k = j
  · rw [if_pos e]; exact hp
  · rw [if_neg e]; exact pages_range rs h j hj

/-- A row of no runs, at the end of memory. -/
theorem own_none (w : World) : (w.alloc (.cells #[] 102)).ownsRow w.heap.size 102 3 (.slice (some ⟨w.heap.size, 0, none⟩) 0 0) 0 [] := World.ownsRow_lit w #[] 0 (Nat.le_refl _) (Nat.zero_le _) rfl

end Go.Proofs.Ytchlkdhnjejgnaa
