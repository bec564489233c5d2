/-
  Chapter 14: the specification's l14Without where it goes, Without, Joined, at every argument.
-/
import Derived.Test.YtghhphhnalfjaaaVw3
namespace Go.Proofs.Ytghhphhnalfjaaa
open Go.RowKit Nums
set_option linter.unusedVariables false
set_option maxRecDepth 100000

theorem ints_one (xs : List Int) : ∀ u ∈ xs.map (Value.int .i64), u.oneCell' = true := fun u hu => by
  obtain ⟨a, _, rfl⟩ := List.mem_map.1 hu
  rfl
theorem cells_part {w : World} {g B : Nat} {ms : List Int} (c : CellsI B w (some ⟨g, 0, none⟩) ms) (i m : Nat) (h : i + m ≤ ms.length) : ∀ j u, (((ms.drop i).take m).map (Value.int .i64))[j]? = some u → ∃ g' off, some (⟨g, i, none⟩ : Addr) = some ⟨g', off, none⟩ ∧ g' < B ∧ w.cell? ⟨g', off + j, none⟩ = some u := fun j u hj => by
  rw [List.getElem?_map, Option.map_eq_some_iff] at hj
  obtain ⟨x, hx, rfl⟩ := hj
  obtain ⟨hlt, hx⟩ := List.getElem?_eq_some_iff.1 hx
  rw [List.getElem_take, List.getElem_drop] at hx
  rw [List.length_take, List.length_drop] at hlt
  obtain ⟨g', off, e, hg, hc⟩ := c (i + j) (by omega)
  cases e
  exact ⟨g, i, rfl, hg, by rw [← hx, ← hc, Nat.zero_add]⟩
theorem cellsI_below {B : Nat} {w w' : World} {o : Option Addr} {ms : List Int} (c : CellsI B w o ms) (b : Below B w w') : CellsI B w' o ms := fun j hj => by
  obtain ⟨g, off, e, hg, hx⟩ := c j hj
  exact ⟨g, off, e, hg, (b.cell (p := ⟨g, off + j, none⟩) hg).trans hx⟩

/-- The members without the i-th. -/
def lessV (ms : List Int) (i : Nat) : List Int := ms.take i ++ ms.drop (i + 1)
theorem lessV_length {ms : List Int} {i : Nat} (h : i < ms.length) : (lessV ms i).length = ms.length - 1 := by simp [lessV]; omega
theorem withoutV_go {n : Int} {ms : List Int} {h : Int} (hv : viewOk n ms = true) (hg : goes n ms h) : withoutV n ms h = ((n + 1, lessV ms (vAt ms h).toNat), true) := by rw [withoutV, if_pos hv, if_pos hg]; rfl

end Go.Proofs.Ytghhphhnalfjaaa
