/-
  The laws' helpers on runs and rows of runs: copied, alike, marked, held.
-/
import Derived.Test.YtnncbikmapjlfaaRows4
import Derived.Test.YtnncbikmapjlfaaTexts
import Derived.Test.YtnncbikmapjlfaaBytes
import Derived.Laws.MakeOwn
namespace Go.Proofs.Ytnncbikmapjlfaa
open Go.RowKit
set_option linter.unusedVariables false
set_option maxRecDepth 100000

/-- A run's cells. -/
def runC (r : Int × Int × Int) : List Value := [.int .i64 r.1, .int .i64 r.2.1, .int .i64 r.2.2]
theorem runC_len (r : Int × Int × Int) : (runC r).length = 3 := rfl

theorem three_cells {B : Nat} {w : World} {o : Option Addr} {rs : List (Int × Int × Int)} (hc : ∀ i x, rs[i]? = some x → ∃ g off, o = some ⟨g, off, none⟩ ∧ g < B ∧ ∀ j u, (runC x)[j]? = some u → w.cell? ⟨g, off + i * 3 + j, none⟩ = some u) (i : Nat) (hi : i < rs.length) :
    ∃ g off, o = some ⟨g, off, none⟩ ∧ g < B ∧ w.cell? ⟨g, off + i * 3, none⟩ = some (.int .i64 rs[i].1) ∧ w.cell? ⟨g, off + i * 3 + 1, none⟩ = some (.int .i64 rs[i].2.1) ∧ w.cell? ⟨g, off + i * 3 + 2, none⟩ = some (.int .i64 rs[i].2.2) := by
  obtain ⟨g, off, e, hg, hx⟩ := hc i rs[i] (List.getElem?_eq_getElem hi)
  exact ⟨g, off, e, hg, hx 0 _ rfl, hx 1 _ rfl, hx 2 _ rfl⟩

def marksR (k : Int) (n : Nat) : List (Int × Int × Int) := (List.range n).map fun i : Nat => (k + 3 * (i : Int), k + 3 * (i : Int) + 1, k + 3 * (i : Int) + 1 + 1)
theorem marksR_length (k : Int) (n : Nat) : (marksR k n).length = n := by simp [marksR]
theorem marksR_get (k : Int) (n j : Nat) (h : j < (marksR k n).length) : (marksR k n)[j] = (k + 3 * (j : Int), k + 3 * (j : Int) + 1, k + 3 * (j : Int) + 1 + 1) := by simp [marksR]
theorem marksR_set (k : Int) (xs : List (Int × Int × Int)) (j : Nat) (h : j < xs.length) : (marksR k j ++ xs.drop j).set j (k + 3 * (j : Int), k + 3 * (j : Int) + 1, k + 3 * (j : Int) + 1 + 1) = marksR k (j + 1) ++ xs.drop (j + 1) := by
  have hl : (marksR k j).length = j := marksR_length k j
  have hs : marksR k (j + 1) = marksR k j ++ [(k + 3 * (j : Int), k + 3 * (j : Int) + 1, k + 3 * (j : Int) + 1 + 1)] := by simp [marksR, List.range_succ]
  rw [List.set_append_right _ _ (by omega), hl, Nat.sub_self, List.drop_eq_getElem_cons h, List.set_cons_zero, hs]
  exact (List.append_assoc _ [_] _).symm

end Go.Proofs.Ytnncbikmapjlfaa
