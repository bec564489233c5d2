/-
  Contracts and plain laws, one chapter behind the other.
-/
import Derived.Deep.RegionLaw
import Derived.Deep.DeepCutAuto
import Derived.Test.YtgabhnhfomekfaaM03
import Derived.Test.YtgabhnhfomekfaaM05
import Derived.Test.YtgabhnhfomekfaaM06
import Derived.Test.YtgabhnhfomekfaaM07
import Derived.Test.YtgabhnhfomekfaaM08
import Derived.Test.YtgabhnhfomekfaaM10
namespace Go.Proofs.Ytgabhnhfomekfaa
open Go.RowKit

set_option linter.unusedVariables false

set_option maxRecDepth 100000

theorem getD_set16 (l : List Int) (k j : Nat) (x : Int) (h : k < l.length) : (l.set k x).getD j 0 = if k = j then x else l.getD j 0 := by
  rw [List.getD_eq_getElem?_getD, List.getElem?_set, List.getD_eq_getElem?_getD]
  by_cases e : k = j
  · subst e; simp [h]
  · simp [e]
end Go.Proofs.Ytgabhnhfomekfaa

namespace Go.Proofs.Ytgabhnhfomekfaa
open Go.RowKit

set_option linter.unusedVariables false

set_option maxRecDepth 100000

/-- Pages that may be drawn. -/
def PagesIn (l : List Int) : Prop := l.length = 16 ∧ ∀ j, j < 16 → -1 ≤ l.getD j 0 ∧ l.getD j 0 ≤ 23

theorem PagesIn.set {l : List Int} (h : PagesIn l) (k : Nat) (hk : k < 16) (p : Int) (hp : -1 ≤ p ∧ p ≤ 23) : PagesIn (l.set k p) := by
  refine ⟨by rw [List.length_set]; exact h.1, fun j hj => ?_⟩
  rw [getD_set16 _ _ _ _ (by rw [h.1]; exact hk)]
  by_cases e : k = j
  · rw [if_pos e]; exact hp
  · rw [if_neg e]; exact h.2 j hj

theorem PagesIn.none : PagesIn none16 := ⟨rfl, fun j hj => by rw [none16_at j hj]; omega⟩
end Go.Proofs.Ytgabhnhfomekfaa

