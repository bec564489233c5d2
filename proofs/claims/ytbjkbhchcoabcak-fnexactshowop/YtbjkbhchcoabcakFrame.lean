/-
  The contracts of the specification's Framed, FrameAt.
-/
import Derived.Test.YtbjkbhchcoabcakChap1
import Derived.Test.YtbjkbhchcoabcakFrameM
import Derived.Test.YtbjkbhchcoabcakWorlds
namespace Go.Proofs.Ytbjkbhchcoabcak
open Go.RowKit
set_option linter.unusedVariables false
set_option maxRecDepth 100000

theorem ret_two {a b : Value} {c d : Value} (h1 : a = c) (h2 : b = d) : Ending.returned (.tuple #[a, b]) = .returned (.tuple #[c, d]) := by rw [h1, h2]
theorem below_drewN (w : World) (n : Nat) : Below w.heap.size w (w.drewN n) := ⟨rfl, rfl, rfl, Nat.le_refl _, fun _ _ => rfl⟩

end Go.Proofs.Ytbjkbhchcoabcak
