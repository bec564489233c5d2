/-
  Pieces one behind the other, and one more.
-/
import Derived.Test.YtbjkbhchcoabcaaFedL
namespace Go.Proofs.Ytbjkbhchcoabcaa
theorem joined_snoc (xs : List ByteArray) (x : ByteArray) : joined (xs ++ [x]) = joined xs ++ x := by
  induction xs with
  | nil => simp only [List.nil_append, joined]; exact Fr.ba_ext (by simp)
  | cons y ys ih => simp only [List.cons_append, joined, ih]; exact Fr.ba_ext (by simp)
end Go.Proofs.Ytbjkbhchcoabcaa
