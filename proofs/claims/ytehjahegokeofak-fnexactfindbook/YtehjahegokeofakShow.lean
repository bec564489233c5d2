/-
  The contracts of both ShowNumber: the bytes of the number, the highest first, where it goes in; else the empty text.
-/
import Derived.Test.YtehjahegokeofakRead
import Derived.Handy
import Derived.Laws.IdiomStrings
namespace Go.Proofs.Ytehjahegokeofak
open Go.RowKit
set_option linter.unusedVariables false

theorem foldl_push : ∀ (l : List Int) (r : ByteArray), l.foldl (fun r n => r.push (UInt8.ofNat n.toNat)) r = ⟨r.data ++ (l.map fun n => UInt8.ofNat n.toNat).toArray⟩
  | [], r => by simp
  | b :: l, r => by
    simp only [List.map_cons, List.foldl_cons]
    rw [foldl_push l]
    simp [ByteArray.push]

end Go.Proofs.Ytehjahegokeofak
