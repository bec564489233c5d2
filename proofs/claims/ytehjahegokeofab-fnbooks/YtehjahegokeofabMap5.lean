/-
  Chapter 5: no answer is longer than the map that it was made of, or sixteen.
-/
import Derived.Test.YtehjahegokeofabMap3
namespace Go.Proofs.Ytehjahegokeofab
set_option linter.unusedVariables false

theorem grow_len (k : Nat) (v : Int) (acc : List (Int × Int × Int)) : (grow k v acc).length ≤ acc.length + 1 := by
  unfold grow
  split
  · omega
  · cases h : acc.getLast? with
    | none => simp
    | some q =>
      simp only
      split <;> simp <;> omega
theorem upto_len (l : List Int) (n : Nat) : (upto l n).length ≤ n := by
  induction n with
  | zero => simp [upto]
  | succ n ih => have := grow_len n (l.getD n 0) (upto l n); rw [upto]; omega
theorem mapOf_len (l : List Int) : (mapOf l).length ≤ l.length := upto_len l _
theorem mapped_len (rs : List (Int × Int × Int)) (place page : Int) (h : rs.length ≤ 1048576) : (mapped rs place page).1.length ≤ 1048576 := by
  unfold mapped
  split
  · split
    · have := mapOf_len ((pages rs).set place.toNat page); rw [List.length_set, pages_length] at this; simp only; omega
    · exact h
  · simp
theorem belowM_len (rs : List (Int × Int × Int)) (size : Int) : (belowM rs size).length ≤ 1048576 := by
  unfold belowM
  split
  · have := mapOf_len (cutAt (pages rs) size); have e : (cutAt (pages rs) size).length = 16 := by simp [cutAt]
    omega
  · simp
theorem pagesOf_len (rs : List (Int × Int × Int)) : (pagesOf rs).length ≤ 1048576 := by
  unfold pagesOf
  split
  · have := List.length_filter_le (fun p => decide (0 ≤ p)) (pages rs); rw [pages_length] at this; omega
  · simp

end Go.Proofs.Ytehjahegokeofab
