/-
  The laws' helpers on lists of texts: like or not; the text of a mark; marked; held.
-/
import Derived.Test.YtijmmenkcemggaaRows1
import Derived.Test.YtijmmenkcemggaaShow
namespace Go.Proofs.Ytijmmenkcemggaa
open Go.RowKit
set_option linter.unusedVariables false
set_option maxRecDepth 100000

theorem text_eq (x y : ByteArray) : (x.toList == y.toList) = decide (x = y) := by
  rw [Bool.eq_iff_iff, beq_iff_eq, decide_eq_true_iff, ByteArray.toList_eq, ByteArray.toList_eq]
  constructor
  · intro h; apply ByteArray.ext; exact Array.toList_inj.1 h
  · intro h; rw [h]
theorem text_ne {x y : ByteArray} (h : (!x.toList == y.toList) = true) : x ≠ y := by rw [text_eq] at h; simpa using h
theorem text_same {x y : ByteArray} (h : (!x.toList == y.toList) = false) : x = y := by rw [text_eq] at h; simpa using h
theorem take_more {α : Type} (xs ys : List α) (k : Nat) (h1 : k < xs.length) (h2 : k < ys.length) (h : xs.take k = ys.take k) (e : xs[k] = ys[k]) : xs.take (k + 1) = ys.take (k + 1) := by
  rw [List.take_succ_eq_append_getElem h1, List.take_succ_eq_append_getElem h2, h, e]
theorem ne_at {α : Type} (xs ys : List α) (k : Nat) (h1 : k < xs.length) (h2 : k < ys.length) (e : xs[k] ≠ ys[k]) : ¬ xs = ys := by
  intro h; subst h; exact e rfl
theorem all_taken {α : Type} (xs ys : List α) (k : Nat) (h1 : ¬ k < xs.length) (h2 : xs.length = ys.length) (h : xs.take k = ys.take k) : xs = ys := by
  rw [List.take_of_length_le (by omega), List.take_of_length_le (by omega)] at h; exact h

def digs : Nat → Nat → ByteArray → ByteArray
  | 0, _, out => out
  | f + 1, k, out => if k = 0 then out else digs f (k / 10) (⟨#[48 + UInt8.ofNat (k % 10)]⟩ ++ out)
def markS (k : Int) : ByteArray := if k ≤ 0 then ⟨#[109, 48]⟩ else ⟨#[109]⟩ ++ digs (k.toNat + 1) k.toNat ⟨#[]⟩
theorem digs_step (f k : Nat) (out : ByteArray) (h : 0 < k) : digs (f + 1) k out = digs f (k / 10) (⟨#[48 + UInt8.ofNat (k % 10)]⟩ ++ out) := by
  simp only [digs]; rw [if_neg (by omega)]
theorem digs_end (f : Nat) (out : ByteArray) : digs (f + 1) 0 out = out := by simp [digs]

def marksL (k : Int) (n : Nat) : List ByteArray := (List.range n).map fun i : Nat => markS (k + (i : Int))
theorem marksL_length (k : Int) (n : Nat) : (marksL k n).length = n := by simp [marksL]
theorem marksL_get (k : Int) (n j : Nat) (h : j < n) : ((marksL k n).map Value.string)[j]? = some (.string (markS (k + j))) := by simp [marksL, h]
theorem marked_set (k : Int) (xs : List Value) (j : Nat) (h : j < xs.length) :
    ((marksL k j).map Value.string ++ xs.drop j).set j (.string (markS (k + j))) = (marksL k (j + 1)).map Value.string ++ xs.drop (j + 1) := by
  have hl : ((marksL k j).map Value.string).length = j := by simp [marksL]
  have hs : (marksL k (j + 1)).map Value.string = (marksL k j).map Value.string ++ [.string (markS (k + j))] := by simp [marksL, List.range_succ]
  rw [List.set_append_right _ _ (by omega), hl, Nat.sub_self, List.drop_eq_getElem_cons h, List.set_cons_zero, hs]
  exact (List.append_assoc _ [Value.string (markS (k + j))] _).symm
theorem marked_all (k : Int) (xs : List Value) (n : Nat) (h : xs.length = n) : (marksL k n).map Value.string ++ xs.drop n = (marksL k n).map Value.string := by
  rw [List.drop_of_length_le (by omega)]; simp

end Go.Proofs.Ytijmmenkcemggaa
