/-
  Chapter 6, plain: books as values, their names, what is found and what is alike.
-/
import Derived.Test.YtehjahegokeofakBook1
namespace Go.Proofs.Ytehjahegokeofak
open Go.RowKit
set_option linter.unusedVariables false

/-- A book: its cells, and the runs that its map reads. -/
structure Bk where
  nm : ByteArray
  sz : Int
  m : Value
  rs : List (Int × Int × Int)
  fx : Bool
  ep : Int
def bookC (b : Bk) : List Value := [.string b.nm, .int .i64 b.sz, b.m, .bool b.fx, .int .i64 b.ep]
theorem bookC_len (b : Bk) : (bookC b).length = 5 := rfl
/-- A row of books that is read, the maps too. -/
structure ReadsB (B : Nat) (w : World) (v : Value) (bs : List Bk) : Prop where
  row : ReadsR 5 bookC B w v bs
  maps : ∀ b ∈ bs, ReadsR 3 runC B w b.m b.rs
theorem ReadsB.below {B : Nat} {w w' : World} {v : Value} {bs : List Bk} (h : ReadsB B w v bs) (k : Below B w w') : ReadsB B w' v bs := ⟨h.row.below k, fun b hb => (h.maps b hb).below k⟩
theorem ReadsB.mono {B B' : Nat} {w : World} {v : Value} {bs : List Bk} (h : ReadsB B w v bs) (k : B ≤ B') : ReadsB B' w v bs := ⟨h.row.mono k, fun b hb => (h.maps b hb).mono k⟩

def newOk (nm : ByteArray) (sz : Int) : Bool := Nums.nameB nm.data.toList && (decide (1 ≤ sz) && decide (sz ≤ 16))
theorem bookOk_new (nm : ByteArray) (sz : Int) : bookOk nm sz [] 0 = newOk nm sz := by
  simp [bookOk, newOk, endsBy, mapOk, okFrom]
def newName (nm : ByteArray) (sz : Int) : ByteArray := if newOk nm sz = true then nm else ByteArray.empty
def newSize (nm : ByteArray) (sz : Int) : Int := if newOk nm sz = true then sz else 0

def alike (nm : ByteArray) (sz : Int) (rs : List (Int × Int × Int)) (ep : Int) (nm' : ByteArray) (sz' : Int) (rs' : List (Int × Int × Int)) (ep' : Int) : Bool :=
  bookOk nm sz rs ep && bookOk nm' sz' rs' ep' && decide (sz = sz') && decide (rs = rs')
theorem alike_comm (nm : ByteArray) (sz : Int) (rs : List (Int × Int × Int)) (ep : Int) (nm' : ByteArray) (sz' : Int) (rs' : List (Int × Int × Int)) (ep' : Int) : alike nm sz rs ep nm' sz' rs' ep' = alike nm' sz' rs' ep' nm sz rs ep := by
  unfold alike
  rw [Bool.and_comm (bookOk nm sz rs ep), decide_eq_decide.2 (show sz = sz' ↔ sz' = sz from eq_comm), decide_eq_decide.2 (show rs = rs' ↔ rs' = rs from eq_comm)]

def findFrom (n : ByteArray) : List ByteArray → Nat → Int
  | [], _ => -1
  | x :: t, k => if x = n then (k : Int) else findFrom n t (k + 1)
def findB (bs : List Bk) (n : ByteArray) : Int := findFrom n (bs.map Bk.nm) 0
theorem find_at (bs : List Bk) (n : ByteArray) (k : Nat) (hk : k < bs.length) : findFrom n ((bs.map Bk.nm).drop k) k = if bs[k].nm = n then (k : Int) else findFrom n ((bs.map Bk.nm).drop (k + 1)) (k + 1) := by
  rw [List.drop_eq_getElem_cons (by simpa using hk), findFrom]
  simp
theorem find_end (bs : List Bk) (n : ByteArray) (k : Nat) (hk : ¬ k < bs.length) : findFrom n ((bs.map Bk.nm).drop k) k = -1 := by
  rw [List.drop_of_length_le (by simp; omega), findFrom]
theorem find_range (n : ByteArray) (l : List ByteArray) (k : Nat) : findFrom n l k = -1 ∨ ((k : Int) ≤ findFrom n l k ∧ findFrom n l k < k + l.length ∧ l[(findFrom n l k).toNat - k]? = some n) := by
  induction l generalizing k with
  | nil => exact .inl rfl
  | cons x t ih =>
    rw [findFrom]
    split
    · rename_i h
      right
      subst h
      simp
      omega
    · rcases ih (k + 1) with h | ⟨h1, h2, h3⟩
      · exact .inl h
      · right
        refine ⟨by omega, by simp; omega, ?_⟩
        rw [show (findFrom n t (k + 1)).toNat - k = (findFrom n t (k + 1)).toNat - (k + 1) + 1 by omega, List.getElem?_cons_succ]
        exact h3
theorem find_first (n : ByteArray) (l : List ByteArray) (k j : Nat) (h : l[j]? = some n) : (k : Int) ≤ findFrom n l k ∧ findFrom n l k ≤ k + j := by
  induction l generalizing k j with
  | nil => simp at h
  | cons x t ih =>
    rw [findFrom]
    split
    · omega
    · rename_i hx
      match j, h with
      | 0, h => simp at h; exact absurd h hx
      | j + 1, h =>
        have := ih (k + 1) j (by simpa using h)
        omega

end Go.Proofs.Ytehjahegokeofak
