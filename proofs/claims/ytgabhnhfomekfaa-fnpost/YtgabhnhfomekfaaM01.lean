/-
  Contracts and plain laws, one chapter behind the other.
-/
namespace Go.Proofs.Ytgabhnhfomekfaa.Nums

def lowB (l : List UInt8) : Bool := l.all fun c => decide (97 ≤ (c.toNat : Int)) && decide ((c.toNat : Int) ≤ 122)

def nameB (l : List UInt8) : Bool := lowB l && (decide (1 ≤ (l.length : Int)) && decide ((l.length : Int) ≤ 4))

theorem take_snoc (s : ByteArray) (k : Nat) (h : k < s.size) : s.data.toList.take (k + 1) = s.data.toList.take k ++ [s[k]] := by
  rw [List.take_succ_eq_append_getElem (by simpa using h)]; rfl

theorem take_all (s : ByteArray) (k : Nat) (h : ¬ k < s.size) : s.data.toList.take k = s.data.toList := by
  rw [List.take_of_length_le]; simp; omega

theorem byte_lt (c : UInt8) : 0 ≤ (c.toNat : Int) ∧ (c.toNat : Int) ≤ 255 := by have := c.toNat_lt; omega

theorem lowB_snoc (l : List UInt8) (c : UInt8) : lowB (l ++ [c]) = (lowB l && (decide (97 ≤ (c.toNat : Int)) && decide ((c.toNat : Int) ≤ 122))) := by
  simp [lowB]

theorem lowB_take (l : List UInt8) (k : Nat) (h : lowB (l.take k) = false) : lowB l = false := by
  rw [← List.take_append_drop k l]
  simp only [lowB] at h
  simp only [lowB, List.all_append, h, Bool.false_and]

theorem lowB_bad (s : ByteArray) (k : Nat) (h : k < s.size) (hb : ¬ (97 ≤ (s[k].toNat : Int) ∧ (s[k].toNat : Int) ≤ 122)) : lowB s.data.toList = false := by
  apply lowB_take _ (k + 1)
  rw [take_snoc s k h, lowB_snoc]
  by_cases h1 : 97 ≤ (s[k].toNat : Int)
  · have h2 : ¬ (s[k].toNat : Int) ≤ 122 := fun h2 => hb ⟨h1, h2⟩
    simp [h2]
  · simp [h1]

theorem lowB_good (s : ByteArray) (k : Nat) (h : k < s.size) (hl : lowB (s.data.toList.take k) = true) (h1 : 97 ≤ (s[k].toNat : Int)) (h2 : (s[k].toNat : Int) ≤ 122) : lowB (s.data.toList.take (k + 1)) = true := by
  rw [take_snoc s k h, lowB_snoc, hl]; simp [h1, h2]
end Go.Proofs.Ytgabhnhfomekfaa.Nums

namespace Go.Proofs.Ytgabhnhfomekfaa
open Nums

set_option linter.unusedVariables false

set_option maxRecDepth 100000


structure Oq where
  k : Int
  nm : ByteArray
  ot : ByteArray
  at_ : Int
  va : Int
  ep : Int

def Oq.zero : Oq := ⟨0, ByteArray.empty, ByteArray.empty, 0, 0, 0⟩

def kOther (k : Int) : Bool := decide (k = 4) || decide (k = 5)

def kAt (k : Int) : Bool := decide (k = 2) || decide (k = 3) || decide (k = 9)

def kSize (k : Int) : Bool := decide (k = 1) || decide (k = 7)

def kEpoch (k : Int) : Bool := decide (k = 2) || decide (k = 3) || decide (k = 6) || decide (k = 7)

def inB (x lo hi : Int) : Bool := decide (lo ≤ x) && decide (x ≤ hi)

def valOk (k va : Int) : Bool := if kSize k = true then inB va 1 16 else if k = 2 then inB va 0 999 else decide (va = 0)

def opOk (o : Oq) : Bool :=
  nameB o.nm.data.toList && inB o.k 1 9 && (kOther o.k == decide (o.ot.size ≠ 0)) && (!kOther o.k || nameB o.ot.data.toList) && (kAt o.k || decide (o.at_ = 0)) && inB o.at_ 0 255 && (kEpoch o.k || decide (o.ep = 0)) && inB o.ep 0 1000 && valOk o.k o.va

theorem inB_iff (x lo hi : Int) : inB x lo hi = true ↔ lo ≤ x ∧ x ≤ hi := by simp [inB]

theorem nameB_size (s : ByteArray) (h : nameB s.data.toList = true) : 1 ≤ s.size ∧ s.size ≤ 4 := by
  simp only [nameB, Bool.and_eq_true, decide_eq_true_eq] at h
  have e : s.data.toList.length = s.size := by simp
  omega

theorem ext_list {a b : ByteArray} (h : a.data.toList = b.data.toList) : a = b := by
  cases a; cases b
  simp at h
  rw [h]
end Go.Proofs.Ytgabhnhfomekfaa

