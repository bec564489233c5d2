/-
  What chapter 1's functions come to at every argument, as plain functions, and the laws that the promise wants: a number read from its bytes is the number, and the bytes of a number that was read are those.
-/
import Derived.Test.YtghhphhnalfjaaaNums
namespace Go.Proofs.Ytghhphhnalfjaaa.Nums

def okShow (n k : Int) : Bool := (decide (1 ≤ k) && decide (k ≤ 4)) && (decide (0 ≤ n) && decide (n < 256 ^ k.toNat))
def showS (n k : Int) : ByteArray := if okShow n k = true then ⟨(showI n k.toNat).toArray⟩ else ByteArray.empty
def okRead (s : ByteArray) (a k : Int) : Bool := (decide (1 ≤ k) && decide (k ≤ 4)) && (decide (0 ≤ a) && decide (a ≤ (s.size : Int) - k))
def readN (s : ByteArray) (a k : Int) : Int := if okRead s a k = true then readI ((s.data.toList.drop a.toNat).take k.toNat) else 0

theorem okShow_iff (n k : Int) : okShow n k = true ↔ (1 ≤ k ∧ k ≤ 4 ∧ 0 ≤ n ∧ n < 256 ^ k.toNat) := by
  simp only [okShow, Bool.and_eq_true, decide_eq_true_eq, and_assoc]
theorem okRead_iff (s : ByteArray) (a k : Int) : okRead s a k = true ↔ (1 ≤ k ∧ k ≤ 4 ∧ 0 ≤ a ∧ a ≤ (s.size : Int) - k) := by
  simp only [okRead, Bool.and_eq_true, decide_eq_true_eq, and_assoc]

theorem showI_length (k : Nat) : ∀ n : Int, (showI n k).length = k := by
  induction k with
  | zero => intro n; rfl
  | succ k ih => intro n; simp [showI, ih]
theorem lastB_toNat (n : Int) : ((lastB n).toNat : Int) = n % 256 := by
  have h0 : 0 ≤ n % 256 := Int.emod_nonneg _ (by decide)
  have h1 : n % 256 < 256 := Int.emod_lt_of_pos _ (by decide)
  unfold lastB
  rw [UInt8.toNat_ofNat']
  omega
theorem read_show (k : Nat) : ∀ n : Int, 0 ≤ n → n < 256 ^ k → readI (showI n k) = n := by
  induction k with
  | zero => intro n h0 h1; simp at h1; simp [showI, readI]; omega
  | succ k ih =>
    intro n h0 h1
    rw [Int.pow_succ] at h1
    have h2 := ih (n / 256) (by omega) (by omega)
    simp only [showI]
    rw [readI_snoc, h2, lastB_toNat]
    omega
theorem lastB_of (x : Int) (c : UInt8) : lastB (x * 256 + (c.toNat : Int)) = c := by
  have hc := byte_lt c
  unfold lastB
  apply UInt8.toNat.inj
  rw [UInt8.toNat_ofNat']
  omega
theorem show_read (l : List UInt8) : showI (readI l) l.length = l := by
  have key : ∀ (k : Nat) (l : List UInt8), l.length = k → showI (readI l) k = l := by
    intro k
    induction k with
    | zero => intro l h; rw [List.length_eq_zero_iff.1 h]; rfl
    | succ k ih =>
      intro l h
      obtain ⟨m, c, rfl⟩ : ∃ m c, l = m ++ [c] := by
        have hne : l ≠ [] := by intro e; rw [e] at h; simp at h
        exact ⟨l.dropLast, l.getLast hne, (List.dropLast_concat_getLast hne).symm⟩
      have hl : m.length = k := by simpa using h
      have hb := byte_lt c
      rw [readI_snoc]
      simp only [showI]
      rw [lastB_of, show (readI m * 256 + (c.toNat : Int)) / 256 = readI m from by omega, ih _ hl]
  exact key _ l rfl
theorem readI_fits (l : List UInt8) : 0 ≤ readI l ∧ readI l < (256 : Int) ^ l.length := readI_bd l _ (Nat.le_refl _)

theorem cut_length (s : ByteArray) (a k : Nat) (h : a + k ≤ s.size) : ((s.data.toList.drop a).take k).length = k := by
  simp; omega
theorem readN_range (s : ByteArray) (a k : Int) : 0 ≤ readN s a k ∧ readN s a k ≤ 4294967295 := by
  unfold readN
  split
  · have h := (okRead_iff s a k).1 ‹_›
    have hb := readI_fits ((s.data.toList.drop a.toNat).take k.toNat)
    refine ⟨hb.1, ?_⟩
    have hl : ((s.data.toList.drop a.toNat).take k.toNat).length ≤ 4 := by simp; omega
    have : (256 : Int) ^ ((s.data.toList.drop a.toNat).take k.toNat).length ≤ 4294967296 := by
      generalize ((s.data.toList.drop a.toNat).take k.toNat).length = m at hl
      have hm : m = 0 ∨ m = 1 ∨ m = 2 ∨ m = 3 ∨ m = 4 := by omega
      rcases hm with rfl | rfl | rfl | rfl | rfl <;> decide
    omega
  · omega
/-- The bytes of a number that was read are those. -/
theorem show_readN (s : ByteArray) (a k : Nat) (h1 : 1 ≤ k) (h2 : k ≤ 4) (h3 : a + k ≤ s.size) : showS (readN s a k) k = s.extract a (a + k) := by
  have ho : okRead s a k = true := (okRead_iff s a k).2 ⟨by omega, by omega, by omega, by omega⟩
  have hl := cut_length s a k h3
  have hb := readI_fits ((s.data.toList.drop a).take k)
  rw [hl] at hb
  have hr : readN s a k = readI ((s.data.toList.drop a).take k) := by unfold readN; rw [if_pos ho]; simp
  have hw : okShow (readN s a k) k = true := (okShow_iff _ _).2 ⟨by omega, by omega, by rw [hr]; exact hb.1, by rw [hr]; simpa using hb.2⟩
  unfold showS
  rw [if_pos hw, hr]
  have e : showI (readI ((s.data.toList.drop a).take k)) (k : Int).toNat = (s.data.toList.drop a).take k := by
    have := show_read ((s.data.toList.drop a).take k)
    rw [hl] at this
    simpa using this
  rw [e]
  apply ByteArray.ext
  apply Array.toList_inj.1
  simp
/-- A number is read from its bytes, which stand behind two others. -/
theorem readN_show (p : ByteArray) (hp : p.size = 2) (n k : Int) (h : okShow n k = true) : okRead (p ++ showS n k) 2 k = true ∧ readN (p ++ showS n k) 2 k = n ∧ ((showS n k).size : Int) = k := by
  have hk := (okShow_iff n k).1 h
  have hs : showS n k = ⟨(showI n k.toNat).toArray⟩ := by unfold showS; rw [if_pos h]
  have hz : (showS n k).size = k.toNat := by rw [hs]; show Array.size _ = _; simp [showI_length]
  have ho : okRead (p ++ showS n k) 2 k = true := (okRead_iff _ _ _).2 ⟨by omega, by omega, by omega, by rw [ByteArray.size_append]; omega⟩
  refine ⟨ho, ?_, by omega⟩
  unfold readN
  rw [if_pos ho]
  have hd : (p ++ showS n k).data.toList = p.data.toList ++ showI n k.toNat := by rw [hs]; simp
  have hpl : p.data.toList.length = 2 := by simpa using hp
  rw [hd, show (2 : Int).toNat = p.data.toList.length from by rw [hpl]; rfl, List.drop_left, List.take_of_length_le (by rw [showI_length]; exact Nat.le_refl _)]
  exact read_show _ _ hk.2.2.1 hk.2.2.2
theorem showS_empty (n k : Int) : (showS n k).data.toList.isEmpty = !okShow n k := by
  unfold showS
  cases h : okShow n k
  · simp
  · have hk := (okShow_iff n k).1 h
    have := showI_length k.toNat n
    simp
    intro e
    rw [e] at this
    simp at this
    omega
theorem showS_size (n k : Int) : (showS n k).size ≤ 4 := by
  unfold showS
  split
  · have hk := (okShow_iff n k).1 ‹_›
    show Array.size _ ≤ 4
    simp [showI_length]
    omega
  · exact Nat.zero_le _
theorem sum_parts (l : List UInt8) (a b : UInt8) (h : a.toNat + 1 = b.toNat) : ¬ sumI (l ++ [a]) = sumI (l ++ [b]) := by
  rw [sumI_snoc, sumI_snoc]
  unfold stepS
  omega

end Go.Proofs.Ytghhphhnalfjaaa.Nums
