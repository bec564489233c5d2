/-
  Plain functions on lists of bytes that say what chapter 1's functions come to, and their laws; nothing of the program is imported.
-/
namespace Go.Proofs.Ytghhphhnalfjaaa.Nums

def lowB (l : List UInt8) : Bool := l.all fun c => decide (97 ≤ (c.toNat : Int)) && decide ((c.toNat : Int) ≤ 122)
def nameB (l : List UInt8) : Bool := lowB l && (decide (1 ≤ (l.length : Int)) && decide ((l.length : Int) ≤ 4))
def stepS (h : Int) (c : UInt8) : Int := (131 * h + (c.toNat : Int) + 1) % 65521
def sumI (l : List UInt8) : Int := l.foldl stepS 7
def stepR (n : Int) (c : UInt8) : Int := n * 256 + (c.toNat : Int)
def readI (l : List UInt8) : Int := l.foldl stepR 0

def lastB (n : Int) : UInt8 := UInt8.ofNat (n % 256).toNat
def showI (n : Int) : Nat → List UInt8
  | 0 => []
  | k + 1 => showI (n / 256) k ++ [lastB n]

def placeI (n : Int) : Nat → Int
  | 0 => n % 256
  | k + 1 => placeI (n / 256) k
def fitsB (n k : Int) : Bool := decide (0 ≤ n) && decide (n < 256 ^ k.toNat)

theorem take_snoc (s : ByteArray) (k : Nat) (h : k < s.size) : s.data.toList.take (k + 1) = s.data.toList.take k ++ [s[k]] := by
  rw [List.take_succ_eq_append_getElem (by simpa using h)]; rfl
theorem take_all (s : ByteArray) (k : Nat) (h : ¬ k < s.size) : s.data.toList.take k = s.data.toList := by
  rw [List.take_of_length_le]; simp; omega
theorem byte_lt (c : UInt8) : 0 ≤ (c.toNat : Int) ∧ (c.toNat : Int) ≤ 255 := by have := c.toNat_lt; omega

theorem lowB_snoc (l : List UInt8) (c : UInt8) : lowB (l ++ [c]) = (lowB l && (decide (97 ≤ (c.toNat : Int)) && decide ((c.toNat : Int) ≤ 122))) := by
  simp [lowB]
theorem lowB_take (l : List UInt8) (k : Nat) (h : lowB (l.take k) = false) : lowB l = false := by
  rw [← List.take_append_drop k l]
  simp only [lowB] at h
  simp only [lowB, List.all_append, h, Bool.false_and]
theorem lowB_bad (s : ByteArray) (k : Nat) (h : k < s.size) (hb : ¬ (97 ≤ (s[k].toNat : Int) ∧ (s[k].toNat : Int) ≤ 122)) : lowB s.data.toList = false := by
  apply lowB_take _ (k + 1)
  rw [take_snoc s k h, lowB_snoc]
  by_cases h1 : 97 ≤ (s[k].toNat : Int)
  · have h2 : ¬ (s[k].toNat : Int) ≤ 122 := fun h2 => hb ⟨h1, h2⟩
    simp [h2]
  · simp [h1]
theorem lowB_good (s : ByteArray) (k : Nat) (h : k < s.size) (hl : lowB (s.data.toList.take k) = true) (h1 : 97 ≤ (s[k].toNat : Int)) (h2 : (s[k].toNat : Int) ≤ 122) : lowB (s.data.toList.take (k + 1)) = true := by
  rw [take_snoc s k h, lowB_snoc, hl]; simp [h1, h2]

theorem stepS_bd (h : Int) (c : UInt8) : 0 ≤ stepS h c ∧ stepS h c ≤ 65520 := by unfold stepS; omega
theorem sumI_snoc (l : List UInt8) (c : UInt8) : sumI (l ++ [c]) = stepS (sumI l) c := by simp [sumI]
theorem foldS_bd (l : List UInt8) : ∀ h : Int, 0 ≤ h ∧ h ≤ 65520 → 0 ≤ l.foldl stepS h ∧ l.foldl stepS h ≤ 65520 := by
  induction l with
  | nil => intro h hh; exact hh
  | cons c l ih => intro h _; exact ih _ (stepS_bd h c)
theorem sumI_bd (l : List UInt8) : 0 ≤ sumI l ∧ sumI l ≤ 65520 := foldS_bd l 7 (by omega)
theorem sumI_take (s : ByteArray) (k : Nat) (h : k < s.size) : sumI (s.data.toList.take (k + 1)) = (131 * sumI (s.data.toList.take k) + (s[k].toNat : Int) + 1) % 65521 := by
  rw [take_snoc s k h, sumI_snoc]; rfl

theorem readI_snoc (l : List UInt8) (c : UInt8) : readI (l ++ [c]) = readI l * 256 + (c.toNat : Int) := by simp [readI, stepR]
theorem readI_bd (l : List UInt8) : ∀ k : Nat, l.length ≤ k → 0 ≤ readI l ∧ readI l < (256 : Int) ^ l.length := by
  intro _ _
  have key : ∀ (m : List UInt8) (x : Int) (p : Nat), 0 ≤ x → x < (256 : Int) ^ p → 0 ≤ m.foldl stepR x ∧ m.foldl stepR x < (256 : Int) ^ (p + m.length) := by
    intro m
    induction m with
    | nil => intro x p h0 h1; exact ⟨h0, by simpa using h1⟩
    | cons c m ih =>
      intro x p h0 h1
      have hc := byte_lt c
      have := ih (stepR x c) (p + 1) (by unfold stepR; omega) (by unfold stepR; rw [Int.pow_succ]; omega)
      simp only [List.foldl_cons, List.length_cons]
      rw [show p + (m.length + 1) = p + 1 + m.length from by omega]
      exact this
  have := key l 0 0 (by omega) (by decide)
  simpa [readI] using this

theorem readI_small (l : List UInt8) (h : l.length ≤ 3) : 0 ≤ readI l ∧ readI l < 16777216 := by
  have hb := readI_bd l _ (Nat.le_refl _)
  refine ⟨hb.1, Int.lt_of_lt_of_le hb.2 ?_⟩
  have : l.length = 0 ∨ l.length = 1 ∨ l.length = 2 ∨ l.length = 3 := by omega
  rcases this with e | e | e | e <;> rw [e] <;> decide

theorem cut_snoc (s : ByteArray) (a j : Nat) (h : a + j < s.size) : (s.data.toList.drop a).take (j + 1) = (s.data.toList.drop a).take j ++ [s[a + j]] := by
  have hl : j < (s.data.toList.drop a).length := by simp; omega
  rw [List.take_succ_eq_append_getElem hl]
  congr 2
  simp only [List.getElem_drop]
  rfl
theorem readI_cut (s : ByteArray) (a j : Nat) (h : a + j < s.size) : readI ((s.data.toList.drop a).take (j + 1)) = readI ((s.data.toList.drop a).take j) * 256 + (s[a + j].toNat : Int) := by
  rw [cut_snoc s a j h, readI_snoc]

end Go.Proofs.Ytghhphhnalfjaaa.Nums
