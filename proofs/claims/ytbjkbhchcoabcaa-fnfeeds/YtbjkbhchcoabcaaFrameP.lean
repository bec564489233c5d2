/-
  Frames one behind the other: what is told has just those bytes, and of a frame twice and a part of it once more two are told. Plain lists; nothing of the program is imported.
-/
import Derived.Test.YtbjkbhchcoabcaaFrameN
namespace Go.Proofs.Ytbjkbhchcoabcaa.Fr
open Go.Proofs.Ytbjkbhchcoabcaa.Nums

theorem ba_ext {a b : ByteArray} (h : a.data.toList = b.data.toList) : a = b := by apply ByteArray.ext; exact Array.toList_inj.1 h
theorem framedS_list (s : ByteArray) (h : s.size ≤ 60) : (framedS s).data.toList = fl s.data.toList := by
  unfold framedS; rw [if_neg (by omega)]; exact framed2_list s h
/-- What FrameAt tells, framed again, is what stands there. -/
theorem framed_text (s : ByteArray) (p : Nat) (h : 0 ≤ frEnd s p) : framedS (frText s p) = s.extract p (frEnd s p).toNat := by
  obtain ⟨l, post, hl, hL, ht, he⟩ := frEnd_has s p h
  have hp : p ≤ s.data.toList.length := by have := frEnd_bd s p; simp; omega
  apply ba_ext
  rw [framedS_list _ (by rw [size_list _ _ ht]; exact hl), ht, he, Int.toNat_natCast, show p + l.length + 4 = p + (l.length + 4) from by omega, extract_cut]
  unfold cut
  rw [hL, List.drop_append, List.drop_of_length_le (by simp; omega), List.length_take, Nat.min_eq_left hp, Nat.sub_self, List.drop_zero, List.nil_append, ← fl_length, List.take_left]

/-- The frames of texts, one behind the other. -/
def cat (xs : List ByteArray) : List UInt8 := (xs.map fun x => (framedS x).data.toList).flatten
theorem cat_snoc (xs : List ByteArray) (x : ByteArray) : cat (xs ++ [x]) = cat xs ++ (framedS x).data.toList := by simp [cat]
theorem frList_cat (s : ByteArray) : ∀ (f p : Nat), p ≤ s.size → p ≤ (frList s f p).2 ∧ cat (frList s f p).1 = (s.data.toList.drop p).take ((frList s f p).2 - p) := by
  intro f
  induction f with
  | zero => intro p hp; simp [frList, cat]
  | succ f ih =>
    intro p hp
    by_cases h : frEnd s p < 0
    · rw [frList_end s f p h]; simp [cat]
    · rw [frList_step s f p h]
      have hb := frEnd_bd s p
      obtain ⟨l, post, hl, hL, ht, he⟩ := frEnd_has s p (by omega)
      have hpl : p ≤ s.data.toList.length := by simp; omega
      have i := ih (frEnd s p).toNat (by omega)
      refine ⟨by simp only; omega, ?_⟩
      simp only [cat, List.map_cons, List.flatten_cons]
      have i2 := i.2
      unfold cat at i2
      rw [i2, framedS_list _ (by rw [size_list _ _ ht]; exact hl), ht]
      have hq : (frEnd s p).toNat = p + (l.length + 4) := by omega
      have hd : s.data.toList.drop p = fl l ++ post := by
        rw [hL, List.drop_append, List.drop_of_length_le (by simp; omega), List.length_take, Nat.min_eq_left hpl, Nat.sub_self, List.drop_zero, List.nil_append]
      have hd2 : s.data.toList.drop (frEnd s p).toNat = post := by
        rw [hq, ← List.drop_drop, hd, ← fl_length l, List.drop_left]
      have i1 := i.1
      generalize (frList s f (frEnd s p).toNat).2 = e at i1 ⊢
      rw [hd2, hd, show e - p = (fl l).length + (e - (frEnd s p).toNat) from by rw [fl_length]; omega, List.take_length_add_append]
theorem frAll_cat (s : ByteArray) : cat (frAll s).1 = s.data.toList.take (frAll s).2 := by
  have := (frList_cat s (s.size + 1) 0 (Nat.zero_le _)).2
  simpa [frAll] using this

theorem cat_take (xs : List ByteArray) (k : Nat) (h : k < xs.length) : cat (xs.take (k + 1)) = cat (xs.take k) ++ (framedS xs[k]).data.toList := by
  rw [List.take_succ_eq_append_getElem h, cat_snoc]
theorem cat_take_le (xs : List ByteArray) (k : Nat) : (cat (xs.take k)).length ≤ (cat xs).length := by
  have h : cat xs = cat (xs.take k) ++ cat (xs.drop k) := by unfold cat; rw [← List.flatten_append, ← List.map_append, List.take_append_drop]
  rw [h, List.length_append]
  omega
theorem frText_size (s : ByteArray) (a : Int) : (frText s a).size ≤ s.size := by
  unfold frText
  split
  · exact Nat.zero_le _
  · rw [ByteArray.size_extract]; omega
theorem frList_mem (s : ByteArray) : ∀ (f p : Nat), ∀ x ∈ (frList s f p).1, x.size ≤ s.size := by
  intro f
  induction f with
  | zero => intro p x hx; simp [frList] at hx
  | succ f ih =>
    intro p x hx
    by_cases h : frEnd s p < 0
    · rw [frList_end s f p h] at hx; simp at hx
    · rw [frList_step s f p h] at hx
      simp only [List.mem_cons] at hx
      rcases hx with rfl | hx
      · exact frText_size s p
      · exact ih _ x hx
theorem frAll_mem (s : ByteArray) : ∀ x ∈ (frAll s).1, x.size ≤ s.size := frList_mem s _ _

/-- A frame twice, and a part of it. -/
theorem frAll_twice (s t : ByteArray) (k : Nat) (ht : t.size ≤ 60) (hk : k < t.size + 4) (hL : s.data.toList = fl t.data.toList ++ (fl t.data.toList ++ (fl t.data.toList).take k)) : frAll s = ([t, t], 2 * (t.size + 4)) := by
  have hl : t.data.toList.length ≤ 60 := by simpa using ht
  have hlen : t.data.toList.length = t.size := by simp
  have hfl := fl_length t.data.toList
  have hsz : s.size = (t.size + 4) + ((t.size + 4) + k) := by rw [size_list s _ hL]; simp [fl_length]; omega
  have a1 := frEnd_fl s [] t.data.toList (fl t.data.toList ++ (fl t.data.toList).take k) (by rw [hL]; rfl) hl
  have a2 := frEnd_fl s (fl t.data.toList) t.data.toList ((fl t.data.toList).take k) hL hl
  have a3 := frEnd_short s (fl t.data.toList ++ fl t.data.toList) t.data.toList k (by omega) (by rw [hL]; simp) hl
  have e1 : frEnd s ((0 : Nat) : Int) = ((t.size + 4 : Nat) : Int) := by have := a1.1; rw [hlen] at this; simpa using this
  have e2 : frEnd s ((t.size + 4 : Nat) : Int) = ((2 * (t.size + 4) : Nat) : Int) := by
    have := a2.1
    rw [hfl, hlen] at this
    rw [this]
    omega
  have e3 : frEnd s ((2 * (t.size + 4) : Nat) : Int) < 0 := by
    have := a3
    rw [List.length_append, hfl, hlen] at this
    rw [show 2 * (t.size + 4) = t.size + 4 + (t.size + 4) from by omega]
    exact this
  have t1 : frText s ((0 : Nat) : Int) = t := ba_ext a1.2
  have t2 : frText s ((t.size + 4 : Nat) : Int) = t := by
    have := a2.2
    rw [hfl, hlen] at this
    exact ba_ext this
  unfold frAll
  obtain ⟨f, hf⟩ : ∃ f, s.size + 1 = f + 1 + 1 + 1 := ⟨s.size - 2, by omega⟩
  rw [hf, frList_step s _ 0 (by omega), e1, Int.toNat_natCast, frList_step s _ _ (by omega), e2, Int.toNat_natCast, frList_end s _ _ e3, t1, t2]

end Go.Proofs.Ytbjkbhchcoabcaa.Fr
