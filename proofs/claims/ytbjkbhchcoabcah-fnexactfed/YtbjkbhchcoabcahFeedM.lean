/-
  What chapter 3's functions come to, as plain functions on bytes: what is fed, told piece by piece; nothing of the program is imported.
-/
import Derived.Test.YtbjkbhchcoabcahFrameP
namespace Go.Proofs.Ytbjkbhchcoabcah.Fr
open Go.Proofs.Ytbjkbhchcoabcah.Nums

theorem app_list (s t : ByteArray) : (s ++ t).data.toList = s.data.toList ++ t.data.toList := by simp
theorem list_size (s : ByteArray) : s.data.toList.length = s.size := by simp
theorem byteI_app (s t : ByteArray) (i : Nat) (h : i < s.size) : byteI (s ++ t) i = byteI s i := by
  unfold byteI
  rw [app_list, List.getD_eq_getElem?_getD, List.getD_eq_getElem?_getD, List.getElem?_append_left (by rw [list_size]; exact h)]
theorem cut_app (s t : ByteArray) (a k : Nat) (h : a + k ≤ s.size) : cut (s ++ t) a k = cut s a k := by
  have := list_size s
  unfold cut
  rw [app_list, List.drop_append_of_le_length (by omega), List.take_append_of_le_length (by rw [List.length_drop]; omega)]

/-- A frame that is told is told, whatever follows. -/
theorem frEnd_more (s t : ByteArray) (p : Nat) (h : 0 ≤ frEnd s p) : frEnd (s ++ t) p = frEnd s p ∧ frText (s ++ t) p = frText s p := by
  have hb := frEnd_bd s p
  obtain ⟨l, post, hl, hL, hT, hE⟩ := frEnd_has s p h
  have hp : (s.data.toList.take p).length = p := by
    have := list_size s
    rw [List.length_take]
    omega
  have hL2 : (s ++ t).data.toList = s.data.toList.take p ++ (fl l ++ (post ++ t.data.toList)) := by
    rw [app_list, ← List.append_assoc (fl l), ← List.append_assoc, ← hL]
  have h2 := frEnd_fl (s ++ t) (s.data.toList.take p) l (post ++ t.data.toList) hL2 hl
  rw [hp] at h2
  exact ⟨by rw [h2.1, hE], ba_ext (by rw [h2.2, hT])⟩

theorem frLast_app (s t : ByteArray) (p : Nat) (h : p + 1 < s.size) : frLast (s ++ t) p = frLast s p := by unfold frLast; rw [byteI_app s t _ h]
theorem frSum_app (s t : ByteArray) (p : Nat) (h : p + 1 < s.size) (h2 : frLast s p ≤ s.size) : frSum (s ++ t) p = frSum s p := by
  unfold frLast at h2
  unfold frSum
  rw [byteI_app s t _ h, cut_app s t _ _ (by omega)]

/-- What can begin no frame can begin none, whatever follows. -/
theorem frEnd_bad (s t : ByteArray) (p : Nat) (hp : p ≤ s.size) (h : frEnd s p = -1) : frEnd (s ++ t) p = -1 := by
  have hsz : (s ++ t).size = s.size + t.size := ByteArray.size_append
  by_cases h0 : p = s.size
  · rw [h0, frEnd_at] at h; omega
  have hlt : p < s.size := by omega
  rw [frEnd_in s p hlt] at h
  rw [frEnd_in _ p (by omega)]
  have e0 := byteI_app s t p hlt
  by_cases h1 : byteI s p = 165
  · by_cases h2 : p + 1 = s.size
    · rw [frIn_2 s p h1 h2] at h; omega
    · have e1 := byteI_app s t (p + 1) (by omega)
      have n2 : ¬ p + 1 = (s ++ t).size := by omega
      by_cases h3 : 60 < byteI s (p + 1)
      · exact frIn_3 _ p (by rw [e0]; exact h1) n2 (by rw [e1]; exact h3)
      · have n3 : ¬ 60 < byteI (s ++ t) (p + 1) := by rw [e1]; exact h3
        by_cases h4 : s.size ≤ frLast s p
        · rw [frIn_4 s p h1 h2 h3 h4] at h; omega
        · have el := frLast_app s t p (by omega)
          have es := frSum_app s t p (by omega) (by omega)
          have n4 : ¬ (s ++ t).size ≤ frLast (s ++ t) p := by rw [el]; omega
          have b5 := byteI_app s t (frLast s p) (by omega)
          by_cases h5 : byteI s (frLast s p) = frSum s p / 256
          · by_cases h6 : s.size ≤ frLast s p + 1
            · rw [frIn_6 s p h1 h2 h3 h4 h5 h6] at h; omega
            · have b7 := byteI_app s t (frLast s p + 1) (by omega)
              by_cases h7 : byteI s (frLast s p + 1) = frSum s p % 256
              · rw [frIn_8 s p h1 h2 h3 h4 h5 h6 h7] at h; omega
              · exact frIn_7 _ p (by rw [e0]; exact h1) n2 n3 n4 (by rw [el, es, b5]; exact h5) (by rw [el]; omega) (by rw [el, es, b7]; exact h7)
          · exact frIn_5 _ p (by rw [e0]; exact h1) n2 n3 n4 (by rw [el, es, b5]; exact h5)
  · exact frIn_1 _ p (by rw [e0]; exact h1)

/-- The rest of s from d on. -/
def rest (s : ByteArray) (d : Nat) : ByteArray := s.extract d s.size
theorem rest_list (s : ByteArray) (d : Nat) : (rest s d).data.toList = s.data.toList.drop d := by
  have hl := list_size s
  unfold rest
  by_cases h : d ≤ s.size
  · have hc := extract_cut s d (s.size - d)
    rw [show d + (s.size - d) = s.size by omega] at hc
    rw [hc]
    unfold cut
    exact List.take_of_length_le (by rw [List.length_drop]; omega)
  · rw [List.drop_of_length_le (by omega)]
    apply List.eq_nil_of_length_eq_zero
    rw [list_size, ByteArray.size_extract]
    omega
theorem rest_size (s : ByteArray) (d : Nat) : (rest s d).size = s.size - d := by
  rw [← list_size, rest_list, List.length_drop, list_size]
theorem byteI_rest (s : ByteArray) (d i : Nat) : byteI (rest s d) i = byteI s (d + i) := by
  unfold byteI
  rw [rest_list, List.getD_eq_getElem?_getD, List.getD_eq_getElem?_getD, List.getElem?_drop]
theorem cut_rest (s : ByteArray) (d a k : Nat) : cut (rest s d) a k = cut s (d + a) k := by
  unfold cut
  rw [rest_list, List.drop_drop]
theorem frLast_rest (s : ByteArray) (d a : Nat) : d + frLast (rest s d) a = frLast s (d + a) := by
  unfold frLast
  rw [byteI_rest, show d + (a + 1) = d + a + 1 by omega]
  omega
theorem frSum_rest (s : ByteArray) (d a : Nat) : frSum (rest s d) a = frSum s (d + a) := by
  unfold frSum
  rw [byteI_rest, cut_rest, show d + (a + 1) = d + a + 1 by omega]

theorem frIn_rest (s : ByteArray) (d a : Nat) (h : d + a < s.size) : frIn (rest s d) a = if frIn s (d + a) < 0 then frIn s (d + a) else frIn s (d + a) - d := by
  have hz := rest_size s d
  have hl := frLast_rest s d a
  have b0 := byteI_rest s d a
  have b1 := byteI_rest s d (a + 1)
  rw [show d + (a + 1) = d + a + 1 by omega] at b1
  have b2 := byteI_rest s d (frLast (rest s d) a)
  have b3 := byteI_rest s d (frLast (rest s d) a + 1)
  rw [hl] at b2
  rw [show d + (frLast (rest s d) a + 1) = frLast s (d + a) + 1 by omega] at b3
  have hs := frSum_rest s d a
  by_cases h1 : byteI s (d + a) = 165
  · by_cases h2 : d + a + 1 = s.size
    · rw [frIn_2 s _ h1 h2, frIn_2 _ a (by rw [b0]; exact h1) (by omega)]; rfl
    · have n2 : ¬ a + 1 = (rest s d).size := by omega
      by_cases h3 : 60 < byteI s (d + a + 1)
      · rw [frIn_3 s _ h1 h2 h3, frIn_3 _ a (by rw [b0]; exact h1) n2 (by rw [b1]; exact h3)]; rfl
      · have n3 : ¬ 60 < byteI (rest s d) (a + 1) := by rw [b1]; exact h3
        by_cases h4 : s.size ≤ frLast s (d + a)
        · rw [frIn_4 s _ h1 h2 h3 h4, frIn_4 _ a (by rw [b0]; exact h1) n2 n3 (by omega)]; rfl
        · have n4 : ¬ (rest s d).size ≤ frLast (rest s d) a := by omega
          by_cases h5 : byteI s (frLast s (d + a)) = frSum s (d + a) / 256
          · have k5 : byteI (rest s d) (frLast (rest s d) a) = frSum (rest s d) a / 256 := by rw [b2, hs]; exact h5
            by_cases h6 : s.size ≤ frLast s (d + a) + 1
            · rw [frIn_6 s _ h1 h2 h3 h4 h5 h6, frIn_6 _ a (by rw [b0]; exact h1) n2 n3 n4 k5 (by omega)]; rfl
            · by_cases h7 : byteI s (frLast s (d + a) + 1) = frSum s (d + a) % 256
              · rw [frIn_8 s _ h1 h2 h3 h4 h5 h6 h7, frIn_8 _ a (by rw [b0]; exact h1) n2 n3 n4 k5 (by omega) (by rw [b3, hs]; exact h7), if_neg (by omega)]
                omega
              · rw [frIn_7 s _ h1 h2 h3 h4 h5 h6 h7, frIn_7 _ a (by rw [b0]; exact h1) n2 n3 n4 k5 (by omega) (by rw [b3, hs]; exact h7)]; rfl
          · rw [frIn_5 s _ h1 h2 h3 h4 h5, frIn_5 _ a (by rw [b0]; exact h1) n2 n3 n4 (by rw [b2, hs]; exact h5)]; rfl
  · rw [frIn_1 s _ h1, frIn_1 _ a (by rw [b0]; exact h1)]; rfl

theorem frEnd_rest (s : ByteArray) (d a : Nat) (h : d + a ≤ s.size) : frEnd (rest s d) a = if frEnd s (d + a : Nat) < 0 then frEnd s (d + a : Nat) else frEnd s (d + a : Nat) - d := by
  have hz := rest_size s d
  by_cases h0 : d + a = s.size
  · rw [h0, frEnd_at, show a = (rest s d).size by omega, frEnd_at]; rfl
  · rw [frEnd_in _ a (by omega), frEnd_in s (d + a) (by omega), frIn_rest s d a (by omega)]

theorem frText_rest (s : ByteArray) (d a : Nat) (h : d + a ≤ s.size) (he : ¬ frEnd s (d + a : Nat) < 0) : frText (rest s d) a = frText s (d + a : Nat) := by
  have hr := frEnd_rest s d a h
  rw [if_neg he] at hr
  have hb := frEnd_bd s (d + a : Nat)
  have hl := frLast_rest s d a
  rw [frText_yes s _ he, frText_yes _ a (by omega)]
  apply ba_ext
  have e1 : frLast (rest s d) a = a + 2 + (frLast (rest s d) a - (a + 2)) := by unfold frLast; omega
  have e0 : a + 2 ≤ frLast (rest s d) a := by unfold frLast; omega
  have e2 : frLast s (d + a) = d + a + 2 + (frLast (rest s d) a - (a + 2)) := by omega
  rw [e2]
  conv => lhs; rw [e1]
  rw [extract_cut, extract_cut, cut_rest, show d + (a + 2) = d + a + 2 by omega]

/-- From a on, k skipped so far: the texts, where the rest begins, and how many are skipped then. -/
def fedF (s : ByteArray) : Nat → Nat → Int → List ByteArray × Nat × Int
  | 0, a, k => ([], a, k)
  | f + 1, a, k => if 0 ≤ frEnd s a then (frText s a :: (fedF s f (frEnd s a).toNat k).1, (fedF s f (frEnd s a).toNat k).2)
    else if frEnd s a = -1 then fedF s f (a + 1) (min 1000000 (k + 1)) else ([], a, k)
theorem fedF_text (s : ByteArray) (f a : Nat) (k : Int) (h : 0 ≤ frEnd s a) : fedF s (f + 1) a k = (frText s a :: (fedF s f (frEnd s a).toNat k).1, (fedF s f (frEnd s a).toNat k).2) := by simp only [fedF]; rw [if_pos h]
theorem fedF_bad (s : ByteArray) (f a : Nat) (k : Int) (h : frEnd s a = -1) : fedF s (f + 1) a k = fedF s f (a + 1) (min 1000000 (k + 1)) := by simp only [fedF]; rw [if_neg (by omega), if_pos h]
theorem fedF_end (s : ByteArray) (f a : Nat) (k : Int) (h : frEnd s a = -2) : fedF s (f + 1) a k = ([], a, k) := by simp only [fedF]; rw [if_neg (by omega), if_neg (by omega)]

/-- The three ways of a place. -/
theorem three (s : ByteArray) (a : Nat) : 0 ≤ frEnd s a ∨ frEnd s a = -1 ∨ frEnd s a = -2 := by have := frEnd_bd s a; omega
theorem bad_lt (s : ByteArray) (a : Nat) (h : a ≤ s.size) (hb : frEnd s a = -1) : a + 1 ≤ s.size := by
  by_cases e : a = s.size
  · rw [e, frEnd_at] at hb; omega
  · omega

/-- Enough fuel is enough. -/
theorem fedF_fuel (s : ByteArray) : ∀ (f g a : Nat) (k : Int), a ≤ s.size → s.size < f + a → s.size < g + a → fedF s f a k = fedF s g a k := by
  intro f
  induction f with
  | zero => intro g a k h1 h2 h3; omega
  | succ f ih =>
    intro g a k h1 h2 h3
    obtain ⟨g, rfl⟩ : ∃ q, g = q + 1 := ⟨g - 1, by omega⟩
    have hb := frEnd_bd s a
    rcases three s a with h | h | h
    · rw [fedF_text s f a k h, fedF_text s g a k h, ih g _ k (by omega) (by omega) (by omega)]
    · have := bad_lt s a h1 h
      rw [fedF_bad s f a k h, fedF_bad s g a k h, ih g _ _ (by omega) (by omega) (by omega)]
    · rw [fedF_end s f a k h, fedF_end s g a k h]

/-- Where it ends, it may go on. -/
theorem fedF_fin (s : ByteArray) : ∀ (f a : Nat) (k : Int), a ≤ s.size → s.size < f + a → 0 ≤ k → k ≤ 1000000 →
    a ≤ (fedF s f a k).2.1 ∧ (fedF s f a k).2.1 ≤ s.size ∧ frEnd s (fedF s f a k).2.1 = -2 ∧ 0 ≤ (fedF s f a k).2.2 ∧ (fedF s f a k).2.2 ≤ 1000000 ∧ (fedF s f a k).1.length + a ≤ (fedF s f a k).2.1 := by
  intro f
  induction f with
  | zero => intro a k h1 h2; omega
  | succ f ih =>
    intro a k h1 h2 hk1 hk2
    have hb := frEnd_bd s a
    rcases three s a with h | h | h
    · rw [fedF_text s f a k h]
      have := ih (frEnd s a).toNat k (by omega) (by omega) hk1 hk2
      simp only [List.length_cons]
      omega
    · have := bad_lt s a h1 h
      rw [fedF_bad s f a k h]
      have := ih (a + 1) (min 1000000 (k + 1)) (by omega) (by omega) (by omega) (by omega)
      omega
    · rw [fedF_end s f a k h]
      simp
      omega

/-- Of s and more behind it: what s alone tells first, then on from where its rest begins. -/
theorem fedF_more (s t : ByteArray) : ∀ (f g h a : Nat) (k : Int), a ≤ s.size → s.size < f + a → (s ++ t).size < g + a → (s ++ t).size < h + (fedF s f a k).2.1 →
    fedF (s ++ t) g a k = ((fedF s f a k).1 ++ (fedF (s ++ t) h (fedF s f a k).2.1 (fedF s f a k).2.2).1, (fedF (s ++ t) h (fedF s f a k).2.1 (fedF s f a k).2.2).2) := by
  have hsz : (s ++ t).size = s.size + t.size := ByteArray.size_append
  intro f
  induction f with
  | zero => intro g h a k h1 h2; omega
  | succ f ih =>
    intro g h a k h1 h2 h3 h4
    obtain ⟨g, rfl⟩ : ∃ q, g = q + 1 := ⟨g - 1, by omega⟩
    have hb := frEnd_bd s a
    rcases three s a with he | he | he
    · obtain ⟨m1, m2⟩ := frEnd_more s t a he
      rw [fedF_text s f a k he] at h4 ⊢
      rw [fedF_text (s ++ t) g a k (by rw [m1]; exact he), m1, m2, ih g h _ k (by omega) (by omega) (by omega) h4]
      simp
    · have hl := bad_lt s a h1 he
      rw [fedF_bad s f a k he] at h4 ⊢
      rw [fedF_bad (s ++ t) g a k (frEnd_bad s t a h1 he), ih g h _ _ (by omega) (by omega) (by omega) h4]
    · rw [fedF_end s f a k he] at h4 ⊢
      simp only [List.nil_append]
      rw [fedF_fuel (s ++ t) (g + 1) h a k (by omega) (by omega) h4]

/-- From d on, as if it began there. -/
theorem fedF_rest (s : ByteArray) (d : Nat) : ∀ (f a : Nat) (k : Int), d + a ≤ s.size → s.size < f + (d + a) →
    fedF (rest s d) f a k = ((fedF s f (d + a) k).1, (fedF s f (d + a) k).2.1 - d, (fedF s f (d + a) k).2.2) := by
  intro f
  induction f with
  | zero => intro a k h1 h2; omega
  | succ f ih =>
    intro a k h1 h2
    have hb := frEnd_bd s (d + a : Nat)
    have hr := frEnd_rest s d a h1
    rcases three s (d + a) with he | he | he
    · rw [if_neg (by omega)] at hr
      have ht := frText_rest s d a h1 (by omega)
      rw [fedF_text s f _ k he, fedF_text (rest s d) f a k (by omega), ht]
      have e1 : (frEnd (rest s d) a).toNat = (frEnd s (d + a : Nat)).toNat - d := by omega
      have e2 : d + ((frEnd s (d + a : Nat)).toNat - d) = (frEnd s (d + a : Nat)).toNat := by omega
      rw [e1, ih _ k (by omega) (by omega), e2]
    · have hl := bad_lt s (d + a) h1 he
      rw [if_pos (by omega), he] at hr
      rw [fedF_bad s f _ k he, fedF_bad (rest s d) f a k hr, ih _ _ (by omega) (by omega), show d + (a + 1) = d + a + 1 by omega]
    · rw [if_pos (by omega), he] at hr
      rw [fedF_end s f _ k he, fedF_end (rest s d) f a k hr]
      simp

/-- Where the feeding stands: these texts, then what begins at p. -/
def FedUpon (s : ByteArray) (k0 : Int) (xs : List ByteArray) (p : Nat) (k : Int) : Prop :=
  ∃ f, p ≤ s.size ∧ s.size < f + p ∧ xs.length ≤ p ∧ 0 ≤ k ∧ k ≤ 1000000 ∧ fedF s (s.size + 1) 0 k0 = (xs ++ (fedF s f p k).1, (fedF s f p k).2)
theorem fedUpon_start (s : ByteArray) (k : Int) (h0 : 0 ≤ k) (h1 : k ≤ 1000000) : FedUpon s k [] 0 k := ⟨s.size + 1, Nat.zero_le _, by omega, by simp, h0, h1, by simp⟩
theorem fedUpon_text (s : ByteArray) (k0 k : Int) (xs : List ByteArray) (p : Nat) (h : FedUpon s k0 xs p k) (he : 0 ≤ frEnd s p) : FedUpon s k0 (xs ++ [frText s p]) (frEnd s p).toNat k := by
  obtain ⟨f, h1, h2, h3, h4, h5, h6⟩ := h
  have hb := frEnd_bd s p
  obtain ⟨g, rfl⟩ : ∃ g, f = g + 1 := ⟨f - 1, by omega⟩
  refine ⟨g, by omega, by omega, by simp; omega, h4, h5, ?_⟩
  rw [h6, fedF_text s g p k he]
  simp
theorem fedUpon_bad (s : ByteArray) (k0 k : Int) (xs : List ByteArray) (p : Nat) (h : FedUpon s k0 xs p k) (he : frEnd s p = -1) : FedUpon s k0 xs (p + 1) (min 1000000 (k + 1)) := by
  obtain ⟨f, h1, h2, h3, h4, h5, h6⟩ := h
  have hl := bad_lt s p h1 he
  obtain ⟨g, rfl⟩ : ∃ g, f = g + 1 := ⟨f - 1, by omega⟩
  refine ⟨g, by omega, by omega, by omega, by omega, by omega, ?_⟩
  rw [h6, fedF_bad s g p k he]
theorem fedUpon_end (s : ByteArray) (k0 k : Int) (xs : List ByteArray) (p : Nat) (h : FedUpon s k0 xs p k) (he : frEnd s p = -2) : fedF s (s.size + 1) 0 k0 = (xs, p, k) := by
  obtain ⟨f, h1, h2, h3, h4, h5, h6⟩ := h
  obtain ⟨g, rfl⟩ : ∃ g, f = g + 1 := ⟨f - 1, by omega⟩
  rw [h6, fedF_end s g p k he]
  simp
theorem fedUpon_le (s : ByteArray) (k0 k : Int) (xs : List ByteArray) (p : Nat) (h : FedUpon s k0 xs p k) : p ≤ s.size ∧ xs.length ≤ p ∧ 0 ≤ k ∧ k ≤ 1000000 := by
  obtain ⟨f, h1, h2, h3, h4, h5, h6⟩ := h
  exact ⟨h1, h3, h4, h5⟩

/-- What may still come is shorter than the longest frame. -/
theorem more_small (r : ByteArray) (h : frEnd r 0 = -2) : r.size ≤ 63 := by
  by_cases h0 : 0 = r.size
  · omega
  have hlt : 0 < r.size := by omega
  have hin := frEnd_in r 0 hlt
  rw [show ((0 : Nat) : Int) = 0 from rfl, h] at hin
  by_cases h1 : byteI r 0 = 165
  · by_cases h2 : 0 + 1 = r.size
    · omega
    · by_cases h3 : 60 < byteI r (0 + 1)
      · rw [frIn_3 r 0 h1 h2 h3] at hin; omega
      · have hl : frLast r 0 ≤ 62 := by have := byteI_bd r (0 + 1); unfold frLast; omega
        by_cases h4 : r.size ≤ frLast r 0
        · omega
        · by_cases h5 : byteI r (frLast r 0) = frSum r 0 / 256
          · by_cases h6 : r.size ≤ frLast r 0 + 1
            · omega
            · by_cases h7 : byteI r (frLast r 0 + 1) = frSum r 0 % 256
              · rw [frIn_8 r 0 h1 h2 h3 h4 h5 h6 h7] at hin; omega
              · rw [frIn_7 r 0 h1 h2 h3 h4 h5 h6 h7] at hin; omega
          · rw [frIn_5 r 0 h1 h2 h3 h4 h5] at hin; omega
  · rw [frIn_1 r 0 h1] at hin; omega

end Go.Proofs.Ytbjkbhchcoabcah.Fr
