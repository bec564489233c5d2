/-
  Frames and their bytes: a frame is told where it stands, what is cut short may still come, one byte turned is told bad, and what is told has just those bytes. Plain lists; nothing of the program is imported.
-/
import Derived.Test.YtbjkbhchcoabcahFrameM
namespace Go.Proofs.Ytbjkbhchcoabcah.Fr
open Go.Proofs.Ytbjkbhchcoabcah.Nums

def hiB (z : UInt8) (l : List UInt8) : UInt8 := lastB (sumI (z :: l) / 256)
def loB (z : UInt8) (l : List UInt8) : UInt8 := lastB (sumI (z :: l))
def lenB (l : List UInt8) : UInt8 := lastB (l.length : Int)
/-- The bytes of a frame. -/
def fl (l : List UInt8) : List UInt8 := 165 :: lenB l :: (l ++ [hiB (lenB l) l, loB (lenB l) l])

theorem fl_length (l : List UInt8) : (fl l).length = l.length + 4 := by simp [fl]
theorem lenB_toNat (l : List UInt8) (h : l.length ≤ 60) : ((lenB l).toNat : Int) = l.length := by
  unfold lenB; rw [lastB_toNat]; omega
theorem hiB_toNat (z : UInt8) (l : List UInt8) : ((hiB z l).toNat : Int) = sumI (z :: l) / 256 := by
  have := sumI_bd (z :: l)
  unfold hiB; rw [lastB_toNat]; omega
theorem loB_toNat (z : UInt8) (l : List UInt8) : ((loB z l).toNat : Int) = sumI (z :: l) % 256 := by
  unfold loB; rw [lastB_toNat]
theorem showI_one (n : Int) : showI n 1 = [lastB n] := by simp [showI]
theorem showI_two (n : Int) : showI n 2 = [lastB (n / 256), lastB n] := by simp [showI]
theorem framed2_list (s : ByteArray) (h : s.size ≤ 60) : (framed2 s).data.toList = fl s.data.toList := by
  have hs : (showS (s.size : Int) 1).data.toList = [lenB s.data.toList] := by
    have ho : okShow (s.size : Int) 1 = true := (okShow_iff _ _).2 ⟨by omega, by omega, by omega, by simp; omega⟩
    unfold showS
    rw [if_pos ho]
    show (showI (s.size : Int) (1 : Int).toNat) = _
    rw [show (1 : Int).toNat = 1 from rfl, showI_one]
    simp [lenB]
  have hb : (bodyB s).data.toList = lenB s.data.toList :: s.data.toList := by unfold bodyB; simp [hs]
  have h2 : (showS (sumI (bodyB s).data.toList) 2).data.toList = [hiB (lenB s.data.toList) s.data.toList, loB (lenB s.data.toList) s.data.toList] := by
    have hbd := sumI_bd (bodyB s).data.toList
    have ho : okShow (sumI (bodyB s).data.toList) 2 = true := (okShow_iff _ _).2 ⟨by omega, by omega, by omega, by simp; omega⟩
    unfold showS
    rw [if_pos ho]
    show (showI (sumI (bodyB s).data.toList) (2 : Int).toNat) = _
    rw [show (2 : Int).toNat = 2 from rfl, showI_two, hb]
    rfl
  unfold framed2
  simp only [ByteArray.data_append, Array.toList_append]
  rw [h2, hb]
  rfl

theorem byteI_list (s : ByteArray) (i : Nat) (L : List UInt8) (h : s.data.toList = L) : byteI s i = ((L.getD i 0).toNat : Int) := by unfold byteI; rw [h]
theorem size_list (s : ByteArray) (L : List UInt8) (h : s.data.toList = L) : s.size = L.length := by rw [← h]; simp

/-- What is told at a frame whose two last bytes are hi, lo. -/
theorem frIn_of (s : ByteArray) (pre l post : List UInt8) (z hi lo : UInt8) (hL : s.data.toList = pre ++ (165 :: z :: (l ++ hi :: lo :: post))) (hz : (z.toNat : Int) = l.length) (hl : l.length ≤ 60) :
    frLast s pre.length = pre.length + 2 + l.length ∧
    frIn s pre.length = if (hi.toNat : Int) ≠ sumI (z :: l) / 256 then -1 else if (lo.toNat : Int) ≠ sumI (z :: l) % 256 then -1 else ((pre.length + l.length + 4 : Nat) : Int) := by
  have hsz : s.size = pre.length + (l.length + (post.length + 2) + 2) := by rw [size_list s _ hL]; simp
  have e0 : byteI s pre.length = 165 := by rw [byteI_list s _ _ hL]; simp
  have e1 : byteI s (pre.length + 1) = l.length := by rw [byteI_list s _ _ hL, ← hz]; simp
  have eL : frLast s pre.length = pre.length + 2 + l.length := by unfold frLast; rw [e1]; simp
  have e2 : byteI s (pre.length + 2 + l.length) = hi.toNat := by
    rw [byteI_list s _ _ hL]
    rw [show pre.length + 2 + l.length = pre.length + (l.length + 2) from by omega]
    simp
  have e3 : byteI s (pre.length + 2 + l.length + 1) = lo.toNat := by
    rw [byteI_list s _ _ hL]
    rw [show pre.length + 2 + l.length + 1 = pre.length + (l.length + 1 + 2) from by omega]
    simp
  have e4 : frSum s pre.length = sumI (z :: l) := by
    unfold frSum cut
    rw [e1, hL]
    congr 1
    rw [List.drop_append, List.drop_of_length_le (by omega)]
    simp
  refine ⟨eL, ?_⟩
  by_cases h1 : (hi.toNat : Int) = sumI (z :: l) / 256
  · rw [if_neg (by simpa using h1)]
    by_cases h2 : (lo.toNat : Int) = sumI (z :: l) % 256
    · rw [if_neg (by simpa using h2), frIn_8 s _ e0 (by omega) (by omega) (by omega) (by rw [eL, e2, e4]; exact h1) (by omega) (by rw [eL, e3, e4]; exact h2), eL]
      congr 1
      omega
    · rw [if_pos (by simpa using h2), frIn_7 s _ e0 (by omega) (by omega) (by omega) (by rw [eL, e2, e4]; exact h1) (by omega) (by rw [eL, e3, e4]; exact h2)]
  · rw [if_pos (by simpa using h1), frIn_5 s _ e0 (by omega) (by omega) (by omega) (by rw [eL, e2, e4]; exact h1)]

theorem frIn_fl (s : ByteArray) (pre l post : List UInt8) (hL : s.data.toList = pre ++ (fl l ++ post)) (hl : l.length ≤ 60) :
    frLast s pre.length = pre.length + 2 + l.length ∧ frIn s pre.length = ((pre.length + l.length + 4 : Nat) : Int) := by
  have := frIn_of s pre l post (lenB l) (hiB (lenB l) l) (loB (lenB l) l) (by rw [hL]; simp [fl]) (lenB_toNat l hl) hl
  rw [if_neg (by simpa using hiB_toNat _ _), if_neg (by simpa using loB_toNat _ _)] at this
  exact this
/-- A frame is told, whatever is ahead of it and behind it. -/
theorem frEnd_fl (s : ByteArray) (pre l post : List UInt8) (hL : s.data.toList = pre ++ (fl l ++ post)) (hl : l.length ≤ 60) :
    frEnd s pre.length = ((pre.length + l.length + 4 : Nat) : Int) ∧ (frText s pre.length).data.toList = l := by
  have hsz : s.size = pre.length + (l.length + 4 + post.length) := by rw [size_list s _ hL]; simp [fl_length]
  have h := frIn_fl s pre l post hL hl
  have he : frEnd s pre.length = ((pre.length + l.length + 4 : Nat) : Int) := by rw [frEnd_in s _ (by omega)]; exact h.2
  refine ⟨he, ?_⟩
  rw [frText_yes s _ (by omega), h.1, show pre.length + 2 + l.length = pre.length + 2 + l.length from rfl, extract_cut]
  unfold cut
  rw [hL, List.drop_append, List.drop_of_length_le (by omega)]
  simp [fl]
/-- What is cut short of a frame may still come. -/
theorem frEnd_short (s : ByteArray) (pre l : List UInt8) (k : Nat) (hk : k < l.length + 4) (hL : s.data.toList = pre ++ (fl l).take k) (hl : l.length ≤ 60) : frEnd s pre.length < 0 := by
  have hsz : s.size = pre.length + k := by rw [size_list s _ hL]; simp [fl_length]; omega
  by_cases h0 : k = 0
  · subst h0
    have : pre.length = s.size := by omega
    rw [this, frEnd_at]; decide
  · rw [frEnd_in s _ (by omega)]
    obtain ⟨k1, rfl⟩ : ∃ k1, k = k1 + 1 := ⟨k - 1, by omega⟩
    have e0 : byteI s pre.length = 165 := by rw [byteI_list s _ _ hL]; simp [fl]
    by_cases h1 : k1 = 0
    · rw [frIn_2 s _ e0 (by omega)]; decide
    · obtain ⟨k2, rfl⟩ : ∃ k2, k1 = k2 + 1 := ⟨k1 - 1, by omega⟩
      have e1 : byteI s (pre.length + 1) = l.length := by rw [byteI_list s _ _ hL, ← lenB_toNat l hl]; simp [fl]
      have eL : frLast s pre.length = pre.length + 2 + l.length := by unfold frLast; rw [e1]; simp
      by_cases h4 : s.size ≤ frLast s pre.length
      · rw [frIn_4 s _ e0 (by omega) (by omega) h4]; decide
      · have hk2 : k2 = l.length + 1 := by omega
        subst hk2
        have e2 : byteI s (pre.length + 2 + l.length) = sumI (lenB l :: l) / 256 := by
          rw [byteI_list s _ _ hL, ← hiB_toNat, show pre.length + 2 + l.length = pre.length + (l.length + 2) from by omega]
          simp [fl]
        have e4 : frSum s pre.length = sumI (lenB l :: l) := by
          unfold frSum cut
          rw [e1, hL]
          congr 1
          rw [List.drop_append, List.drop_of_length_le (by omega)]
          simp [fl, List.take_append]
          exact List.take_of_length_le (by omega)
        rw [frIn_6 s _ e0 (by omega) (by omega) h4 (by rw [eL, e2, e4]) (by omega)]; decide

theorem stepS_ne (h1 h2 : Int) (c : UInt8) (a1 : 0 ≤ h1 ∧ h1 ≤ 65520) (a2 : 0 ≤ h2 ∧ h2 ≤ 65520) (h : h1 ≠ h2) : stepS h1 c ≠ stepS h2 c := by unfold stepS; omega
theorem foldS_ne (l : List UInt8) : ∀ h1 h2 : Int, (0 ≤ h1 ∧ h1 ≤ 65520) → (0 ≤ h2 ∧ h2 ≤ 65520) → h1 ≠ h2 → l.foldl stepS h1 ≠ l.foldl stepS h2 := by
  induction l with
  | nil => intro h1 h2 _ _ h; exact h
  | cons c l ih => intro h1 h2 a1 a2 h; exact ih _ _ (stepS_bd _ _) (stepS_bd _ _) (stepS_ne h1 h2 c a1 a2 h)
theorem byte_step_ne (h : Int) (c d : UInt8) (e : c ≠ d) : stepS h c ≠ stepS h d := by
  have h1 := byte_lt c
  have h2 := byte_lt d
  have : c.toNat ≠ d.toNat := fun x => e (UInt8.toNat.inj x)
  unfold stepS
  omega
/-- One byte turned turns the sum. -/
theorem sumI_set (l : List UInt8) (i : Nat) (v : UInt8) (h : i < l.length) (e : l[i] ≠ v) : sumI (l.set i v) ≠ sumI l := by
  have h1 : l = l.take i ++ l[i] :: l.drop (i + 1) := by rw [← List.drop_eq_getElem_cons h, List.take_append_drop]
  have h2 : l.set i v = l.take i ++ v :: l.drop (i + 1) := List.set_eq_take_append_cons_drop.trans (by rw [if_pos h])
  rw [h2]
  conv => rhs; rw [h1]
  unfold sumI
  rw [List.foldl_append, List.foldl_append, List.foldl_cons, List.foldl_cons]
  exact foldS_ne _ _ _ (stepS_bd _ _) (stepS_bd _ _) (byte_step_ne _ _ _ (Ne.symm e))

/-- One byte turned, but for the second one: it is none. -/
theorem bent (s : ByteArray) (l : List UInt8) (a : Nat) (v : UInt8) (hl : l.length ≤ 60) (ha : a < l.length + 4) (h1 : a ≠ 1) (hL : s.data.toList = (fl l).set a v) (hv : (fl l)[a]? ≠ some v) : frEnd s 0 = -1 := by
  have hsz : s.size = l.length + 4 := by rw [size_list s _ hL]; simp [fl_length]
  have hin : frEnd s 0 = frIn s 0 := frEnd_in s 0 (by omega)
  rw [hin]
  match a, ha, h1, hL, hv with
  | 0, _, _, hL, hv =>
    apply frIn_1
    rw [byteI_list s _ _ hL]
    simp [fl] at hv ⊢
    intro h
    apply hv
    apply UInt8.toNat.inj
    show 165 = _
    omega
  | a + 2, ha, _, hL, hv =>
    by_cases hj : a < l.length
    · have e : s.data.toList = [] ++ (165 :: lenB l :: (l.set a v ++ hiB (lenB l) l :: loB (lenB l) l :: [])) := by
        rw [hL]; simp [fl, hj]
      have hne : l[a] ≠ v := by
        simp [fl, List.getElem?_append, hj] at hv
        exact hv
      have hr := (frIn_of s [] (l.set a v) [] (lenB l) _ _ e (by rw [lenB_toNat l hl]; simp) (by simpa using hl)).2
      have hs := sumI_set (lenB l :: l) (a + 1) v (by simpa using hj) (by simpa using hne)
      simp only [List.set_cons_succ] at hs
      have b1 := sumI_bd (lenB l :: l)
      have b2 := sumI_bd (lenB l :: l.set a v)
      rw [show (0 : Nat) = ([] : List UInt8).length from rfl, hr, hiB_toNat, loB_toNat]
      by_cases c1 : sumI (lenB l :: l) / 256 = sumI (lenB l :: l.set a v) / 256
      · rw [if_neg (by simpa using c1), if_pos (by omega)]
      · rw [if_pos c1]
    · by_cases hj2 : a = l.length
      · subst hj2
        have e : s.data.toList = [] ++ (165 :: lenB l :: (l ++ v :: loB (lenB l) l :: [])) := by
          rw [hL]; simp [fl]
        have hne : hiB (lenB l) l ≠ v := by
          simp [fl] at hv
          exact hv
        have hr := (frIn_of s [] l [] (lenB l) _ _ e (lenB_toNat l hl) hl).2
        rw [show (0 : Nat) = ([] : List UInt8).length from rfl, hr, if_pos]
        rw [← hiB_toNat]
        intro h
        exact hne (UInt8.toNat.inj (by omega))
      · have hj3 : a = l.length + 1 := by omega
        subst hj3
        have e : s.data.toList = [] ++ (165 :: lenB l :: (l ++ hiB (lenB l) l :: v :: [])) := by
          rw [hL]; simp [fl]
        have hne : loB (lenB l) l ≠ v := by
          simp [fl] at hv
          exact hv
        have hr := (frIn_of s [] l [] (lenB l) _ _ e (lenB_toNat l hl) hl).2
        rw [show (0 : Nat) = ([] : List UInt8).length from rfl, hr, if_neg (by simpa using hiB_toNat _ _), if_pos]
        rw [← loB_toNat]
        intro h
        exact hne (UInt8.toNat.inj (by omega))

theorem byteI_get (s : ByteArray) (i : Nat) (h : i < s.data.toList.length) : byteI s i = (s.data.toList[i].toNat : Int) := by
  unfold byteI; rw [List.getD_eq_getElem?_getD, List.getElem?_eq_getElem h]; rfl
/-- What is told has just those bytes. -/
theorem frEnd_has (s : ByteArray) (p : Nat) (h : 0 ≤ frEnd s p) : ∃ l post, l.length ≤ 60 ∧ s.data.toList = s.data.toList.take p ++ (fl l ++ post) ∧ (frText s p).data.toList = l ∧ frEnd s p = ((p + l.length + 4 : Nat) : Int) := by
  have hbd := frEnd_bd s p
  have hp : p < s.size := by omega
  have hin := frEnd_in s p hp
  rw [hin] at h
  by_cases h1 : byteI s p = 165
  · by_cases h2 : p + 1 = s.size
    · rw [frIn_2 s p h1 h2] at h; omega
    · by_cases h3 : 60 < byteI s (p + 1)
      · rw [frIn_3 s p h1 h2 h3] at h; omega
      · by_cases h4 : s.size ≤ frLast s p
        · rw [frIn_4 s p h1 h2 h3 h4] at h; omega
        · by_cases h5 : byteI s (frLast s p) = frSum s p / 256
          · by_cases h6 : s.size ≤ frLast s p + 1
            · rw [frIn_6 s p h1 h2 h3 h4 h5 h6] at h; omega
            · by_cases h7 : byteI s (frLast s p + 1) = frSum s p % 256
              · have hv := frIn_8 s p h1 h2 h3 h4 h5 h6 h7
                have hb := byteI_bd s (p + 1)
                obtain ⟨z, hz⟩ := Int.eq_ofNat_of_zero_le hb.1
                have eL : frLast s p = p + 2 + z := by unfold frLast; rw [hz]; rfl
                have hlen : s.data.toList.length = s.size := by simp
                generalize hD : s.data.toList = L at *
                have hl : ((L.drop (p + 2)).take z).length = z := by simp; omega
                have d0 : L.drop p = L[p]'(by omega) :: L.drop (p + 1) := List.drop_eq_getElem_cons (by omega)
                have d1 : L.drop (p + 1) = L[p + 1]'(by omega) :: L.drop (p + 2) := List.drop_eq_getElem_cons (by omega)
                have d2 : L.drop (p + 2) = (L.drop (p + 2)).take z ++ L.drop (p + 2 + z) := (List.take_append_drop z (L.drop (p + 2))).symm.trans (by rw [List.drop_drop])
                have d3 : L.drop (p + 2 + z) = L[p + 2 + z]'(by omega) :: L.drop (p + 2 + z + 1) := List.drop_eq_getElem_cons (by omega)
                have d4 : L.drop (p + 2 + z + 1) = L[p + 2 + z + 1]'(by omega) :: L.drop (p + 2 + z + 2) := List.drop_eq_getElem_cons (by omega)
                have g0 : L[p]'(by omega) = 165 := by
                  have := byteI_get s p (by rw [hD]; omega)
                  simp only [hD] at this
                  apply UInt8.toNat.inj
                  show _ = 165
                  omega
                have g1 : L[p + 1]'(by omega) = lenB ((L.drop (p + 2)).take z) := by
                  have := byteI_get s (p + 1) (by rw [hD]; omega)
                  simp only [hD] at this
                  have h60 := lenB_toNat ((L.drop (p + 2)).take z) (by omega)
                  apply UInt8.toNat.inj
                  omega
                have hsum : frSum s p = sumI (lenB ((L.drop (p + 2)).take z) :: (L.drop (p + 2)).take z) := by
                  unfold frSum cut
                  rw [hz, hD, d1, g1]
                  simp
                have g2 : L[p + 2 + z]'(by omega) = hiB (lenB ((L.drop (p + 2)).take z)) ((L.drop (p + 2)).take z) := by
                  have := byteI_get s (p + 2 + z) (by rw [hD]; omega)
                  simp only [hD] at this
                  have hh := hiB_toNat (lenB ((L.drop (p + 2)).take z)) ((L.drop (p + 2)).take z)
                  rw [← hsum] at hh
                  rw [eL] at h5
                  apply UInt8.toNat.inj
                  omega
                have g3 : L[p + 2 + z + 1]'(by omega) = loB (lenB ((L.drop (p + 2)).take z)) ((L.drop (p + 2)).take z) := by
                  have := byteI_get s (p + 2 + z + 1) (by rw [hD]; omega)
                  simp only [hD] at this
                  have hh := loB_toNat (lenB ((L.drop (p + 2)).take z)) ((L.drop (p + 2)).take z)
                  rw [← hsum] at hh
                  rw [eL] at h7
                  apply UInt8.toNat.inj
                  omega
                refine ⟨(L.drop (p + 2)).take z, L.drop (p + 2 + z + 2), by omega, ?_, ?_, ?_⟩
                · generalize (L.drop (p + 2)).take z = X at g1 g2 g3 d2 ⊢
                  have hd : L.drop p = fl X ++ L.drop (p + 2 + z + 2) := by
                    rw [d0, g0, d1, g1, d2, d3, g2, d4, g3]; simp [fl]
                  rw [← hd]
                  exact (List.take_append_drop p L).symm
                · rw [frText_yes s p (by omega), eL, extract_cut]
                  unfold cut
                  rw [hD]
                · rw [hin, hv, eL, hl]
                  congr 1
                  omega
              · rw [frIn_7 s p h1 h2 h3 h4 h5 h6 h7] at h; omega
          · rw [frIn_5 s p h1 h2 h3 h4 h5] at h; omega
  · rw [frIn_1 s p h1] at h; omega

end Go.Proofs.Ytbjkbhchcoabcah.Fr
