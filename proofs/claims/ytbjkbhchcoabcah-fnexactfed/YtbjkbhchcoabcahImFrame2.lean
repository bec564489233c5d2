/-
  The program's FrameAt at every argument.
-/
import Derived.Test.YtbjkbhchcoabcahImFrame
import Derived.Test.YtbjkbhchcoabcahFrameP
namespace Go.Proofs.Ytbjkbhchcoabcah
open Go.RowKit
set_option linter.unusedVariables false
set_option maxRecDepth 100000

theorem rest_byte (s : ByteArray) (p i : Nat) (h : p + i < s.size) : Fr.byteI (s.extract p s.size) i = Fr.byteI s (p + i) := by
  have hc := Fr.extract_cut s p (s.size - p)
  rw [show p + (s.size - p) = s.size by omega] at hc
  unfold Fr.byteI
  rw [hc]
  unfold Fr.cut
  rw [List.getD_eq_getElem?_getD, List.getD_eq_getElem?_getD, List.getElem?_take_of_lt (by omega), List.getElem?_drop]
theorem rest_size (s : ByteArray) (p : Nat) : (s.extract p s.size).size = s.size - p := by rw [ByteArray.size_extract]; omega

theorem framedS_size (t : ByteArray) (h : t.size ≤ 60) : (Fr.framedS t).size = t.size + 4 := by
  rw [Fr.size_list _ _ (Fr.framedS_list t h), Fr.fl_length]
  simp

theorem implFrame_out (s : ByteArray) (a : Int) (w : World) (hs : s.size ≤ 1099511627776) (h : a < 0 ∨ (s.size : Int) < a) :
    Calls Try.prog 38 #[.string s, .int .i64 a] w fun e w' => e = .returned (.tuple #[.string ByteArray.empty, .int .i64 (-1)]) ∧ w' = w := by
  by_cases h0 : a < 0
  · go_enter Try.func38, Try.ntmps38
    go_wp2_with fail
    go_ret2
    exact ⟨rfl, rfl⟩
  · have h1 : (s.size : Int) < a := by omega
    go_enter Try.func38, Try.ntmps38
    go_wp2_with fail
    go_ret2
    exact ⟨rfl, rfl⟩

theorem implFrame_len (s : ByteArray) (p : Nat) (w : World) (hs : s.size ≤ 1099511627776) (hp : p ≤ s.size) (h : tellLen (s.extract p s.size) < 0) :
    Calls Try.prog 38 #[.string s, .int .i64 p] w fun e w' => e = .returned (.tuple #[.string ByteArray.empty, .int .i64 (tellLen (s.extract p s.size))]) ∧ w' = w := by
  have hr := rest_size s p
  go_enter Try.func38, Try.ntmps38
  go_wp2_with fail
  refine (tell_any (s.extract p s.size) _ (by omega)).mono ?_
  rintro e w1 ⟨rfl, rfl⟩
  go_wp2_with fail
  go_ret2
  exact ⟨rfl, rfl⟩

theorem implFrame_short (s : ByteArray) (p z : Nat) (w : World) (hs : s.size ≤ 1099511627776) (hp : p ≤ s.size) (h : tellLen (s.extract p s.size) = z) (hz : z ≤ 60) (h4 : s.size < p + 2 + z) :
    Calls Try.prog 38 #[.string s, .int .i64 p] w fun e w' => e = .returned (.tuple #[.string ByteArray.empty, .int .i64 (-2)]) ∧ w' = w := by
  have hr := rest_size s p
  go_enter Try.func38, Try.ntmps38
  go_wp2_with fail
  refine (tell_any (s.extract p s.size) _ (by omega)).mono ?_
  rintro e w1 ⟨rfl, rfl⟩
  rw [h]
  have hlt : ((s.extract p s.size).size : Int) < 2 + z := by omega
  go_wp2_with fail
  go_ret2
  exact ⟨rfl, rfl⟩

/-- Where the text is there: what is told hangs on whether the rest begins with the frame, or the frame with the rest. -/
def midEnd (r : ByteArray) (p : Nat) (t : ByteArray) : Int :=
  if preB r (Fr.framedS t) = true then (p : Int) + (Fr.framedS t).size else if preB (Fr.framedS t) r = true then -2 else -1
def midText (r t : ByteArray) : ByteArray := if preB r (Fr.framedS t) = true then t else ByteArray.empty

theorem mid_1 (r t : ByteArray) (p : Nat) (h : preB r (Fr.framedS t) = true) : midText r t = t ∧ midEnd r p t = (p : Int) + (Fr.framedS t).size := by
  unfold midText midEnd; rw [if_pos h, if_pos h]; exact ⟨rfl, rfl⟩
theorem mid_2 (r t : ByteArray) (p : Nat) (h : preB r (Fr.framedS t) = false) (h2 : preB (Fr.framedS t) r = true) : midText r t = ByteArray.empty ∧ midEnd r p t = -2 := by
  unfold midText midEnd; rw [if_neg (by simp [h]), if_neg (by simp [h]), if_pos h2]; exact ⟨rfl, rfl⟩
theorem mid_3 (r t : ByteArray) (p : Nat) (h : preB r (Fr.framedS t) = false) (h2 : preB (Fr.framedS t) r = false) : midText r t = ByteArray.empty ∧ midEnd r p t = -1 := by
  unfold midText midEnd; rw [if_neg (by simp [h]), if_neg (by simp [h]), if_neg (by simp [h2])]; exact ⟨rfl, rfl⟩

set_option maxHeartbeats 800000 in
theorem implFrame_mid (s r t : ByteArray) (p z : Nat) (w : World) (hs : s.size ≤ 1099511627776) (hp : p ≤ s.size) (hr : s.extract p s.size = r) (ht : r.extract 2 (2 + z) = t) (h : tellLen r = z) (hz : z ≤ 60) (h4 : p + 2 + z ≤ s.size) :
    Calls Try.prog 38 #[.string s, .int .i64 p] w fun e w' => e = .returned (.tuple #[.string (midText r t), .int .i64 (midEnd r p t)]) ∧ Below w.heap.size w w' := by
  have hrs : r.size = s.size - p := by rw [← hr]; exact rest_size s p
  have hts : t.size ≤ 60 := by rw [← ht, ByteArray.size_extract]; omega
  have hws := framedS_size t hts
  have hle : (2 : Int) + z ≤ (r.size : Int) := by omega
  have HT : Hid (r.extract 2 (2 + z) = t) := ht
  have HL : Hid (tellLen r = z) := h
  clear ht h
  go_enter Try.func38, Try.ntmps38
  go_wp2_with fail
  clear hr
  refine (tell_any r _ (by omega)).mono ?_
  rintro e w1 ⟨rfl, rfl⟩
  rw [HL.out]
  clear HL
  go_wp2_with fail
  rw [HT.out]
  clear HT
  refine (implFramed_any t _ (by omega)).mono ?_
  rintro e w2 ⟨rfl, b2⟩
  obtain ⟨f, hf⟩ : ∃ f, f = Fr.framedS t := ⟨_, rfl⟩
  have HM1 : Hid (preB r f = true → midText r t = t ∧ midEnd r p t = (p : Int) + f.size) := by rw [hf]; exact mid_1 r t p
  have HM2 : Hid (preB r f = false → preB f r = true → midText r t = ByteArray.empty ∧ midEnd r p t = -2) := by rw [hf]; exact mid_2 r t p
  have HM3 : Hid (preB r f = false → preB f r = false → midText r t = ByteArray.empty ∧ midEnd r p t = -1) := by rw [hf]; exact mid_3 r t p
  rw [← hf] at hws ⊢
  clear hf
  go_wp2_with fail
  refine (hasPre_any r f _ (by omega) (by omega)).mono ?_
  rintro e w3 ⟨rfl, rfl⟩
  cases h1 : preB r f
  · go_wp2_with fail
    refine (hasPre_any f r _ (by omega) (by omega)).mono ?_
    rintro e w4 ⟨rfl, rfl⟩
    cases h2 : preB f r
    · have hm := HM3.out h1 h2
      have HM : Hid (midText r t = ByteArray.empty ∧ midEnd r p t = -1) := hm
      clear hm
      go_wp2_with fail
      go_ret2
      exact ⟨ret_two (by rw [HM.out.1]; rfl) (by rw [HM.out.2]; rfl), b2⟩
    · have HM : Hid (midText r t = ByteArray.empty ∧ midEnd r p t = -2) := HM2.out h1 h2
      go_wp2_with fail
      go_ret2
      exact ⟨ret_two (by rw [HM.out.1]; rfl) (by rw [HM.out.2]; rfl), b2⟩
  · have HM : Hid (midText r t = t ∧ midEnd r p t = (p : Int) + f.size) := HM1.out h1
    go_wp2_with fail
    refine (clone_any t _ (by omega)).mono ?_
    rintro e w4 ⟨rfl, b4⟩
    go_wp2_with fail
    go_ret2
    exact ⟨ret_two (by rw [HM.out.1]; rfl) (by rw [HM.out.2, hws]; rfl), b2.trans (b4.mono b2.size)⟩

theorem mid_prefix (r t : ByteArray) (z : UInt8) (tail : List UInt8) (ht : t.size ≤ 60) (hz : (z.toNat : Int) = t.size) (hr : r.data.toList = 165 :: z :: (t.data.toList ++ tail)) :
    (preB r (Fr.framedS t) = true ↔ [Fr.hiB z t.data.toList, Fr.loB z t.data.toList] <+: tail) ∧ (preB (Fr.framedS t) r = true ↔ tail <+: [Fr.hiB z t.data.toList, Fr.loB z t.data.toList]) := by
  have hl : Fr.lenB t.data.toList = z := by
    have := Fr.lenB_toNat t.data.toList (by simpa using ht)
    apply UInt8.toNat_inj.1
    simp at this
    omega
  rw [preB_iff, preB_iff, Fr.framedS_list t ht, hr]
  unfold Fr.fl
  rw [hl]
  constructor
  · rw [List.cons_prefix_cons, List.cons_prefix_cons, List.prefix_append_right_inj]
    simp
  · rw [List.cons_prefix_cons, List.cons_prefix_cons, List.prefix_append_right_inj]
    simp

theorem byteI_drop (s : ByteArray) (p i : Nat) : Fr.byteI s (p + i) = (((s.data.toList.drop p).getD i 0).toNat : Int) := by
  unfold Fr.byteI
  rw [List.getD_eq_getElem?_getD, List.getD_eq_getElem?_getD, List.getElem?_drop]
theorem rest_drop (s : ByteArray) (p : Nat) (hp : p ≤ s.size) : (s.extract p s.size).data.toList = s.data.toList.drop p := by
  have hc := Fr.extract_cut s p (s.size - p)
  rw [show p + (s.size - p) = s.size by omega] at hc
  rw [hc]
  unfold Fr.cut
  apply List.take_of_length_le
  simp
theorem two_of (l : List UInt8) (h : 2 ≤ l.length) : ∃ a b m, l = a :: b :: m := by
  match l, h with
  | [], h => exact absurd h (by decide)
  | [_], h => exact absurd (show 2 ≤ 1 from h) (by decide)
  | a :: b :: m, _ => exact ⟨a, b, m, rfl⟩

theorem mid_value (s r t : ByteArray) (p z : Nat) (hr : s.extract p s.size = r) (ht : r.extract 2 (2 + z) = t) (h1 : Fr.byteI s p = 165) (hz : Fr.byteI s (p + 1) = z) (h3 : z ≤ 60) (h4 : p + 2 + z ≤ s.size) :
    midText r t = Fr.frText s p ∧ midEnd r p t = Fr.frEnd s p := by
  have hp : p < s.size := by omega
  have hrl : r.data.toList = s.data.toList.drop p := by rw [← hr]; exact rest_drop s p (by omega)
  have htl : t.data.toList = ((s.data.toList.drop p).drop 2).take z := by rw [← ht, Fr.extract_cut]; unfold Fr.cut; rw [hrl]
  have hlen : (s.data.toList.drop p).length = s.size - p := by simp
  have hd2 : s.data.toList.drop (p + 1) = (s.data.toList.drop p).drop 1 := by rw [List.drop_drop]
  have b0 := byteI_drop s p 0
  have b1 := byteI_drop s p 1
  have bz := byteI_drop s p (2 + z)
  have bz1 := byteI_drop s p (2 + z + 1)
  have hex : s.extract (p + 2) (p + 2 + z) = t := by
    apply Fr.ba_ext
    rw [htl, Fr.extract_cut]
    unfold Fr.cut
    rw [List.drop_drop]
  have hlast : Fr.frLast s p = p + (2 + z) := by unfold Fr.frLast; rw [hz]; simp; omega
  have hsum : Fr.frSum s p = Nums.sumI (((s.data.toList.drop p).drop 1).take (z + 1)) := by unfold Fr.frSum Fr.cut; rw [hz, hd2]; rfl
  have hin := Fr.frEnd_in s p hp
  obtain ⟨a, b, m, hm⟩ := two_of (s.data.toList.drop p) (by omega)
  rw [hm] at hrl htl hlen b0 b1 bz bz1 hsum
  clear hd2 hm
  have hb : (b.toNat : Int) = z := by simp at b1; omega
  have ha : a = 165 := by
    apply UInt8.toNat_inj.1
    have : (a.toNat : Int) = 165 := by simp at b0; omega
    rw [show a.toNat = 165 by omega]; rfl
  subst ha
  have hml : m.length = s.size - p - 2 := by simp at hlen; omega
  have hts : t.size = z := by rw [Fr.size_list t _ htl]; simp; omega
  have htl2 : t.data.toList = m.take z := by simpa using htl
  have hsum2 : Fr.frSum s p = Nums.sumI (b :: t.data.toList) := by rw [hsum, htl2]; simp
  have hhi := Fr.hiB_toNat b t.data.toList
  have hlo := Fr.loB_toNat b t.data.toList
  rw [← hsum2] at hhi hlo
  have hrl2 : r.data.toList = 165 :: b :: (t.data.toList ++ m.drop z) := by rw [hrl, htl2, List.take_append_drop]
  obtain ⟨hA, hB⟩ := mid_prefix r t b (m.drop z) (by omega) (by omega) hrl2
  have hfs := framedS_size t (by omega)
  have n2 : ¬ p + 1 = s.size := by omega
  have n3 : ¬ 60 < Fr.byteI s (p + 1) := by omega
  generalize Fr.hiB b t.data.toList = hi at *
  generalize Fr.loB b t.data.toList = lo at *
  have g0 : (m.drop z)[0]? = m[z]? := by simp
  have g1 : (m.drop z)[1]? = m[z + 1]? := by simp
  have e0 : Fr.byteI s (p + (2 + z)) = ((m[z]?.getD 0).toNat : Int) := by rw [bz, List.getD_eq_getElem?_getD, show 2 + z = z + 1 + 1 by omega]; simp
  have e1 : Fr.byteI s (p + (2 + z) + 1) = ((m[z + 1]?.getD 0).toNat : Int) := by rw [show p + (2 + z) + 1 = p + (2 + z + 1) by omega, bz1, List.getD_eq_getElem?_getD, show 2 + z + 1 = z + 1 + 1 + 1 by omega]; simp
  have hdl : (m.drop z).length = s.size - p - 2 - z := by rw [List.length_drop, hml]
  generalize m.drop z = tl at *
  match tl, hA, hB, g0, g1, hdl with
  | [], hA, hB, g0, g1, hdl =>
    have hv := Fr.frIn_4 s p h1 n2 n3 (by rw [hlast]; simp at hdl; omega)
    obtain ⟨q1, q2⟩ := mid_2 r t p (by rw [Bool.eq_false_iff, ne_eq, hA]; simp) (by rw [hB]; simp)
    rw [q1, q2, hin, hv]
    exact ⟨(Fr.frText_no s p (by rw [hin, hv]; decide)).symm, rfl⟩
  | [c], hA, hB, g0, g1, hdl =>
    rw [← g0] at e0
    have n4 : ¬ s.size ≤ Fr.frLast s p := by rw [hlast]; simp at hdl; omega
    by_cases h5 : c = hi
    · have hv := Fr.frIn_6 s p h1 n2 n3 n4 (by rw [hlast, e0, ← hhi, h5]; rfl) (by rw [hlast]; simp at hdl; omega)
      obtain ⟨q1, q2⟩ := mid_2 r t p (by rw [Bool.eq_false_iff, ne_eq, hA]; intro e; have := e.length_le; simp at this) (by rw [hB]; simp [h5])
      rw [q1, q2, hin, hv]
      exact ⟨(Fr.frText_no s p (by rw [hin, hv]; decide)).symm, rfl⟩
    · have hne : ¬ Fr.byteI s (Fr.frLast s p) = Fr.frSum s p / 256 := by
        rw [hlast, e0, ← hhi]
        intro e
        exact h5 (UInt8.toNat_inj.1 (by simp at e; omega))
      have hv := Fr.frIn_5 s p h1 n2 n3 n4 hne
      obtain ⟨q1, q2⟩ := mid_3 r t p (by rw [Bool.eq_false_iff, ne_eq, hA]; intro e; have := e.length_le; simp at this) (by rw [Bool.eq_false_iff, ne_eq, hB]; simp [h5])
      rw [q1, q2, hin, hv]
      exact ⟨(Fr.frText_no s p (by rw [hin, hv]; decide)).symm, rfl⟩
  | c :: d :: tl, hA, hB, g0, g1, hdl =>
    rw [← g0] at e0
    rw [← g1] at e1
    have n4 : ¬ s.size ≤ Fr.frLast s p := by rw [hlast]; simp at hdl; omega
    have n6 : ¬ s.size ≤ Fr.frLast s p + 1 := by rw [hlast]; simp at hdl; omega
    by_cases h5 : c = hi
    · have k5 : Fr.byteI s (Fr.frLast s p) = Fr.frSum s p / 256 := by rw [hlast, e0, ← hhi, h5]; rfl
      by_cases h7 : d = lo
      · have hv := Fr.frIn_8 s p h1 n2 n3 n4 k5 n6 (by rw [hlast, e1, ← hlo, h7]; rfl)
        obtain ⟨q1, q2⟩ := mid_1 r t p (by rw [hA]; simp [h5, h7])
        rw [q1, q2, hin, hv, Fr.frText_yes s p (by rw [hin, hv]; omega), hlast, ← Nat.add_assoc, hex, hfs, hts]
        exact ⟨rfl, by omega⟩
      · have hne : ¬ Fr.byteI s (Fr.frLast s p + 1) = Fr.frSum s p % 256 := by
          rw [hlast, e1, ← hlo]
          intro e
          exact h7 (UInt8.toNat_inj.1 (by simp at e; omega))
        have hv := Fr.frIn_7 s p h1 n2 n3 n4 k5 n6 hne
        obtain ⟨q1, q2⟩ := mid_3 r t p (by rw [Bool.eq_false_iff, ne_eq, hA]; simp; intro _ e; exact h7 e.symm) (by rw [Bool.eq_false_iff, ne_eq, hB]; simp [h7])
        rw [q1, q2, hin, hv]
        exact ⟨(Fr.frText_no s p (by rw [hin, hv]; decide)).symm, rfl⟩
    · have hne : ¬ Fr.byteI s (Fr.frLast s p) = Fr.frSum s p / 256 := by
        rw [hlast, e0, ← hhi]
        intro e
        exact h5 (UInt8.toNat_inj.1 (by simp at e; omega))
      have hv := Fr.frIn_5 s p h1 n2 n3 n4 hne
      obtain ⟨q1, q2⟩ := mid_3 r t p (by rw [Bool.eq_false_iff, ne_eq, hA]; simp; intro e; exact absurd e.symm h5) (by rw [Bool.eq_false_iff, ne_eq, hB]; simp [h5])
      rw [q1, q2, hin, hv]
      exact ⟨(Fr.frText_no s p (by rw [hin, hv]; decide)).symm, rfl⟩

theorem implFrame_any (s : ByteArray) (a : Int) (w : World) (hs : s.size ≤ 1099511627776) :
    Calls Try.prog 38 #[.string s, .int .i64 a] w fun e w' => e = .returned (.tuple #[.string (Fr.frText s a), .int .i64 (Fr.frEnd s a)]) ∧ Below w.heap.size w w' := by
  have same : ∀ {x : Array Value} {v : Value}, (Calls Try.prog 38 x w fun e w' => e = .returned v ∧ w' = w) → Calls Try.prog 38 x w fun e w' => e = .returned v ∧ Below w.heap.size w w' :=
    fun h => h.mono fun _ _ ⟨he, hk⟩ => ⟨he, by rw [hk]; exact Below.refl _ _⟩
  by_cases h : a < 0 ∨ (s.size : Int) < a
  · have he := Fr.frEnd_out s a h
    rw [Fr.frText_no s a (by omega), he]
    exact same (implFrame_out s a w hs h)
  · obtain ⟨p, rfl⟩ := Int.eq_ofNat_of_zero_le (show 0 ≤ a by omega)
    have hps : p ≤ s.size := by omega
    have hrs := rest_size s p
    -- the length is told, or why none is
    have told : ∀ v : Int, tellLen (s.extract p s.size) = v → v < 0 → Fr.frEnd s p = v → Calls Try.prog 38 #[.string s, .int .i64 p] w fun e w' => e = .returned (.tuple #[.string (Fr.frText s p), .int .i64 (Fr.frEnd s p)]) ∧ Below w.heap.size w w' := by
      intro v hv hneg hend
      rw [Fr.frText_no s p (by omega), hend, ← hv]
      exact same (implFrame_len s p w hs hps (by omega))
    by_cases h0 : p = s.size
    · exact told (-2) (by unfold tellLen; rw [if_pos (by omega)]) (by decide) (by rw [h0]; exact Fr.frEnd_at s)
    · have hp : p < s.size := by omega
      have hin := Fr.frEnd_in s p hp
      have r0 := rest_byte s p 0 hp
      by_cases h1 : Fr.byteI s p = 165
      · by_cases h2 : p + 1 = s.size
        · exact told (-2) (by unfold tellLen; rw [if_neg (by omega), if_neg (by rw [r0]; simpa using h1), if_pos (by omega)]) (by decide) (by rw [hin]; exact Fr.frIn_2 s p h1 h2)
        · have r1 := rest_byte s p 1 (by omega)
          have hbd := Fr.byteI_bd s (p + 1)
          by_cases h3 : 60 < Fr.byteI s (p + 1)
          · exact told (-1) (by unfold tellLen; rw [if_neg (by omega), if_neg (by rw [r0]; simpa using h1), if_neg (by omega), if_pos (by omega)]) (by decide) (by rw [hin]; exact Fr.frIn_3 s p h1 h2 h3)
          · obtain ⟨z, hz⟩ := Int.eq_ofNat_of_zero_le hbd.1
            have hl : tellLen (s.extract p s.size) = z := by unfold tellLen; rw [if_neg (by omega), if_neg (by rw [r0]; simpa using h1), if_neg (by omega), if_neg (by omega), r1, hz]
            by_cases h4 : p + 2 + z ≤ s.size
            · obtain ⟨q1, q2⟩ := mid_value s _ _ p z rfl rfl h1 hz (by omega) h4
              rw [← q1, ← q2]
              exact implFrame_mid s _ _ p z w hs hps rfl rfl hl (by omega) h4
            · have hv := Fr.frIn_4 s p h1 h2 h3 (by unfold Fr.frLast; rw [hz]; simp; omega)
              rw [Fr.frText_no s p (by omega), hin, hv]
              exact same (implFrame_short s p z w hs hps hl (by omega) (by omega))
      · exact told (-1) (by unfold tellLen; rw [if_neg (by omega), if_pos (by rw [r0]; exact h1)]) (by decide) (by rw [hin]; exact Fr.frIn_1 s p h1)

end Go.Proofs.Ytbjkbhchcoabcah
