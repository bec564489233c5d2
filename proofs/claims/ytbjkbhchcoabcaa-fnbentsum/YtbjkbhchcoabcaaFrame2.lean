/-
  The specification's FrameAt at every argument, and its Framed.
-/
import Derived.Test.YtbjkbhchcoabcaaFrame
namespace Go.Proofs.Ytbjkbhchcoabcaa
open Go.RowKit
set_option linter.unusedVariables false
set_option maxRecDepth 100000

theorem specFrame_out (s : ByteArray) (a : Int) (w : World) (hs : s.size ≤ 1099511627776) (h : a < 0 ∨ (s.size : Int) < a) :
    Calls Try.prog 30 #[.string s, .int .i64 a] w fun e w' => e = .returned (.tuple #[.string ByteArray.empty, .int .i64 (-1)]) ∧ w' = w := by
  by_cases h0 : a < 0
  · go_enter Try.func30, Try.ntmps30
    go_wp2_with fail
    go_ret2
    exact ⟨rfl, rfl⟩
  · have h1 : (s.size : Int) < a := by omega
    go_enter Try.func30, Try.ntmps30
    go_wp2_with fail
    go_ret2
    exact ⟨rfl, rfl⟩

theorem specFrame_at (s : ByteArray) (w : World) (hs : s.size ≤ 1099511627776) :
    Calls Try.prog 30 #[.string s, .int .i64 s.size] w fun e w' => e = .returned (.tuple #[.string ByteArray.empty, .int .i64 (-2)]) ∧ w' = w := by
  go_enter Try.func30, Try.ntmps30
  go_wp2_with fail
  go_ret2
  exact ⟨rfl, rfl⟩

theorem specFrame_1 (s : ByteArray) (p : Nat) (w : World) (hs : s.size ≤ 1099511627776) (hp : p < s.size) (h1 : ¬ Fr.byteI s p = 165) :
    Calls Try.prog 30 #[.string s, .int .i64 p] w fun e w' => e = .returned (.tuple #[.string ByteArray.empty, .int .i64 (-1)]) ∧ w' = w := by
  have e1 : ((s[p].toNat : Int) != 165) = true := by rw [bne_iff_ne, Fr.byteI_eq s p hp]; exact h1
  have g1 : ((p : Int) == (s.size : Int)) = false := by simp; omega
  go_enter Try.func30, Try.ntmps30
  go_wp2_with fail
  go_ret2
  exact ⟨rfl, rfl⟩

theorem specFrame_2 (s : ByteArray) (p : Nat) (w : World) (hs : s.size ≤ 1099511627776) (hp : p + 1 = s.size) (h1 : Fr.byteI s p = 165) :
    Calls Try.prog 30 #[.string s, .int .i64 p] w fun e w' => e = .returned (.tuple #[.string ByteArray.empty, .int .i64 (-2)]) ∧ w' = w := by
  have hp' : p < s.size := by omega
  have e1 : (s[p].toNat : Int) = 165 := by rw [Fr.byteI_eq s p hp']; exact h1
  have g1 : ((p : Int) == (s.size : Int)) = false := by simp; omega
  have g2 : ((p : Int) + 1 == (s.size : Int)) = true := by simp; omega
  clear hp
  go_enter Try.func30, Try.ntmps30
  go_wp2_with fail
  go_ret2
  exact ⟨rfl, rfl⟩

theorem specFrame_3 (s : ByteArray) (p z : Nat) (w : World) (hs : s.size ≤ 1099511627776) (hp : p + 1 < s.size) (h1 : Fr.byteI s p = 165) (hz : Fr.byteI s (p + 1) = z) (h3 : 60 < (z : Int)) (h4 : (z : Int) ≤ 255) :
    Calls Try.prog 30 #[.string s, .int .i64 p] w fun e w' => e = .returned (.tuple #[.string ByteArray.empty, .int .i64 (-1)]) ∧ w' = w := by
  have e1 : (s[p].toNat : Int) = 165 := by rw [Fr.byteI_eq s p (by omega)]; exact h1
  have e2 : (s[p + 1].toNat : Int) = z := by rw [Fr.byteI_eq s (p + 1) (by omega)]; exact hz
  clear h1 hz
  go_enter Try.func30, Try.ntmps30
  go_wp2_with fail
  go_ret2
  exact ⟨rfl, rfl⟩

theorem specFrame_any (s : ByteArray) (a : Int) (w : World) (hs : s.size ≤ 1099511627776) :
    Calls Try.prog 30 #[.string s, .int .i64 a] w fun e w' => e = .returned (.tuple #[.string (Fr.frText s a), .int .i64 (Fr.frEnd s a)]) ∧ Below w.heap.size w w' := by
  have same : ∀ {x : Array Value} {v : Value}, (Calls Try.prog 30 x w fun e w' => e = .returned v ∧ w' = w) → Calls Try.prog 30 x w fun e w' => e = .returned v ∧ Below w.heap.size w w' :=
    fun h => h.mono fun _ _ ⟨he, hk⟩ => ⟨he, by rw [hk]; exact Below.refl _ _⟩
  by_cases h : a < 0 ∨ (s.size : Int) < a
  · have he := Fr.frEnd_out s a h
    rw [Fr.frText_no s a (by omega), he]
    exact same (specFrame_out s a w hs h)
  · obtain ⟨p, rfl⟩ := Int.eq_ofNat_of_zero_le (show 0 ≤ a by omega)
    by_cases h0 : p = s.size
    · subst h0
      rw [Fr.frText_no s s.size (by rw [Fr.frEnd_at]; decide), Fr.frEnd_at]
      exact same (specFrame_at s w hs)
    · have hp : p < s.size := by omega
      have hin := Fr.frEnd_in s p hp
      by_cases h1 : Fr.byteI s p = 165
      · by_cases h2 : p + 1 = s.size
        · have hv := Fr.frIn_2 s p h1 h2
          rw [Fr.frText_no s p (by omega), hin, hv]
          exact same (specFrame_2 s p w hs h2 h1)
        · have hbd := Fr.byteI_bd s (p + 1)
          obtain ⟨z, hz⟩ := Int.eq_ofNat_of_zero_le hbd.1
          have hl : Fr.frLast s p = p + 2 + z := by unfold Fr.frLast; rw [hz]; rfl
          have hsum : Fr.frSum s p = Nums.sumI (Fr.cut s (p + 1) (z + 1)) := by unfold Fr.frSum; rw [hz]; rfl
          by_cases h3 : 60 < Fr.byteI s (p + 1)
          · have hv := Fr.frIn_3 s p h1 h2 h3
            rw [Fr.frText_no s p (by omega), hin, hv]
            exact same (specFrame_3 s p z w hs (by omega) h1 hz (by omega) (by omega))
          · by_cases h4 : s.size ≤ Fr.frLast s p
            · have hv := Fr.frIn_4 s p h1 h2 h3 h4
              rw [Fr.frText_no s p (by omega), hin, hv]
              exact specFrame_4 s p z w hs (by omega) h1 hz (by omega) (by omega)
            · by_cases h5 : Fr.byteI s (Fr.frLast s p) = Fr.frSum s p / 256
              · by_cases h6 : s.size ≤ Fr.frLast s p + 1
                · have hv := Fr.frIn_6 s p h1 h2 h3 h4 h5 h6
                  rw [Fr.frText_no s p (by omega), hin, hv]
                  rw [hl, hsum] at h5
                  exact specFrame_6 s p z w hs (by omega) h1 hz (by omega) (by omega) (by omega) h5
                · by_cases h7 : Fr.byteI s (Fr.frLast s p + 1) = Fr.frSum s p % 256
                  · have hv := Fr.frIn_8 s p h1 h2 h3 h4 h5 h6 h7
                    rw [Fr.frText_yes s p (by omega), hin, hv, hl]
                    rw [hl, hsum] at h5 h7
                    exact specFrame_8 s p z w hs (by omega) h1 hz (by omega) (by omega) h5 h7
                  · have hv := Fr.frIn_7 s p h1 h2 h3 h4 h5 h6 h7
                    rw [Fr.frText_no s p (by omega), hin, hv]
                    rw [hl, hsum] at h5 h7
                    exact specFrame_7 s p z w hs (by omega) h1 hz (by omega) (by omega) h5 h7
              · have hv := Fr.frIn_5 s p h1 h2 h3 h4 h5
                rw [Fr.frText_no s p (by omega), hin, hv]
                rw [hl, hsum] at h5
                exact specFrame_5 s p z w hs (by omega) h1 hz (by omega) (by omega) h5
      · have hv := Fr.frIn_1 s p h1
        rw [Fr.frText_no s p (by omega), hin, hv]
        exact same (specFrame_1 s p w hs hp h1)

theorem specFramed2_any (s : ByteArray) (w : World) (hs : s.size ≤ 1099511627776) :
    Calls Try.prog 71 #[.string s] w fun e w' => e = .returned (.string (Fr.framed2 s)) ∧ Below w.heap.size w w' := by
  have hz := Nums.showS_size (s.size : Int) 1
  have hz2 := Nums.showS_size (Nums.sumI (Nums.showS (s.size : Int) 1 ++ s).data.toList) 2
  have hb := Nums.sumI_bd (Nums.showS (s.size : Int) 1 ++ s).data.toList
  have hm : (Nums.showS (s.size : Int) 1 ++ s).size ≤ maxLen := by rw [ByteArray.size_append]; unfold maxLen; omega
  go_enter Try.func71, Try.ntmps71
  go_wp2_with fail
  refine (specShow_any _ _ _ (by omega)).mono ?_
  rintro e w1 ⟨rfl, b1⟩
  go_wp2_with fail
  refine (specSum_any _ _ hm).mono ?_
  rintro e w2 ⟨rfl, rfl⟩
  have hfin : Fr.framed2 s = (⟨#[165]⟩ ++ (Nums.showS (s.size : Int) 1 ++ s)) ++ Nums.showS (Nums.sumI (Nums.showS (s.size : Int) 1 ++ s).data.toList) 2 := rfl
  generalize Nums.sumI (Nums.showS (s.size : Int) 1 ++ s).data.toList = m at hz2 hb hfin ⊢
  have HF : Hid (Fr.framed2 s = (⟨#[165]⟩ ++ (Nums.showS (s.size : Int) 1 ++ s)) ++ Nums.showS m 2) := hfin
  clear hfin
  go_wp2_with fail
  refine (specShow_any _ _ _ (by omega)).mono ?_
  rintro e w3 ⟨rfl, b3⟩
  go_wp2_with fail
  go_ret
  exact ⟨by rw [HF.out]; rfl, b1.trans (b3.mono b1.size)⟩

theorem specFramed_any (s : ByteArray) (w : World) (hs : s.size ≤ 1099511627776) :
    Calls Try.prog 29 #[.string s] w fun e w' => e = .returned (.string (Fr.framedS s)) ∧ Below w.heap.size w w' := by
  by_cases h : (60 : Int) < (s.size : Int)
  · have hv : Fr.framedS s = ByteArray.empty := by unfold Fr.framedS; rw [if_pos (by omega)]
    rw [hv]
    go_enter Try.func29, Try.ntmps29
    go_wp2_with fail
    go_ret
    exact ⟨rfl, Below.refl _ _⟩
  · have hv : Fr.framedS s = Fr.framed2 s := by unfold Fr.framedS; rw [if_neg (by omega)]
    rw [hv]
    go_enter Try.func29, Try.ntmps29
    go_wp2_with fail
    refine (specFramed2_any _ _ hs).mono ?_
    rintro e w1 ⟨rfl, b1⟩
    go_wp2_with fail
    go_ret
    exact ⟨rfl, b1⟩

end Go.Proofs.Ytbjkbhchcoabcaa
