/-
  The program's Framed, and the length that a frame begins to tell.
-/
import Derived.Test.YtbjkbhchcoabcaaFrame2
import Derived.Test.YtbjkbhchcoabcaaFrameN
import Derived.Test.YtbjkbhchcoabcaaImPre
namespace Go.Proofs.Ytbjkbhchcoabcaa
open Go.RowKit
set_option linter.unusedVariables false
set_option maxRecDepth 100000

theorem measured_any (s : ByteArray) (w : World) (hs : s.size ≤ 1099511627776) :
    Calls Try.prog 67 #[.string s] w fun e w' => e = .returned (.string (Nums.showS (s.size : Int) 1 ++ s)) ∧ Below w.heap.size w w' := by
  have hz := Nums.showS_size (s.size : Int) 1
  go_enter Try.func67, Try.ntmps67
  go_wp2_with fail
  refine (implShow_any _ _ _ (by omega)).mono ?_
  rintro e w1 ⟨rfl, b1⟩
  go_wp2_with fail
  go_ret
  exact ⟨rfl, b1⟩

theorem implFramed_any (s : ByteArray) (w : World) (hs : s.size ≤ 1099511627776) :
    Calls Try.prog 24 #[.string s] w fun e w' => e = .returned (.string (Fr.framedS s)) ∧ Below w.heap.size w w' := by
  by_cases h : (60 : Int) < (s.size : Int)
  · have hv : Fr.framedS s = ByteArray.empty := by unfold Fr.framedS; rw [if_pos (by omega)]
    rw [hv]
    go_enter Try.func24, Try.ntmps24
    go_wp2_with fail
    go_ret
    exact ⟨rfl, Below.refl _ _⟩
  · have hv : Fr.framedS s = Fr.framed2 s := by unfold Fr.framedS; rw [if_neg (by omega)]
    rw [hv]
    have hz := Nums.showS_size (s.size : Int) 1
    have hz2 := Nums.showS_size (Nums.sumI (Nums.showS (s.size : Int) 1 ++ s).data.toList) 2
    have hb := Nums.sumI_bd (Nums.showS (s.size : Int) 1 ++ s).data.toList
    have hm : (Nums.showS (s.size : Int) 1 ++ s).size ≤ maxLen := by rw [ByteArray.size_append]; unfold maxLen; omega
    go_enter Try.func24, Try.ntmps24
    go_wp2_with fail
    refine (measured_any s _ hs).mono ?_
    rintro e w1 ⟨rfl, b1⟩
    go_wp2_with fail
    refine (implSum_any _ _ hm).mono ?_
    rintro e w2 ⟨rfl, rfl⟩
    have hfin : Fr.framed2 s = (⟨#[165]⟩ ++ (Nums.showS (s.size : Int) 1 ++ s)) ++ Nums.showS (Nums.sumI (Nums.showS (s.size : Int) 1 ++ s).data.toList) 2 := rfl
    generalize Nums.sumI (Nums.showS (s.size : Int) 1 ++ s).data.toList = m at hz2 hb hfin ⊢
    have HF : Hid (Fr.framed2 s = (⟨#[165]⟩ ++ (Nums.showS (s.size : Int) 1 ++ s)) ++ Nums.showS m 2) := hfin
    clear hfin
    go_wp2_with fail
    refine (implShow_any _ _ _ (by omega)).mono ?_
    rintro e w3 ⟨rfl, b3⟩
    go_wp2_with fail
    go_ret
    exact ⟨by rw [HF.out]; rfl, b1.trans (b3.mono b1.size)⟩

/-- The length that a rest begins to tell: none yet, none at all, or it. -/
def tellLen (r : ByteArray) : Int :=
  if r.size = 0 then -2 else if Fr.byteI r 0 ≠ 165 then -1 else if r.size = 1 then -2 else if 60 < Fr.byteI r 1 then -1 else Fr.byteI r 1

theorem pre165 (r : ByteArray) (h : r.size ≠ 0) : preB r ⟨#[165]⟩ = decide (Fr.byteI r 0 = 165) := by
  obtain ⟨⟨l⟩⟩ := r
  cases l with
  | nil => exact absurd rfl h
  | cons a l =>
    rw [Bool.eq_iff_iff, preB_iff, decide_eq_true_iff]
    simp [Fr.byteI]
    constructor
    · intro e; rw [← e]; rfl
    · intro e; apply UInt8.toNat_inj.1; rw [show a.toNat = 165 by omega]; rfl

theorem read1 (r : ByteArray) (h : 2 ≤ r.size) : Nums.readN r 1 1 = Fr.byteI r 1 := by
  have hok : Nums.okRead r 1 1 = true := by rw [Nums.okRead_iff]; omega
  unfold Nums.readN
  rw [if_pos hok]
  obtain ⟨⟨l⟩⟩ := r
  match l, h with
  | [], h => exact absurd h (by decide)
  | [_], h => exact absurd (show 2 ≤ 1 from h) (by decide)
  | _ :: b :: l, h => simp [Fr.byteI, Nums.readI, Nums.stepR]

theorem tell_any (r : ByteArray) (w : World) (hr : r.size ≤ 1099511627776) :
    Calls Try.prog 68 #[.string r] w fun e w' => e = .returned (.int .i64 (tellLen r)) ∧ w' = w := by
  by_cases h0 : r.size = 0
  · have hv : tellLen r = -2 := by unfold tellLen; rw [if_pos h0]
    rw [hv]
    obtain rfl : r = ByteArray.empty := by
      apply ByteArray.ext
      exact Array.eq_empty_of_size_eq_zero h0
    go_enter Try.func68, Try.ntmps68
    go_wp2_with fail
    go_ret
    exact ⟨rfl, rfl⟩
  · have hne : (r.toList == ([] : List UInt8)) = false := by
      rw [ByteArray.toList_eq, Bool.eq_false_iff, ne_eq, beq_iff_eq]
      intro e
      exact h0 (by rw [Lib.size_eq, e]; rfl)
    have hp := pre165 r h0
    by_cases h1 : Fr.byteI r 0 = 165
    · have hp1 : preB r ⟨#[165]⟩ = true := by rw [hp]; simp [h1]
      by_cases h2 : r.size = 1
      · have hv : tellLen r = -2 := by unfold tellLen; rw [if_neg h0, if_neg (by simpa using h1), if_pos h2]
        have hok : Nums.okRead r 1 1 = false := by rw [Bool.eq_false_iff, ne_eq, Nums.okRead_iff]; omega
        rw [hv]
        clear hp hv
        go_enter Try.func68, Try.ntmps68
        go_wp2_with fail
        refine (hasPre_any r _ _ hr (by decide)).mono ?_
        rintro e w1 ⟨rfl, rfl⟩
        rw [hp1]
        go_wp2_with fail
        refine (implRead_any r 1 1 _ (by unfold maxLen; omega) (by decide)).mono ?_
        rintro e w2 ⟨rfl, rfl⟩
        rw [hok]
        go_wp2_with fail
        go_ret
        exact ⟨rfl, rfl⟩
      · have hok : Nums.okRead r 1 1 = true := by rw [Nums.okRead_iff]; omega
        have hrd := read1 r (by omega)
        have hbd := Fr.byteI_bd r 1
        by_cases h3 : 60 < Fr.byteI r 1
        all_goals
          have hv : tellLen r = if 60 < Fr.byteI r 1 then -1 else Fr.byteI r 1 := by unfold tellLen; rw [if_neg h0, if_neg (by simpa using h1), if_neg h2]
          first | rw [if_pos h3] at hv | rw [if_neg h3] at hv
          have HV : Hid (tellLen r = _) := hv
          clear hv hp
          go_enter Try.func68, Try.ntmps68
          go_wp2_with fail
          refine (hasPre_any r _ _ hr (by decide)).mono ?_
          rintro e w1 ⟨rfl, rfl⟩
          rw [hp1]
          go_wp2_with fail
          refine (implRead_any r 1 1 _ (by unfold maxLen; omega) (by decide)).mono ?_
          rintro e w2 ⟨rfl, rfl⟩
          rw [hok, hrd]
          clear hrd hok hp1 hne
          generalize Fr.byteI r 1 = z at *
          go_wp2_with fail
          go_ret
          exact ⟨ret_int HV.out.symm, rfl⟩
    · have hv : tellLen r = -1 := by unfold tellLen; rw [if_neg h0, if_pos h1]
      have hp1 : preB r ⟨#[165]⟩ = false := by rw [hp]; simp [h1]
      rw [hv]
      clear hp hv
      go_enter Try.func68, Try.ntmps68
      go_wp2_with fail
      refine (hasPre_any r _ _ hr (by decide)).mono ?_
      rintro e w1 ⟨rfl, rfl⟩
      rw [hp1]
      go_wp2_with fail
      go_ret
      exact ⟨rfl, rfl⟩

end Go.Proofs.Ytbjkbhchcoabcaa
