/-
  The program's Framed, and the length that a frame begins to tell.
-/
import Derived.Test.YtbjkbhchcoabcakFrame2
import Derived.Test.YtbjkbhchcoabcakFrameN
import Derived.Test.YtbjkbhchcoabcakImPre
namespace Go.Proofs.Ytbjkbhchcoabcak
open Go.RowKit
set_option linter.unusedVariables false
set_option maxRecDepth 100000

theorem measured_any (s : ByteArray) (w : World) (hs : s.size ≤ 1099511627776) :
    Calls Try.prog 43 #[.string s] w fun e w' => e = .returned (.string (Nums.showS (s.size : Int) 1 ++ s)) ∧ Below w.heap.size w w' := by
  have hz := Nums.showS_size (s.size : Int) 1
  go_enter Try.func43, Try.ntmps43
  go_wp2_with fail
  refine (implShow_any _ _ _ (by omega)).mono ?_
  rintro e w1 ⟨rfl, b1⟩
  go_wp2_with fail
  go_ret
  exact ⟨rfl, b1⟩

/-- The length that a rest begins to tell: none yet, none at all, or it. -/
def tellLen (r : ByteArray) : Int :=
  if r.size = 0 then -2 else if Fr.byteI r 0 ≠ 165 then -1 else if r.size = 1 then -2 else if 60 < Fr.byteI r 1 then -1 else Fr.byteI r 1

theorem pre165 (r : ByteArray) (h : r.size ≠ 0) : preB r ⟨#[165]⟩ = decide (Fr.byteI r 0 = 165) := by
  obtain ⟨⟨l⟩⟩ := r
  cases l with
  | nil => exact absurd rfl h
  | cons a l =>
    rw [Bool.eq_iff_iff, preB_iff, decide_eq_true_iff]
    simp [Fr.byteI]
    constructor
    · intro e; rw [← e]; rfl
    · intro e; apply UInt8.toNat_inj.1; rw [show a.toNat = 165 by omega]; rfl

theorem read1 (r : ByteArray) (h : 2 ≤ r.size) : Nums.readN r 1 1 = Fr.byteI r 1 := by
  have hok : Nums.okRead r 1 1 = true := by rw [Nums.okRead_iff]; omega
  unfold Nums.readN
  rw [if_pos hok]
  obtain ⟨⟨l⟩⟩ := r
  match l, h with
  | [], h => exact absurd h (by decide)
  | [_], h => exact absurd (show 2 ≤ 1 from h) (by decide)
  | _ :: b :: l, h => simp [Fr.byteI, Nums.readI, Nums.stepR]

end Go.Proofs.Ytbjkbhchcoabcak
