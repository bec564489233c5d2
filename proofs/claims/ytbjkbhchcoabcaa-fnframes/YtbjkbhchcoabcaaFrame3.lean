/-
  The specification's Frames: the texts, in memory of their own, and where they end.
-/
import Derived.Test.YtbjkbhchcoabcaaFrame2
import Derived.Test.YtbjkbhchcoabcaaRows1
namespace Go.Proofs.Ytbjkbhchcoabcaa
open Go.RowKit
set_option linter.unusedVariables false
set_option maxRecDepth 100000

set_option maxHeartbeats 800000 in
theorem specFrames_any (s : ByteArray) (w : World) (hs : s.size ≤ 1099511627776) :
    Calls Try.prog 27 #[.string s] w fun e w' => ∃ v : Value, e = .returned (.tuple #[v, .int .i64 (Fr.frAll s).2]) ∧ w'.ownsRow w.heap.size 9 1 v (Fr.frAll s).1.length ((Fr.frAll s).1.map Value.string) ∧ Below w.heap.size w w' := by
  obtain ⟨i0, hi, hz0, hz1, hz2⟩ := info_parts Try.infoStr
  go_enter Try.func27, Try.ntmps27
  go_wp2_with fail
  go_loopw [4, 5] (fun v a wr => ∃ (p : Nat) (xs : List ByteArray), a = .int .i64 p ∧ Fr.Upon s xs p ∧ wr.ownsRow w.heap.size 9 1 v xs.length (xs.map Value.string) ∧ Below w.heap.size w wr) (fun _ a _ => s.size - (intOf a).toNat)
  case atStart => exact ⟨0, [], rfl, Fr.upon_start s, World.ownsRow_lit w #[] 0 (Nat.le_refl _) (Nat.zero_le _) rfl, (Below.refl _ _).alloc (Nat.le_refl _) _⟩
  case round =>
    obtain ⟨p, xs, rfl, hup, own, hb⟩ := hrel
    have HU : Hid (Fr.Upon s xs p) := hup
    have hle := Fr.upon_le s xs p hup
    clear hup
    go_wp2_with fail
    refine (specFrame_any s p _ hs).mono ?_
    rintro e w1 ⟨rfl, b1⟩
    have hbd := Fr.frEnd_bd s p
    have own1 : w1.ownsRow w.heap.size 9 1 _ xs.length (xs.map Value.string) := owns_below own b1
    have hb1 := hb.trans (b1.mono hb.size)
    clear own
    by_cases he : Fr.frEnd s p < 0
    · have hfin := Fr.upon_end s xs p HU.out he
      go_wp2_with fail
      go_ret2
      rw [hfin]
      exact ⟨_, rfl, own1, hb1⟩
    · have HN : Hid (Fr.Upon s (xs ++ [Fr.frText s p]) (Fr.frEnd s p).toNat) := Fr.upon_step s xs p HU.out he
      obtain ⟨q, hq⟩ := Int.eq_ofNat_of_zero_le (show 0 ≤ Fr.frEnd s p by omega)
      have hsz := hb1.size
      generalize Fr.frText s p = tx at HN ⊢
      rw [hq] at HN hbd he ⊢
      clear hq
      go_wp2_with (at_builtin; refine wpList_append_own _ rfl _ _ 35 rfl w.heap.size 9 i0 (.string ByteArray.empty) 1 16 Try.underlying35 hi hz0 hz1 hz2 rfl (by decide) _ _ _ rfl (own1.alloc _) ⟨w1.heap.size, 0, none⟩ 1 1 [.string tx] rfl rfl ?c1 ?c2 ?c3 ?c4 ?c5 ?_)
      case c1 => exact new_one _ _ _
      case c2 => intro u hu; simp at hu; subst hu; rfl
      case c3 => unfold maxLen; omega
      case c4 => omega
      case c5 => simp; omega
      intro v' w3 hown' hgrow _
      have hrow := fun q hq => (own1.lt q hq).1
      have hb3 : Below w.heap.size w w3 := (hb1.alloc hsz _).grown hgrow (by simp; omega) hrow
      clear own1 hgrow hrow
      go_wp2_with fail
      go_roundw
      case rel => exact ⟨q, xs ++ [tx], rfl, HN.out, by simpa using hown', hb3⟩
      case measure => simp [intOf]; omega

end Go.Proofs.Ytbjkbhchcoabcaa
