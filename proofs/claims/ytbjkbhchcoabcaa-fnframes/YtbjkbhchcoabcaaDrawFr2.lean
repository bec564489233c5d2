/-
  Chapter 2's draws of frames one behind the other: l2Draw, DrawFrameAt, DrawFrames.
-/
import Derived.Test.YtbjkbhchcoabcaaBend
import Derived.Test.YtbjkbhchcoabcaaDrawFr
import Derived.Test.YtbjkbhchcoabcaaFrame2
namespace Go.Proofs.Ytbjkbhchcoabcaa
open Go.RowKit
set_option linter.unusedVariables false
set_option maxRecDepth 100000

theorem framed2_size (s : ByteArray) : (Fr.framed2 s).size ≤ s.size + 9 := by
  have h1 := Nums.showS_size (s.size : Int) 1
  have h2 := Nums.showS_size (Nums.sumI (Fr.bodyB s).data.toList) 2
  have hb : (Fr.bodyB s).size = (Nums.showS (s.size : Int) 1).size + s.size := by unfold Fr.bodyB; rw [ByteArray.size_append]
  unfold Fr.framed2
  rw [ByteArray.size_append, ByteArray.size_append, hb]
  show 1 + _ + _ ≤ _
  omega

set_option maxHeartbeats 800000 in
theorem draw2_any (c : Nat) (x : Option Addr) (len cap : Nat) (w : World) (hc : Cur w c x len cap) :
    Calls Try.prog 65 #[.pointer (some ⟨c, 0, none⟩)] w fun e w' => ∃ s : ByteArray, e = .returned (.string s) ∧ s.size ≤ 102 ∧ Upto c w w' ∧ Cur w' c x len cap := by
  have hlt := hc.lt
  go_enter Try.func65, Try.ntmps65
  go_wp2_with fail
  refine (below_any c x len cap 5 _ (by omega) hc).mono ?_
  rintro e w1 ⟨m0, rfl, hm0, u1, k1⟩
  obtain ⟨m, rfl⟩ := Int.eq_ofNat_of_zero_le hm0.1
  have hm1 : (m : Int) < 5 := hm0.2.1 (by omega)
  clear hm0
  go_wp2_with fail
  go_loopw [3, 4] (fun v n wr => ∃ (m : Nat) (s : ByteArray), n = .int .i64 m ∧ v = .string s ∧ s.size + 25 * m ≤ 100 ∧ Upto c w wr ∧ Cur wr c x len cap) (fun _ n _ => (intOf n).toNat)
  case atStart => exact ⟨m, ⟨#[]⟩, rfl, rfl, by show 0 + 25 * m ≤ 100; omega, u1, k1⟩
  case round =>
    obtain ⟨m, s, rfl, rfl, hsz, u, k⟩ := hrel
    clear u1 k1
    by_cases hpos : (0 : Int) < (m : Int)
    · go_wp2_with fail
      refine (drawBytes_any _ x len cap 6 _ (by omega) (by omega) k).mono ?_
      rintro e w2 ⟨t, rfl, ht, u2, k2⟩
      go_wp2_with fail
      refine (specFramed2_any _ _ (by omega)).mono ?_
      rintro e w3 ⟨rfl, b3⟩
      have hf := framed2_size t
      have k3 := k2.below b3
      have u3 := (u.trans u2).below b3
      generalize Fr.framed2 t = f at hf ⊢
      clear b3 k2 u2 u k
      have hsum : s.size + f.size ≤ 200 := by omega
      go_wp2_with fail
      refine (once_any _ x len cap 6 _ (by omega) k3).mono ?_
      rintro e w4 ⟨y, rfl, u4, k4⟩
      have u14 := u3.trans u4
      have hsf : (s ++ f).size = s.size + f.size := ByteArray.size_append
      have hsf2 : (s ++ f).size + 3 + 25 * (m - 1) ≤ 100 := by omega
      clear hsf u3 u4 k3
      generalize s ++ f = sf at hsf2 ⊢
      cases y
      · go_wp2_with fail
        go_roundw
        case rel => exact ⟨m - 1, sf, by go_num, rfl, by omega, u14, k4⟩
        case measure => simp [intOf]; omega
      · go_wp2_with fail
        refine (drawBytes_any _ x len cap 4 _ (by omega) (by omega) k4).mono ?_
        rintro e w5 ⟨t5, rfl, ht5, u5, k5⟩
        have u15 := u14.trans u5
        have hs5 : (sf ++ t5).size + 25 * (m - 1) ≤ 100 := by rw [ByteArray.size_append]; omega
        clear u14 u5 k4
        go_wp2_with fail
        go_roundw
        case rel => exact ⟨m - 1, sf ++ t5, by go_num, rfl, hs5, u15, k5⟩
        case measure => simp [intOf]; omega
    · go_wp2_with fail
      refine (once_any _ x len cap 2 _ (by omega) k).mono ?_
      rintro e w2 ⟨y, rfl, u2, k2⟩
      have u12 := u.trans u2
      cases y
      · go_wp2_with fail
        go_ret
        exact ⟨s, rfl, by omega, u12, k2⟩
      · go_wp2_with fail
        refine (bend_any _ x len cap s _ _ (by omega) (by decide) (by decide) k2).mono ?_
        rintro e w3 ⟨r, rfl, hr, u3, k3⟩
        go_wp2_with fail
        go_ret
        exact ⟨r, rfl, by omega, u12.trans u3, k3⟩

theorem drawFrameAt_any (x : Option Addr) (len cap : Nat) (w : World) (hs : Src w w.heap.size x len) :
    Calls Try.prog 25 #[.slice x len cap] w fun e w' => ∃ (s : ByteArray) (a : Int), e = .returned (.tuple #[.string s, .int .i64 a]) ∧ (s.size ≤ 102 ∧ -1 ≤ a ∧ a ≤ 30) ∧ Below w.heap.size w w' := by
  go_enter Try.func25, Try.ntmps25
  go_wp2_with fail
  refine (new_any x len cap _ hs).mono ?_
  rintro e w1 ⟨rfl, b1, k1⟩
  go_wp2_with fail
  refine (draw2_any _ x len cap _ k1).mono ?_
  rintro e w2 ⟨s, rfl, hsz, u2, k2⟩
  have b2 : Below w.heap.size w w2 := b1.trans (u2.toBelow b1.size (Nat.le_refl _))
  go_wp2_with fail
  refine (once_any _ x len cap 2 _ (by omega) k2).mono ?_
  rintro e w3 ⟨y, rfl, u3, k3⟩
  have b3 : Below w.heap.size w w3 := b2.trans (u3.toBelow b2.size (Nat.le_refl _))
  cases y
  · go_wp2_with fail
    refine (from_any _ x len cap (-1) 30 _ (by omega) (by omega) (by omega) k3).mono ?_
    rintro e w4 ⟨a, rfl, ha, u4, k4⟩
    have b4 : Below w.heap.size w w4 := b3.trans (u4.toBelow b3.size (Nat.le_refl _))
    go_wp2_with fail
    go_ret2
    exact ⟨s, a, rfl, ⟨hsz, ha.1, ha.2⟩, b4⟩
  · go_wp2_with fail
    go_ret2
    exact ⟨s, 0, rfl, ⟨hsz, by omega, by omega⟩, b3⟩

theorem drawFrames_any (x : Option Addr) (len cap : Nat) (w : World) (hs : Src w w.heap.size x len) :
    Calls Try.prog 21 #[.slice x len cap] w fun e w' => ∃ s : ByteArray, e = .returned (.string s) ∧ s.size ≤ 102 ∧ Below w.heap.size w w' := by
  go_enter Try.func21, Try.ntmps21
  go_wp2_with fail
  refine (new_any x len cap _ hs).mono ?_
  rintro e w1 ⟨rfl, b1, k1⟩
  go_wp2_with fail
  refine (draw2_any _ x len cap _ k1).mono ?_
  rintro e w2 ⟨s, rfl, hsz, u2, k2⟩
  have b2 : Below w.heap.size w w2 := b1.trans (u2.toBelow b1.size (Nat.le_refl _))
  go_wp2_with fail
  go_ret
  exact ⟨s, rfl, hsz, b2⟩

end Go.Proofs.Ytbjkbhchcoabcaa
