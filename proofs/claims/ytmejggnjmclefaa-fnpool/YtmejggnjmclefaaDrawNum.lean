/-
  The contracts of chapter 1's draws: each answers something in range, writes nothing that was there.
-/
import Derived.Test.YtmejggnjmclefaaDrawText
import Derived.Deep.RegionWith
namespace Go.Proofs.Ytmejggnjmclefaa
open Go.RowKit
set_option linter.unusedVariables false

theorem drawShow_any (x : Option Addr) (len cap : Nat) (w : World) (hs : Src w w.heap.size x len) :
    Calls Try.prog 9 #[.slice x len cap] w fun e w' => ∃ n k : Int, e = .returned (.tuple #[.int .i64 n, .int .i64 k]) ∧ (-1 ≤ n ∧ n ≤ 4611686018427387904 ∧ 0 ≤ k ∧ k ≤ 5) ∧ Below w.heap.size w w' := by
  go_enter Try.func9, Try.ntmps9
  go_wp2_with fail
  refine (new_any x len cap _ hs).mono ?_
  rintro e w1 ⟨rfl, b1, k1⟩
  have hlt := k1.lt
  go_wp2_with fail
  refine (below_any _ x len cap 10 _ (by omega) (k1.alloc _)).mono ?_
  rintro e w2 ⟨m0, rfl, hm0, u2, k2⟩
  obtain ⟨m, rfl⟩ := Int.eq_ofNat_of_zero_le hm0.1
  have hm1 : (m : Int) < 10 := hm0.2.1 (by omega)
  obtain ⟨n, hn, hn1, hn2⟩ : ∃ n : Int, w2.cell? ⟨w1.heap.size, m, none⟩ = some (.int .i64 n) ∧ -1 ≤ n ∧ n ≤ 4611686018427387904 := by
    rw [pick_cell u2 hlt m]
    have hm : m = 0 ∨ m = 1 ∨ m = 2 ∨ m = 3 ∨ m = 4 ∨ m = 5 ∨ m = 6 ∨ m = 7 ∨ m = 8 ∨ m = 9 := by omega
    rcases hm with rfl | rfl | rfl | rfl | rfl | rfl | rfl | rfl | rfl | rfl <;> exact ⟨_, rfl, by decide, by decide⟩
  have b2 : Below w.heap.size w w2 := b1.trans ((((Upto.refl _ w1).alloc _).trans u2).toBelow b1.size (Nat.le_refl _))
  clear u2 hm0 k1
  go_wp2_with fail
  refine (from_any _ x len cap 0 5 _ (by omega) (by omega) (by omega) k2).mono ?_
  rintro e w3 ⟨k, rfl, hk, u3, k3⟩
  have b3 : Below w.heap.size w w3 := b2.trans (u3.toBelow b2.size (Nat.le_refl _))
  go_wp2_with fail
  go_ret2
  exact ⟨n, k, rfl, ⟨hn1, hn2, hk.1, hk.2⟩, b3⟩

theorem drawRead_any (x : Option Addr) (len cap : Nat) (w : World) (hs : Src w w.heap.size x len) :
    Calls Try.prog 11 #[.slice x len cap] w fun e w' => ∃ (s : ByteArray) (a k : Int), e = .returned (.tuple #[.string s, .int .i64 a, .int .i64 k]) ∧ ((s.size : Int) < 7 ∧ -1 ≤ a ∧ a ≤ 7 ∧ 0 ≤ k ∧ k ≤ 5) ∧ Below w.heap.size w w' := by
  go_enter Try.func11, Try.ntmps11
  go_wp2_with fail
  refine (new_any x len cap _ hs).mono ?_
  rintro e w1 ⟨rfl, b1, k1⟩
  go_wp2_with fail
  refine (drawBytes_any _ x len cap 7 _ (by omega) (by omega) k1).mono ?_
  rintro e w2 ⟨s, rfl, hsz, u2, k2⟩
  have b2 : Below w.heap.size w w2 := b1.trans (u2.toBelow b1.size (Nat.le_refl _))
  go_wp2_with fail
  refine (from_any _ x len cap (-1) 7 _ (by omega) (by omega) (by omega) k2).mono ?_
  rintro e w3 ⟨a, rfl, ha, u3, k3⟩
  have b3 : Below w.heap.size w w3 := b2.trans (u3.toBelow b2.size (Nat.le_refl _))
  go_wp2_with fail
  refine (from_any _ x len cap 0 5 _ (by omega) (by omega) (by omega) k3).mono ?_
  rintro e w4 ⟨k, rfl, hk, u4, k4⟩
  have b4 : Below w.heap.size w w4 := b3.trans (u4.toBelow b3.size (Nat.le_refl _))
  go_wp2_with fail
  go_ret3
  exact ⟨s, a, k, rfl, ⟨hsz, ha.1, ha.2, hk.1, hk.2⟩, b4⟩

theorem drawSum_any (x : Option Addr) (len cap : Nat) (w : World) (hs : Src w w.heap.size x len) :
    Calls Try.prog 13 #[.slice x len cap] w fun e w' => ∃ s : ByteArray, e = .returned (.string s) ∧ (s.size : Int) < 9 ∧ Below w.heap.size w w' := by
  go_enter Try.func13, Try.ntmps13
  go_wp2_with fail
  refine (new_any x len cap _ hs).mono ?_
  rintro e w1 ⟨rfl, b1, k1⟩
  go_wp2_with fail
  refine (drawBytes_any _ x len cap 9 _ (by omega) (by omega) k1).mono ?_
  rintro e w2 ⟨s, rfl, hsz, u2, k2⟩
  have b2 : Below w.heap.size w w2 := b1.trans (u2.toBelow b1.size (Nat.le_refl _))
  go_wp2_with fail
  go_ret
  exact ⟨s, rfl, hsz, b2⟩

theorem drawName_any (x : Option Addr) (len cap : Nat) (w : World) (hs : Src w w.heap.size x len) :
    Calls Try.prog 14 #[.slice x len cap] w fun e w' => ∃ s : ByteArray, e = .returned (.string s) ∧ s.size ≤ 5 ∧ Below w.heap.size w w' := by
  go_enter Try.func14, Try.ntmps14
  go_wp2_with fail
  refine (new_any x len cap _ hs).mono ?_
  rintro e w1 ⟨rfl, b1, k1⟩
  go_wp2_with fail
  refine (once_any _ x len cap 3 _ (by omega) k1).mono ?_
  rintro e w2 ⟨y, rfl, u2, k2⟩
  have b2 : Below w.heap.size w w2 := b1.trans (u2.toBelow b1.size (Nat.le_refl _))
  have hlt := k2.lt
  cases y
  · go_wp2_with fail
    refine (name_any _ x len cap _ k2).mono ?_
    rintro e w3 ⟨s, rfl, hsz, u3, k3⟩
    have b3 : Below w.heap.size w w3 := b2.trans (u3.toBelow b2.size (Nat.le_refl _))
    go_wp2_with fail
    go_ret
    exact ⟨s, rfl, hsz, b3⟩
  · go_wp2_with fail
    refine (below_any _ x len cap 6 _ (by omega) (k2.alloc _)).mono ?_
    rintro e w3 ⟨m0, rfl, hm0, u3, k3⟩
    obtain ⟨m, rfl⟩ := Int.eq_ofNat_of_zero_le hm0.1
    have hm1 : (m : Int) < 6 := hm0.2.1 (by omega)
    obtain ⟨s, hn, hsz⟩ : ∃ s : ByteArray, w3.cell? ⟨w2.heap.size, m, none⟩ = some (.string s) ∧ s.size ≤ 5 := by
      rw [pick_cell u3 hlt m]
      have hm : m = 0 ∨ m = 1 ∨ m = 2 ∨ m = 3 ∨ m = 4 ∨ m = 5 := by omega
      rcases hm with rfl | rfl | rfl | rfl | rfl | rfl <;> exact ⟨_, rfl, by decide⟩
    have b3 : Below w.heap.size w w3 := b2.trans ((((Upto.refl _ w2).alloc _).trans u3).toBelow b2.size (Nat.le_refl _))
    clear u3 hm0
    go_wp2_with fail
    go_ret
    exact ⟨s, rfl, hsz, b3⟩

end Go.Proofs.Ytmejggnjmclefaa
