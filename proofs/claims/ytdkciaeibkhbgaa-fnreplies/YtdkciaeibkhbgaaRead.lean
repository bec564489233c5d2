/-
  The contracts of both ReadNumber: what they tell where the bytes are there, and where they are not.
-/
import Derived.Test.YtdkciaeibkhbgaaBytes2
import Derived.Test.YtdkciaeibkhbgaaBits
namespace Go.Proofs.Ytdkciaeibkhbgaa
open Go.RowKit
set_option linter.unusedVariables false
set_option maxRecDepth 100000

theorem specRead_no (s : ByteArray) (a k : Int) (w : World) (hs : s.size ≤ maxLen) (wk : (Lit.int .i64 k).wf = true) (h : ¬ (1 ≤ k ∧ k ≤ 4 ∧ 0 ≤ a ∧ a ≤ s.size - k)) :
    Calls Try.prog 41 #[.string s, .int .i64 a, .int .i64 k] w fun e w' => e = .returned (.tuple #[.int .i64 0, .bool false]) ∧ w' = w := by
  unfold maxLen at hs
  by_cases h1 : (decide (1 ≤ k) && decide (k ≤ 4)) = true
  · have h1' : 1 ≤ k ∧ k ≤ 4 := by simpa using h1
    by_cases h2 : 0 ≤ a
    · have h3 : (s.size : Int) - k < a := by omega
      go_enter Try.func41, Try.ntmps41
      go_wp2_with (go_at_call 44; refine (l1In_any _ _ _ _).mono ?_; rintro e w' ⟨rfl, rfl⟩)
      go_ret2
      exact ⟨rfl, rfl⟩
    · go_enter Try.func41, Try.ntmps41
      go_wp2_with (go_at_call 44; refine (l1In_any _ _ _ _).mono ?_; rintro e w' ⟨rfl, rfl⟩)
      go_ret2
      exact ⟨rfl, rfl⟩
  · have h1' : (decide (1 ≤ k) && decide (k ≤ 4)) = false := by simpa using h1
    clear h1
    go_enter Try.func41, Try.ntmps41
    go_wp2_with (go_at_call 44; refine (l1In_any _ _ _ _).mono ?_; rintro e w' ⟨rfl, rfl⟩)
    go_ret2
    exact ⟨rfl, rfl⟩

theorem implRead_no (s : ByteArray) (a k : Int) (w : World) (hs : s.size ≤ maxLen) (wk : (Lit.int .i64 k).wf = true) (h : ¬ (1 ≤ k ∧ k ≤ 4 ∧ 0 ≤ a ∧ a ≤ s.size - k)) :
    Calls Try.prog 72 #[.string s, .int .i64 a, .int .i64 k] w fun e w' => e = .returned (.tuple #[.int .i64 0, .bool false]) ∧ w' = w := by
  unfold maxLen at hs
  by_cases h1 : (decide (1 ≤ k) && decide (k ≤ 4)) = true
  · have h1' : 1 ≤ k ∧ k ≤ 4 := by simpa using h1
    by_cases h2 : 0 ≤ a
    · have h3 : (s.size : Int) - k < a := by omega
      go_enter Try.func72, Try.ntmps72
      go_wp2_with (go_at_call 69; refine (widthOk_any _ _).mono ?_; rintro e w' ⟨rfl, rfl⟩)
      go_ret2
      exact ⟨rfl, rfl⟩
    · go_enter Try.func72, Try.ntmps72
      go_wp2_with (go_at_call 69; refine (widthOk_any _ _).mono ?_; rintro e w' ⟨rfl, rfl⟩)
      go_ret2
      exact ⟨rfl, rfl⟩
  · have h1' : (decide (1 ≤ k) && decide (k ≤ 4)) = false := by simpa using h1
    clear h1
    go_enter Try.func72, Try.ntmps72
    go_wp2_with (go_at_call 69; refine (widthOk_any _ _).mono ?_; rintro e w' ⟨rfl, rfl⟩)
    go_ret2
    exact ⟨rfl, rfl⟩

theorem implRead_yes (s : ByteArray) (a k : Nat) (w : World) (hs : s.size ≤ maxLen) (h1 : 1 ≤ k) (h2 : k ≤ 4) (h3 : a + k ≤ s.size) :
    Calls Try.prog 72 #[.string s, .int .i64 a, .int .i64 k] w fun e w' => e = .returned (.tuple #[.int .i64 (Nums.readI ((s.data.toList.drop a).take k)), .bool true]) ∧ w' = w := by
  unfold maxLen at hs
  have g1 : (decide (1 ≤ (k : Int)) && decide ((k : Int) ≤ 4)) = true := by simp; omega
  go_enter Try.func72, Try.ntmps72
  go_wp2_with (first | (go_at_call 69; refine (widthOk_any _ _).mono ?_; rintro e w' ⟨rfl, rfl⟩) | (go_at_call 89; refine (throughRead _ _ (by simp; omega)).mono ?_; rintro e w' ⟨rfl, rfl⟩))
  go_ret2
  exact ⟨rfl, rfl⟩

set_option maxHeartbeats 400000 in
theorem specRead_yes (s : ByteArray) (a k : Nat) (w : World) (hs : s.size ≤ maxLen) (h1 : 1 ≤ k) (h2 : k ≤ 4) (h3 : a + k ≤ s.size) :
    Calls Try.prog 41 #[.string s, .int .i64 a, .int .i64 k] w fun e w' => e = .returned (.tuple #[.int .i64 (Nums.readI ((s.data.toList.drop a).take k)), .bool true]) ∧ w' = w := by
  unfold maxLen at hs
  have g1 : (decide (1 ≤ (k : Int)) && decide ((k : Int) ≤ 4)) = true := by simp; omega
  go_enter Try.func41, Try.ntmps41
  go_wp2_with (go_at_call 44; refine (l1In_any _ _ _ _).mono ?_; rintro e w' ⟨rfl, rfl⟩)
  go_loop [8, 9] (fun n i => ∃ j : Nat, j ≤ k ∧ i = .int .i64 ((a : Int) + j) ∧ n = .int .i64 (Nums.readI ((s.data.toList.drop a).take j))) (fun _ i => a + k - (intOf i).toNat)
  case atStart => exact ⟨0, Nat.zero_le _, by go_num, by simp [Nums.readI]⟩
  case round =>
    obtain ⟨j, hj, rfl, rfl⟩ := hrel
    by_cases hlt : j < k
    · have hsz : a + j < s.size := by omega
      have hb := Nums.byte_lt s[a + j]
      have hd := Nums.readI_small ((s.data.toList.drop a).take j) (by simp; omega)
      have HS : Hid (Nums.readI ((s.data.toList.drop a).take (j + 1)) = Nums.readI ((s.data.toList.drop a).take j) * 256 + (s[a + j].toNat : Int)) := Nums.readI_cut s a j hsz
      go_wp2
      go_round
      case rel => exact ⟨j + 1, by omega, by go_num, by rw [or256 _ _ hd.1 hd.2 hb.1 hb.2, HS.out]⟩
      case measure => simp [intOf]; omega
    · obtain rfl : j = k := by omega
      go_wp2
      go_ret2
      exact ⟨rfl, rfl⟩

end Go.Proofs.Ytdkciaeibkhbgaa
