/-
  The contracts of the program's ways through the bytes (throughBytes with its two steps), of Sum, and of both ReadNumber.
-/
import Derived.Test.YtdkciaeibkhbgaaBytes
namespace Go.Proofs.Ytdkciaeibkhbgaa
open Go.RowKit
set_option linter.unusedVariables false
set_option maxRecDepth 100000

theorem followed_any (n : Int) (c : UInt8) (w : World) (h0 : 0 ≤ n) (h1 : n < 16777216) :
    Calls Try.prog 90 #[.int .i64 n, .int .u8 c.toNat] w fun e w' => e = .returned (.int .i64 (Nums.stepR n c)) ∧ w' = w := by
  have hb := Nums.byte_lt c
  go_enter Try.func90, Try.ntmps90
  go_wp2
  go_ret
  exact ⟨ret_int (by unfold Nums.stepR; omega), rfl⟩

set_option maxHeartbeats 400000 in
theorem throughRead (s : ByteArray) (w : World) (hs : s.size ≤ 4) :
    Calls Try.prog 89 #[.string s, .int .i64 0, .func (.func 90) #[] #[]] w fun e w' => e = .returned (.int .i64 (Nums.readI s.data.toList)) ∧ w' = w := by
  go_enter Try.func89, Try.ntmps89
  go_wp2_with fail
  go_loop [7, 8] (fun h i => ∃ k : Nat, k ≤ s.size ∧ i = .int .i64 k ∧ h = .int .i64 (Nums.readI (s.data.toList.take k))) (fun _ i => s.size - (intOf i).toNat)
  case atStart => exact ⟨0, Nat.zero_le _, rfl, rfl⟩
  case round =>
    obtain ⟨k, hk, rfl, rfl⟩ := hrel
    by_cases hlt : k < s.size
    · have hd := Nums.readI_small (s.data.toList.take k) (by rw [List.length_take]; omega)
      have HS : Hid (Nums.readI (s.data.toList.take (k + 1)) = Nums.stepR (Nums.readI (s.data.toList.take k)) s[k]) := by rw [Hid, Nums.take_snoc s k hlt, Nums.readI_snoc]; rfl
      go_wp2_with (go_at_call 90; refine (followed_any _ _ _ (by omega) (by omega)).mono ?_; rintro e w' ⟨rfl, rfl⟩)
      go_round
      case rel => exact ⟨k + 1, by omega, by go_num, by rw [HS.out]⟩
      case measure => simp [intOf]; omega
    · go_wp2_with fail
      go_ret
      exact ⟨ret_int (by rw [Nums.take_all s k hlt]), rfl⟩

theorem widthOk_any (x : Int) (w : World) :
    Calls Try.prog 69 #[.int .i64 x] w fun e w' => e = .returned (.bool (decide (1 ≤ x) && decide (x ≤ 4))) ∧ w' = w := by
  by_cases h : 1 ≤ x
  · by_cases h2 : x ≤ 4
    all_goals
      go_enter Try.func69, Try.ntmps69
      go_wp2
      go_ret
      exact ⟨by simp [h, h2], rfl⟩
  · go_enter Try.func69, Try.ntmps69
    go_wp2
    go_ret
    exact ⟨ret_bool (by simp; omega), rfl⟩

end Go.Proofs.Ytdkciaeibkhbgaa
