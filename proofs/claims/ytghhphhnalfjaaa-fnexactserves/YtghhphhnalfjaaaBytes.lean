/-
  The contracts of NameOk and Sum, the specification's and the program's, over this seat's translation: for every string up to the model's longest.
-/
import Derived.Test.YtghhphhnalfjaaaChecked
import Derived.Test.YtghhphhnalfjaaaNums
import Derived.WalkKit
import Derived.WalkSpells
namespace Go.Proofs.Ytghhphhnalfjaaa
open Go.RowKit
set_option linter.unusedVariables false
set_option maxRecDepth 100000

theorem ret_bool {a b : Bool} (h : a = b) : Ending.returned (.bool a) = .returned (.bool b) := by rw [h]
theorem ret_int {k : IntKind} {a b : Int} (h : a = b) : Ending.returned (.int k a) = .returned (.int k b) := by rw [h]

theorem l1In_any (x lo hi : Int) (w : World) :
    Calls Try.prog 52 #[.int .i64 x, .int .i64 lo, .int .i64 hi] w fun e w' => e = .returned (.bool (decide (lo ≤ x) && decide (x ≤ hi))) ∧ w' = w := by
  by_cases h : lo ≤ x
  · by_cases h2 : x ≤ hi
    all_goals
      go_enter Try.func52, Try.ntmps52
      go_wp2
      go_ret
      exact ⟨by simp [h, h2], rfl⟩
  · go_enter Try.func52, Try.ntmps52
    go_wp2
    go_ret
    exact ⟨ret_bool (by simp; omega), rfl⟩

set_option maxHeartbeats 400000 in
theorem specName_any (s : ByteArray) (w : World) (hs : s.size ≤ maxLen) :
    Calls Try.prog 89 #[.string s] w fun e w' => e = .returned (.bool (Nums.nameB s.data.toList)) ∧ w' = w := by
  unfold maxLen at hs
  go_enter Try.func89, Try.ntmps89
  go_wp2
  go_loop [3] (fun i => ∃ k : Nat, k ≤ s.size ∧ i = .int .i64 k ∧ Nums.lowB (s.data.toList.take k) = true) (fun i => s.size - (intOf i).toNat)
  case atStart => exact ⟨0, Nat.zero_le _, rfl, rfl⟩
  case round =>
    obtain ⟨k, hk, rfl, hl⟩ := hrel
    have HL : Hid (Nums.lowB (s.data.toList.take k) = true) := hl
    clear hl
    by_cases hlt : k < s.size
    · have hb := Nums.byte_lt s[k]
      by_cases h1 : 97 ≤ (s[k].toNat : Int)
      · by_cases h2 : (s[k].toNat : Int) ≤ 122
        · go_wp2
          go_round
          case rel => exact ⟨k + 1, by omega, by go_num, Nums.lowB_good s k hlt HL.out h1 h2⟩
          case measure => simp [intOf]; omega
        · have hx := Nums.lowB_bad s k hlt (by omega)
          have HX : Hid (Nums.nameB s.data.toList = false) := by simp [Nums.nameB, hx, Hid]
          clear hx
          go_wp2
          go_ret
          exact ⟨ret_bool HX.out.symm, rfl⟩
      · have hx := Nums.lowB_bad s k hlt (by omega)
        have HX : Hid (Nums.nameB s.data.toList = false) := by simp [Nums.nameB, hx, Hid]
        clear hx
        go_wp2
        go_ret
        exact ⟨ret_bool HX.out.symm, rfl⟩
    · go_wp2_with (go_at_call 52; refine (l1In_any _ _ _ _).mono ?_; rintro e w' ⟨rfl, rfl⟩)
      go_ret
      have hl := HL.out
      rw [Nums.take_all s k hlt] at hl
      exact ⟨ret_bool (by simp [Nums.nameB, hl]), rfl⟩

set_option maxHeartbeats 400000 in
theorem implName_any (s : ByteArray) (w : World) (hs : s.size ≤ maxLen) :
    Calls Try.prog 91 #[.string s] w fun e w' => e = .returned (.bool (Nums.nameB s.data.toList)) ∧ w' = w := by
  unfold maxLen at hs
  by_cases g1 : (1 : Int) ≤ (s.size : Int)
  · by_cases g2 : (s.size : Int) ≤ 4
    · go_enter Try.func91, Try.ntmps91
      go_wp2
      go_loop [3] (fun i => ∃ k : Nat, k ≤ s.size ∧ i = .int .i64 k ∧ Nums.lowB (s.data.toList.take k) = true) (fun i => s.size - (intOf i).toNat)
      case atStart => exact ⟨0, Nat.zero_le _, rfl, rfl⟩
      case round =>
        obtain ⟨k, hk, rfl, hl⟩ := hrel
        have HL : Hid (Nums.lowB (s.data.toList.take k) = true) := hl
        clear hl
        by_cases hlt : k < s.size
        · have hb := Nums.byte_lt s[k]
          by_cases h1 : 97 ≤ (s[k].toNat : Int)
          · by_cases h2 : (s[k].toNat : Int) ≤ 122
            · go_wp2
              go_round
              case rel => exact ⟨k + 1, by omega, by go_num, Nums.lowB_good s k hlt HL.out h1 h2⟩
              case measure => simp [intOf]; omega
            · have hx := Nums.lowB_bad s k hlt (by omega)
              have HX : Hid (Nums.nameB s.data.toList = false) := by simp [Nums.nameB, hx, Hid]
              clear hx
              go_wp2
              go_ret
              exact ⟨ret_bool HX.out.symm, rfl⟩
          · have hx := Nums.lowB_bad s k hlt (by omega)
            have HX : Hid (Nums.nameB s.data.toList = false) := by simp [Nums.nameB, hx, Hid]
            clear hx
            go_wp2
            go_ret
            exact ⟨ret_bool HX.out.symm, rfl⟩
        · go_wp2
          go_ret
          have hl := HL.out
          rw [Nums.take_all s k hlt] at hl
          exact ⟨ret_bool (by simp [Nums.nameB, hl]; omega), rfl⟩
    · have HX : Hid (Nums.nameB s.data.toList = false) := by simp [Nums.nameB, Hid]; omega
      go_enter Try.func91, Try.ntmps91
      go_wp2
      go_ret
      exact ⟨ret_bool HX.out.symm, rfl⟩
  · have HX : Hid (Nums.nameB s.data.toList = false) := by simp [Nums.nameB, Hid]; omega
    go_enter Try.func91, Try.ntmps91
    go_wp2
    go_ret
    exact ⟨ret_bool HX.out.symm, rfl⟩

end Go.Proofs.Ytghhphhnalfjaaa
