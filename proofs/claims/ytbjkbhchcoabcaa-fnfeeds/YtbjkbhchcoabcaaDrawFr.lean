/-
  Chapter 2's draws: DrawFramed; and the laws' pick.
-/
import Derived.Test.YtbjkbhchcoabcaaDrawText
namespace Go.Proofs.Ytbjkbhchcoabcaa
open Go.RowKit
set_option linter.unusedVariables false
set_option maxRecDepth 100000

set_option maxHeartbeats 400000 in
theorem pick_any (x : Option Addr) (len cap : Nat) (seed n : Int) (w : World) (hs : Src w w.heap.size x len) (hl : len ≤ 4096) (h0 : 0 ≤ seed) (h1 : seed ≤ 1000) (hn : 0 < n) (hn2 : n ≤ 1099511627776) :
    Calls Try.prog 31 #[.slice x len cap, .int .i64 seed, .int .i64 n] w fun e w' => ∃ y : Int, e = .returned (.int .i64 y) ∧ (0 ≤ y ∧ y < n) ∧ w' = w := by
  obtain ⟨hm, hsrc⟩ := hs
  have HS : Hid (∀ j, j < len → ∃ b off z, x = some ⟨b, off, none⟩ ∧ b < w.heap.size ∧ w.cell? ⟨b, off + j, none⟩ = some (.int .u8 z) ∧ 0 ≤ z ∧ z ≤ 255) := hsrc
  have hz : (n == 0) = false := by simp; omega
  clear hsrc hm
  go_enter Try.func31, Try.ntmps31
  go_wp2
  go_loop [7, 8] (fun q i => ∃ (k : Nat) (y : Int), k ≤ len ∧ i = .int .i64 k ∧ q = .int .i64 y ∧ 0 ≤ y ∧ y ≤ 10000000) (fun _ i => len - (intOf i).toNat)
  case atStart => exact ⟨0, _, Nat.zero_le _, rfl, rfl, by omega, by omega⟩
  case round =>
    obtain ⟨k, y, hk, rfl, rfl, y0, y1⟩ := hrel
    by_cases hlt : k < len
    · obtain ⟨b, off, z, rfl, hb, hcz, z0, z1⟩ := HS.out k hlt
      clear HS
      go_wp2
      go_round
      case rel => exact ⟨k + 1, _, by omega, by go_num, rfl, by omega, by omega⟩
      case measure => simp [intOf]; omega
    · go_wp2
      go_ret
      exact ⟨y % n, rfl, ⟨Int.emod_nonneg _ (by omega), Int.emod_lt_of_pos _ hn⟩, rfl⟩

def zeros (n : Nat) : Array Value := ((List.replicate n (0 : Int)).map (Value.int .u8) ++ []).toArray

set_option maxHeartbeats 400000 in
theorem drawFramed_any (x : Option Addr) (len cap : Nat) (w : World) (hs : Src w w.heap.size x len) :
    Calls Try.prog 23 #[.slice x len cap] w fun e w' => ∃ s : ByteArray, e = .returned (.string s) ∧ s.size ≤ 61 ∧ Below w.heap.size w w' := by
  have hm0 : ∀ w : World, (Instr.makeSlice 22 (.int .i64 60) (.int .i64 60)).run Try.prog w = .ok (.slice (some ⟨w.heap.size, 0, none⟩) 60 60) (w.alloc (.cells (zeros 60) 5)) := fun _ => by kernel_rfl
  have hm1 : ∀ w : World, (Instr.makeSlice 22 (.int .i64 61) (.int .i64 61)).run Try.prog w = .ok (.slice (some ⟨w.heap.size, 0, none⟩) 61 61) (w.alloc (.cells (zeros 61) 5)) := fun _ => by kernel_rfl
  obtain ⟨s0, hz0, hc0⟩ : ∃ s0 : ByteArray, s0.size = 60 ∧ ∀ w : World, (convert 22 9 (.slice (some ⟨w.heap.size, 0, none⟩) 60 60)).run Try.prog (w.alloc (.cells (zeros 60) 5)) = .ok (.string s0) (w.alloc (.cells (zeros 60) 5)) :=
    ⟨⟨((List.replicate 60 (0 : Int)).map fun n => UInt8.ofNat n.toNat).toArray⟩, by show Array.size _ = 60; simp, fun w => by have := conv_new w (List.replicate 60 0) [] 60; rwa [List.length_replicate] at this⟩
  obtain ⟨s1, hz1, hc1⟩ : ∃ s1 : ByteArray, s1.size = 61 ∧ ∀ w : World, (convert 22 9 (.slice (some ⟨w.heap.size, 0, none⟩) 61 61)).run Try.prog (w.alloc (.cells (zeros 61) 5)) = .ok (.string s1) (w.alloc (.cells (zeros 61) 5)) :=
    ⟨⟨((List.replicate 61 (0 : Int)).map fun n => UInt8.ofNat n.toNat).toArray⟩, by show Array.size _ = 61; simp, fun w => by have := conv_new w (List.replicate 61 0) [] 61; rwa [List.length_replicate] at this⟩
  go_enter Try.func23, Try.ntmps23
  go_wp2_with fail
  refine (new_any x len cap _ hs).mono ?_
  rintro e w1 ⟨rfl, b1, k1⟩
  go_wp2_with fail
  refine (once_any _ x len cap 20 _ (by omega) k1).mono ?_
  rintro e w2 ⟨y, rfl, u2, k2⟩
  have b2 : Below w.heap.size w w2 := b1.trans (u2.toBelow b1.size (Nat.le_refl _))
  cases y
  · go_wp2_with fail
    refine (drawBytes_any _ x len cap 8 _ (by omega) (by omega) k2).mono ?_
    rintro e w3 ⟨s, rfl, hsz, u3, k3⟩
    have b3 : Below w.heap.size w w3 := b2.trans (u3.toBelow b2.size (Nat.le_refl _))
    go_wp2_with fail
    go_ret
    exact ⟨s, rfl, by omega, b3⟩
  · go_wp2_with fail
    refine (below_any _ x len cap 2 _ (by omega) k2).mono ?_
    rintro e w3 ⟨m, rfl, hm, u3, k3⟩
    have b3 : Below w.heap.size w w3 := b2.trans (u3.toBelow b2.size (Nat.le_refl _))
    have hmm : m = 0 ∨ m = 1 := by omega
    clear hm u3 k3 u2 k2 k1 b1 b2
    rcases hmm with rfl | rfl
    · go_wp2_with fail
      go_ret
      exact ⟨s0, rfl, by omega, b3.alloc b3.size _⟩
    · go_wp2_with fail
      go_ret
      exact ⟨s1, rfl, by omega, b3.alloc b3.size _⟩

end Go.Proofs.Ytbjkbhchcoabcaa
