/-
  The contracts of the specification's Framed, FrameAt.
-/
import Derived.Test.YtbjkbhchcoabcaaChap1
import Derived.Test.YtbjkbhchcoabcaaFrameM
import Derived.Test.YtbjkbhchcoabcaaWorlds
namespace Go.Proofs.Ytbjkbhchcoabcaa
open Go.RowKit
set_option linter.unusedVariables false
set_option maxRecDepth 100000

theorem ret_two {a b : Value} {c d : Value} (h1 : a = c) (h2 : b = d) : Ending.returned (.tuple #[a, b]) = .returned (.tuple #[c, d]) := by rw [h1, h2]
theorem below_drewN (w : World) (n : Nat) : Below w.heap.size w (w.drewN n) := ⟨rfl, rfl, rfl, Nat.le_refl _, fun _ _ => rfl⟩

theorem specSum_cut (s : ByteArray) (p z : Nat) (w : World) (hs : s.size ≤ 1099511627776) :
    Calls Try.prog 18 #[.string (s.extract (p + 1) (p + 2 + z))] w fun e w' => e = .returned (.int .i64 (Nums.sumI (Fr.cut s (p + 1) (z + 1)))) ∧ w' = w := by
  have h := specSum_any (s.extract (p + 1) (p + 2 + z)) w (by unfold maxLen; rw [ByteArray.size_extract]; omega)
  rw [show p + 2 + z = p + 1 + (z + 1) from by omega, Fr.extract_cut] at h
  rw [show p + 2 + z = p + 1 + (z + 1) from by omega]
  exact h

set_option maxHeartbeats 800000 in
theorem specFrame_8 (s : ByteArray) (p z : Nat) (w : World) (hs : s.size ≤ 1099511627776) (hp : p + 1 < s.size) (h1 : Fr.byteI s p = 165) (hz : Fr.byteI s (p + 1) = z) (h3 : (z : Int) ≤ 60) (h4 : p + 2 + z + 1 < s.size)
    (h5 : Fr.byteI s (p + 2 + z) = Nums.sumI (Fr.cut s (p + 1) (z + 1)) / 256) (h7 : Fr.byteI s (p + 2 + z + 1) = Nums.sumI (Fr.cut s (p + 1) (z + 1)) % 256) :
    Calls Try.prog 30 #[.string s, .int .i64 p] w fun e w' => e = .returned (.tuple #[.string (s.extract (p + 2) (p + 2 + z)), .int .i64 ((p : Int) + 2 + z + 2)]) ∧ Below w.heap.size w w' := by
  have e1 : (s[p].toNat : Int) = 165 := by rw [Fr.byteI_eq s p (by omega)]; exact h1
  have e2 : (s[p + 1].toNat : Int) = z := by rw [Fr.byteI_eq s (p + 1) (by omega)]; exact hz
  have e3 : (s[p + 2 + z].toNat : Int) = Nums.sumI (Fr.cut s (p + 1) (z + 1)) / 256 := by rw [Fr.byteI_eq s (p + 2 + z) (by omega)]; exact h5
  have e4 : (s[p + 2 + z + 1].toNat : Int) = Nums.sumI (Fr.cut s (p + 1) (z + 1)) % 256 := by rw [Fr.byteI_eq s (p + 2 + z + 1) (by omega)]; exact h7
  have hb := Nums.sumI_bd (Fr.cut s (p + 1) (z + 1))
  have hx : ∀ n, bits .and .i64 n 255 = n % 256 := and255
  have g0 : (0 : Int) ≤ (p : Int) + 2 + z := by omega
  have g1 : (0 : Int) ≤ (p : Int) + 2 + z + 1 := by omega
  have g2 : (0 : Int) ≤ (p : Int) + 1 := by omega
  have g3 : (p : Int) + 1 ≤ (p : Int) + 2 + z := by omega
  have g4 : (p : Int) + 2 + z ≤ (s.size : Int) := by omega
  have g5 : (p : Int) + 2 + z + 1 < (s.size : Int) := by omega
  clear h1 hz h5 h7
  go_enter Try.func30, Try.ntmps30
  go_wp2_with fail
  refine wp_loop_rounds 3 ?_
  rw [rounds_succ]
  go_wp2_with fail
  refine wp_region_below (by kernel_rfl) (by kernel_rfl) ?_
  repeat (go_big_quiet_step ((intro hb; first | (go_at_call 18; exact calls_same hb (specSum_cut s p z _ hs)) | rfl)))
  refine wpQuiet_nil ?_
  intro w1 b1
  go_wp2_with fail
  rw [rounds_succ]
  go_wp2_with fail
  refine wp_region_below (by kernel_rfl) (by kernel_rfl) ?_
  repeat (go_big_quiet_step ((intro hb; first | (go_at_call 18; exact calls_same hb (specSum_cut s p z _ hs)) | rfl)))
  refine wpQuiet_nil ?_
  intro w2 b2
  go_wp2_with fail
  rw [rounds_succ]
  go_wp2_with fail
  go_ret2
  exact ⟨rfl, b1.trans (b2.mono b1.size)⟩

set_option maxHeartbeats 800000 in
theorem specFrame_7 (s : ByteArray) (p z : Nat) (w : World) (hs : s.size ≤ 1099511627776) (hp : p + 1 < s.size) (h1 : Fr.byteI s p = 165) (hz : Fr.byteI s (p + 1) = z) (h3 : (z : Int) ≤ 60) (h4 : p + 2 + z + 1 < s.size)
    (h5 : Fr.byteI s (p + 2 + z) = Nums.sumI (Fr.cut s (p + 1) (z + 1)) / 256) (h7 : ¬ Fr.byteI s (p + 2 + z + 1) = Nums.sumI (Fr.cut s (p + 1) (z + 1)) % 256) :
    Calls Try.prog 30 #[.string s, .int .i64 p] w fun e w' => e = .returned (.tuple #[.string ByteArray.empty, .int .i64 (-1)]) ∧ Below w.heap.size w w' := by
  have e1 : (s[p].toNat : Int) = 165 := by rw [Fr.byteI_eq s p (by omega)]; exact h1
  have e2 : (s[p + 1].toNat : Int) = z := by rw [Fr.byteI_eq s (p + 1) (by omega)]; exact hz
  have e3 : (s[p + 2 + z].toNat : Int) = Nums.sumI (Fr.cut s (p + 1) (z + 1)) / 256 := by rw [Fr.byteI_eq s (p + 2 + z) (by omega)]; exact h5
  have e4 : ((s[p + 2 + z + 1].toNat : Int) != Nums.sumI (Fr.cut s (p + 1) (z + 1)) % 256) = true := by rw [bne_iff_ne, Fr.byteI_eq s (p + 2 + z + 1) (by omega)]; exact h7
  have hb := Nums.sumI_bd (Fr.cut s (p + 1) (z + 1))
  have hx : ∀ n, bits .and .i64 n 255 = n % 256 := and255
  have g0 : (0 : Int) ≤ (p : Int) + 2 + z := by omega
  have g1 : (0 : Int) ≤ (p : Int) + 2 + z + 1 := by omega
  have g2 : (0 : Int) ≤ (p : Int) + 1 := by omega
  have g3 : (p : Int) + 1 ≤ (p : Int) + 2 + z := by omega
  have g4 : (p : Int) + 2 + z ≤ (s.size : Int) := by omega
  have g5 : (p : Int) + 2 + z + 1 < (s.size : Int) := by omega
  clear h1 hz h5 h7
  go_enter Try.func30, Try.ntmps30
  go_wp2_with fail
  refine wp_loop_rounds 3 ?_
  rw [rounds_succ]
  go_wp2_with fail
  refine wp_region_below (by kernel_rfl) (by kernel_rfl) ?_
  repeat (go_big_quiet_step ((intro hb; first | (go_at_call 18; exact calls_same hb (specSum_cut s p z _ hs)) | rfl)))
  refine wpQuiet_nil ?_
  intro w1 b1
  go_wp2_with fail
  rw [rounds_succ]
  go_wp2_with fail
  refine wp_region_below (by kernel_rfl) (by kernel_rfl) ?_
  repeat (go_big_quiet_step ((intro hb; first | (go_at_call 18; exact calls_same hb (specSum_cut s p z _ hs)) | rfl)))
  refine wpQuiet_nil ?_
  intro w2 b2
  go_wp2_with fail
  go_ret2
  exact ⟨rfl, b1.trans (b2.mono b1.size)⟩

set_option maxHeartbeats 800000 in
theorem specFrame_6 (s : ByteArray) (p z : Nat) (w : World) (hs : s.size ≤ 1099511627776) (hp : p + 1 < s.size) (h1 : Fr.byteI s p = 165) (hz : Fr.byteI s (p + 1) = z) (h3 : (z : Int) ≤ 60) (h4 : p + 2 + z < s.size) (h6 : ¬ p + 2 + z + 1 < s.size)
    (h5 : Fr.byteI s (p + 2 + z) = Nums.sumI (Fr.cut s (p + 1) (z + 1)) / 256) :
    Calls Try.prog 30 #[.string s, .int .i64 p] w fun e w' => e = .returned (.tuple #[.string ByteArray.empty, .int .i64 (-2)]) ∧ Below w.heap.size w w' := by
  have e1 : (s[p].toNat : Int) = 165 := by rw [Fr.byteI_eq s p (by omega)]; exact h1
  have e2 : (s[p + 1].toNat : Int) = z := by rw [Fr.byteI_eq s (p + 1) (by omega)]; exact hz
  have e3 : (s[p + 2 + z].toNat : Int) = Nums.sumI (Fr.cut s (p + 1) (z + 1)) / 256 := by rw [Fr.byteI_eq s (p + 2 + z) (by omega)]; exact h5
  have hb := Nums.sumI_bd (Fr.cut s (p + 1) (z + 1))
  have hx : ∀ n, bits .and .i64 n 255 = n % 256 := and255
  have g0 : (0 : Int) ≤ (p : Int) + 2 + z := by omega
  have g1 : (0 : Int) ≤ (p : Int) + 2 + z + 1 := by omega
  have g2 : (0 : Int) ≤ (p : Int) + 1 := by omega
  have g3 : (p : Int) + 1 ≤ (p : Int) + 2 + z := by omega
  have g4 : (p : Int) + 2 + z ≤ (s.size : Int) := by omega
  have g5 : (s.size : Int) ≤ (p : Int) + 2 + z + 1 := by omega
  clear h1 hz h5
  go_enter Try.func30, Try.ntmps30
  go_wp2_with fail
  refine wp_loop_rounds 3 ?_
  rw [rounds_succ]
  go_wp2_with fail
  refine wp_region_below (by kernel_rfl) (by kernel_rfl) ?_
  repeat (go_big_quiet_step ((intro hb; first | (go_at_call 18; exact calls_same hb (specSum_cut s p z _ hs)) | rfl)))
  refine wpQuiet_nil ?_
  intro w1 b1
  go_wp2_with fail
  rw [rounds_succ]
  go_wp2_with fail
  go_ret2
  exact ⟨rfl, b1⟩

set_option maxHeartbeats 800000 in
theorem specFrame_5 (s : ByteArray) (p z : Nat) (w : World) (hs : s.size ≤ 1099511627776) (hp : p + 1 < s.size) (h1 : Fr.byteI s p = 165) (hz : Fr.byteI s (p + 1) = z) (h3 : (z : Int) ≤ 60) (h4 : p + 2 + z < s.size)
    (h5 : ¬ Fr.byteI s (p + 2 + z) = Nums.sumI (Fr.cut s (p + 1) (z + 1)) / 256) :
    Calls Try.prog 30 #[.string s, .int .i64 p] w fun e w' => e = .returned (.tuple #[.string ByteArray.empty, .int .i64 (-1)]) ∧ Below w.heap.size w w' := by
  have e1 : (s[p].toNat : Int) = 165 := by rw [Fr.byteI_eq s p (by omega)]; exact h1
  have e2 : (s[p + 1].toNat : Int) = z := by rw [Fr.byteI_eq s (p + 1) (by omega)]; exact hz
  have e3 : ((s[p + 2 + z].toNat : Int) != Nums.sumI (Fr.cut s (p + 1) (z + 1)) / 256) = true := by rw [bne_iff_ne, Fr.byteI_eq s (p + 2 + z) (by omega)]; exact h5
  have hb := Nums.sumI_bd (Fr.cut s (p + 1) (z + 1))
  have hx : ∀ n, bits .and .i64 n 255 = n % 256 := and255
  have g0 : (0 : Int) ≤ (p : Int) + 2 + z := by omega
  have g1 : (0 : Int) ≤ (p : Int) + 2 + z + 1 := by omega
  have g2 : (0 : Int) ≤ (p : Int) + 1 := by omega
  have g3 : (p : Int) + 1 ≤ (p : Int) + 2 + z := by omega
  have g4 : (p : Int) + 2 + z ≤ (s.size : Int) := by omega
  clear h1 hz h5
  go_enter Try.func30, Try.ntmps30
  go_wp2_with fail
  refine wp_loop_rounds 3 ?_
  rw [rounds_succ]
  go_wp2_with fail
  refine wp_region_below (by kernel_rfl) (by kernel_rfl) ?_
  repeat (go_big_quiet_step ((intro hb; first | (go_at_call 18; exact calls_same hb (specSum_cut s p z _ hs)) | rfl)))
  refine wpQuiet_nil ?_
  intro w1 b1
  go_wp2_with fail
  go_ret2
  exact ⟨rfl, b1⟩

set_option maxHeartbeats 800000 in
theorem specFrame_4 (s : ByteArray) (p z : Nat) (w : World) (hs : s.size ≤ 1099511627776) (hp : p + 1 < s.size) (h1 : Fr.byteI s p = 165) (hz : Fr.byteI s (p + 1) = z) (h3 : (z : Int) ≤ 60) (h4 : ¬ p + 2 + z < s.size) :
    Calls Try.prog 30 #[.string s, .int .i64 p] w fun e w' => e = .returned (.tuple #[.string ByteArray.empty, .int .i64 (-2)]) ∧ Below w.heap.size w w' := by
  have e1 : (s[p].toNat : Int) = 165 := by rw [Fr.byteI_eq s p (by omega)]; exact h1
  have e2 : (s[p + 1].toNat : Int) = z := by rw [Fr.byteI_eq s (p + 1) (by omega)]; exact hz
  have g5 : (s.size : Int) ≤ (p : Int) + 2 + z := by omega
  clear h1 hz
  go_enter Try.func30, Try.ntmps30
  go_wp2_with fail
  refine wp_loop_rounds 3 ?_
  rw [rounds_succ]
  go_wp2_with fail
  go_ret2
  exact ⟨rfl, Below.refl _ _⟩

end Go.Proofs.Ytbjkbhchcoabcaa
