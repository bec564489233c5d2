/-
  Contracts and plain laws, one chapter behind the other.
-/
import Derived.Test.YtgabhnhfomekfaaChecked
import Derived.WalkKit
import Derived.WalkSpells
import Derived.Handy
import Derived.Below
import Derived.Deep.QuietTactic
import Derived.BigQuiet
import Derived.Test.YtgabhnhfomekfaaM02
import Derived.Test.YtgabhnhfomekfaaM03
namespace Go.Proofs.Ytgabhnhfomekfaa
open Go.RowKit

set_option linter.unusedVariables false

set_option maxRecDepth 100000


set_option maxHeartbeats 400000 in
theorem byteEnd (c : Nat) (x : Option Addr) (len cap : Nat) (i : Nat) (h : Int) (w : World) (hl : len ≤ maxLen)
    (c0 : w.cell? ⟨c, 0, none⟩ = some (.slice x len cap)) (c1 : w.cell? ⟨c, 1, none⟩ = some (.int .i64 i)) (c2 : w.cell? ⟨c, 2, none⟩ = some (.int .i64 h))
    (f2 : w.frozen? ⟨c, 2, none⟩ = false) (hi : ¬ i < len) :
    Calls Try.prog 56 #[.pointer (some ⟨c, 0, none⟩)] w fun e w' => ∃ (y h' : Int) (n m : Nat), e = .returned (.int .i64 y) ∧ (0 ≤ y ∧ y ≤ 255) ∧ w' = ((w.setCell ⟨c, 2, none⟩ (.int .i64 h')).drewN n).drewN m := by
  unfold maxLen at hl
  have hx : ∀ n, bits .and .i64 n 255 = n % 256 := and255
  go_enter Try.func56, Try.ntmps56
  go_wp2
  go_quiet (fail)
  go_wp2
  go_quiet (fail)
  go_wp2
  go_ret
  exact ⟨_, _, _, _, rfl, ⟨by omega, by omega⟩, rfl⟩

set_option maxHeartbeats 400000 in
theorem byteMore (c b off : Nat) (len cap : Nat) (i : Nat) (h z : Int) (w : World) (hl : len ≤ maxLen)
    (c0 : w.cell? ⟨c, 0, none⟩ = some (.slice (some ⟨b, off, none⟩) len cap)) (c1 : w.cell? ⟨c, 1, none⟩ = some (.int .i64 i)) (c2 : w.cell? ⟨c, 2, none⟩ = some (.int .i64 h))
    (f1 : w.frozen? ⟨c, 1, none⟩ = false) (f2 : w.frozen? ⟨c, 2, none⟩ = false) (hi : i < len) (hb : b < c) (cz : w.cell? ⟨b, off + i, none⟩ = some (.int .u8 z)) (z0 : 0 ≤ z) (z1 : z ≤ 255) :
    Calls Try.prog 56 #[.pointer (some ⟨c, 0, none⟩)] w fun e w' => ∃ (y h' : Int) (n : Nat), e = .returned (.int .i64 y) ∧ (0 ≤ y ∧ y ≤ 255) ∧ w' = ((w.setCell ⟨c, 2, none⟩ (.int .i64 h')).drewN n).setCell ⟨c, 1, none⟩ (.int .i64 ((i : Int) + 1)) := by
  unfold maxLen at hl
  have hx : ∀ n, bits .and .i64 n 255 = n % 256 := and255
  have hne : ¬ c = b := by omega
  have hne' : ¬ b = c := by omega
  go_enter Try.func56, Try.ntmps56
  go_wp2
  go_quiet (fail)
  go_wp2
  go_quiet (fail)
  go_wp2
  go_quiet (fail)
  go_wp2
  go_ret
  exact ⟨_, _, _, rfl, ⟨by omega, by omega⟩, rfl⟩

theorem byte_any (c : Nat) (x : Option Addr) (len cap : Nat) (w : World) (hc : Cur w c x len cap) :
    Calls Try.prog 56 #[.pointer (some ⟨c, 0, none⟩)] w fun e w' => ∃ y : Int, e = .returned (.int .i64 y) ∧ (0 ≤ y ∧ y ≤ 255) ∧ Upto c w w' ∧ Cur w' c x len cap := by
  obtain ⟨i, h, hi, h1, h2⟩ := hc.ih
  by_cases hlt : i < len
  · obtain ⟨b, off, z, rfl, hb, hz, z0, z1⟩ := hc.src i hlt
    refine (byteMore c b off len cap i h z w hc.hm hc.b h1 h2 hc.f1 hc.f2 hlt hb hz z0 z1).mono ?_
    rintro e w' ⟨y, h', n, rfl, hy, rfl⟩
    have hu : Upto c w (((w.setCell ⟨c, 2, none⟩ (.int .i64 h')).drewN n).setCell ⟨c, 1, none⟩ (.int .i64 ((i : Int) + 1))) := (((Upto.refl c w).setCell _ (.inl rfl) _).drewN n).setCell _ (.inl rfl) _
    refine ⟨y, rfl, hy, hu, hc.step hu (i + 1) h' hlt ?_ ?_ ?_ ?_ ?_⟩
    · simp [go_sem, hc.b]
    · simp [go_sem, h1]
    · simp [go_sem, h2]
    · simp [go_sem, hc.f1]
    · simp [go_sem, hc.f2]
  · refine (byteEnd c x len cap i h w hc.hm hc.b h1 h2 hc.f2 hlt).mono ?_
    rintro e w' ⟨y, h', n, m, rfl, hy, rfl⟩
    have hu : Upto c w (((w.setCell ⟨c, 2, none⟩ (.int .i64 h')).drewN n).drewN m) := (((Upto.refl c w).setCell _ (.inl rfl) _).drewN n).drewN m
    refine ⟨y, rfl, hy, hu, hc.step hu i h' hi ?_ ?_ ?_ ?_ ?_⟩
    · simp [go_sem, hc.b]
    · simp [go_sem, h1]
    · simp [go_sem, h2]
    · simp [go_sem, hc.f1]
    · simp [go_sem, hc.f2]
end Go.Proofs.Ytgabhnhfomekfaa

