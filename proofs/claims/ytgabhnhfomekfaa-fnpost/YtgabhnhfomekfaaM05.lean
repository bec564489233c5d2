/-
  Contracts and plain laws, one chapter behind the other.
-/
import Derived.Test.YtgabhnhfomekfaaM04
namespace Go.Proofs.Ytgabhnhfomekfaa
open Go.RowKit

set_option linter.unusedVariables false

set_option maxRecDepth 100000


/-- The bytes of an argument, below block c. -/
def Src (w : World) (c : Nat) (x : Option Addr) (len : Nat) : Prop :=
  len ≤ maxLen ∧ ∀ j, j < len → ∃ b off z, x = some ⟨b, off, none⟩ ∧ b < c ∧ w.cell? ⟨b, off + j, none⟩ = some (.int .u8 z) ∧ 0 ≤ z ∧ z ≤ 255

theorem Src.below {w w' : World} {c : Nat} {x : Option Addr} {len : Nat} (h : Src w c x len) (k : Below c w w') : Src w' c x len :=
  ⟨h.1, fun j hj => by obtain ⟨b, off, z, e, hb, hz, r⟩ := h.2 j hj; exact ⟨b, off, z, e, hb, (k.cell (p := ⟨b, off + j, none⟩) hb).trans hz, r⟩⟩

theorem Src.mono {w : World} {c d : Nat} {x : Option Addr} {len : Nat} (h : Src w c x len) (k : c ≤ d) : Src w d x len :=
  ⟨h.1, fun j hj => by obtain ⟨b, off, z, e, hb, r⟩ := h.2 j hj; exact ⟨b, off, z, e, Nat.lt_of_lt_of_le hb k, r⟩⟩

theorem src_of {w : World} {a : Option Addr} {len cap : Nat} {zs : List Int} (h : (a = none ∧ len = 0 ∧ cap = 0 ∧ zs = []) ∨
    ∃ x, a = some x ∧ len ≤ cap ∧ cap ≤ maxLen ∧ zs.length = cap ∧ (∀ i, i < zs.length → w.cell? (x.add i) = some (.int .u8 (zs.getD i 0))) ∧ ∀ n ∈ zs, (Lit.int .u8 n).wf = true) : Src w w.heap.size a len := by
  rcases h with ⟨rfl, rfl, rfl, rfl⟩ | ⟨x, rfl, hl, hm, hz, hcell, hwz⟩
  · exact ⟨Nat.zero_le _, fun j hj => by omega⟩
  · refine ⟨Nat.le_trans hl hm, fun j hj => ?_⟩
    have hc := hcell j (by omega)
    obtain ⟨b, off, spot⟩ := x
    have hspot : spot = none := by simpa [Addr.add] using World.cell?_spot (hcell 0 (by omega))
    subst hspot
    have e : (⟨b, off, none⟩ : Addr).add j = ⟨b, off + j, none⟩ := by unfold Addr.add; split <;> simp_all
    rw [e] at hc
    have hb : b < w.heap.size := by
      rcases Nat.lt_or_ge b w.heap.size with q | q
      · exact q
      · simp [World.cell?, Array.getElem?_eq_none q] at hc
    have hw := hwz (zs.getD j 0) (by rw [List.getD_eq_getElem?_getD, List.getElem?_eq_getElem (by omega)]; exact List.getElem_mem _)
    have hx : 0 ≤ zs.getD j 0 ∧ zs.getD j 0 ≤ 255 := by simpa [Lit.wf, IntKind.min, IntKind.max, IntKind.signed, IntKind.bits] using hw
    exact ⟨b, off, _, rfl, hb, hc, hx.1, hx.2⟩

theorem Cur.new {w : World} {x : Option Addr} {len cap : Nat} (h : Src w w.heap.size x len) (q : Int) (t : TypeId) :
    Cur (w.alloc (.cells #[.slice x len cap, .int .i64 0, .int .i64 q] t)) w.heap.size x len cap := by
  have hb : Below w.heap.size w (w.alloc (.cells #[.slice x len cap, .int .i64 0, .int .i64 q] t)) := (Below.refl _ _).alloc (Nat.le_refl _) _
  refine ⟨by simp [go_sem], h.1, by simp [go_sem], ⟨0, q, Nat.zero_le _, by simp [go_sem], by simp [go_sem]⟩, by simp [go_sem], by simp [go_sem], fun j hj => ?_⟩
  obtain ⟨b, off, z, e, hb', hz, r⟩ := h.2 j hj
  exact ⟨b, off, z, e, hb', (hb.cell (p := ⟨b, off + j, none⟩) hb').trans hz, r⟩

set_option maxHeartbeats 400000 in
theorem new_any (x : Option Addr) (len cap : Nat) (w : World) (hs : Src w w.heap.size x len) :
    Calls Try.prog 18 #[.slice x len cap] w fun e w' => e = .returned (.pointer (some ⟨w.heap.size, 0, none⟩)) ∧ Below w.heap.size w w' ∧ Cur w' w.heap.size x len cap := by
  obtain ⟨hm, hsrc⟩ := hs
  have HS : Hid (∀ j, j < len → ∃ b off z, x = some ⟨b, off, none⟩ ∧ b < w.heap.size ∧ w.cell? ⟨b, off + j, none⟩ = some (.int .u8 z) ∧ 0 ≤ z ∧ z ≤ 255) := hsrc
  have HM : Hid (len ≤ maxLen) := hm
  clear hsrc
  unfold maxLen at hm
  go_enter Try.func18, Try.ntmps18
  go_wp2
  go_loop [3, 4] (fun h i => ∃ (k : Nat) (q : Int), k ≤ len ∧ i = .int .i64 k ∧ h = .int .i64 q) (fun _ i => len - (intOf i).toNat)
  case atStart => exact ⟨0, _, Nat.zero_le _, rfl, rfl⟩
  case round =>
    obtain ⟨k, q, hk, rfl, rfl⟩ := hrel
    by_cases hlt : k < len
    · obtain ⟨b, off, z, rfl, hb, hz, z0, z1⟩ := HS.out k hlt
      go_wp2
      go_round
      case rel => exact ⟨k + 1, _, by omega, by go_num, rfl⟩
      case measure => simp [intOf]; omega
    · go_wp2
      go_ret
      exact ⟨rfl, (Below.refl _ _).alloc (Nat.le_refl _) _, Cur.new ⟨HM.out, HS.out⟩ _ _⟩

set_option maxHeartbeats 400000 in
theorem below_any (c : Nat) (x : Option Addr) (len cap : Nat) (n : Int) (w : World) (hn : -9223372036854775808 ≤ n ∧ n ≤ 9223372036854775807) (hc : Cur w c x len cap) :
    Calls Try.prog 40 #[.pointer (some ⟨c, 0, none⟩), .int .i64 n] w fun e w' => ∃ y : Int, e = .returned (.int .i64 y) ∧ (0 ≤ y ∧ (0 < n → y < n) ∧ (n ≤ 0 → y = 0)) ∧ Upto c w w' ∧ Cur w' c x len cap := by
  by_cases h0 : n ≤ 0
  · go_enter Try.func40, Try.ntmps40
    go_wp2_with fail
    go_ret
    exact ⟨0, rfl, ⟨by omega, by omega, by omega⟩, Upto.refl _ _, hc⟩
  · have h1 : 0 < n := by omega
    have hz : (n == 0) = false := by simp; omega
    by_cases h2 : n ≤ 256
    · go_enter Try.func40, Try.ntmps40
      go_wp2_with fail
      refine (byte_any c x len cap _ hc).mono ?_
      rintro e w1 ⟨y, rfl, hy, u1, k1⟩
      go_wp2_with fail
      go_ret
      exact ⟨y % n, rfl, ⟨Int.emod_nonneg _ (by omega), fun _ => Int.emod_lt_of_pos _ h1, by omega⟩, u1, k1⟩
    · go_enter Try.func40, Try.ntmps40
      go_wp2_with fail
      refine (byte_any c x len cap _ hc).mono ?_
      rintro e w1 ⟨y1, rfl, hy1, u1, k1⟩
      go_wp2_with fail
      refine (byte_any c x len cap _ k1).mono ?_
      rintro e w2 ⟨y2, rfl, hy2, u2, k2⟩
      go_wp2_with fail
      refine (byte_any c x len cap _ k2).mono ?_
      rintro e w3 ⟨y3, rfl, hy3, u3, k3⟩
      go_wp2_with fail
      refine (byte_any c x len cap _ k3).mono ?_
      rintro e w4 ⟨y4, rfl, hy4, u4, k4⟩
      go_wp2_with fail
      go_ret
      exact ⟨(y1 * 16777216 + y2 * 65536 + y3 * 256 + y4) % n, rfl, ⟨Int.emod_nonneg _ (by omega), fun _ => Int.emod_lt_of_pos _ h1, by omega⟩, u1.trans (u2.trans (u3.trans u4)), k4⟩

theorem once_any (c : Nat) (x : Option Addr) (len cap : Nat) (n : Int) (w : World) (hn : -9223372036854775808 ≤ n ∧ n ≤ 9223372036854775807) (hc : Cur w c x len cap) :
    Calls Try.prog 41 #[.pointer (some ⟨c, 0, none⟩), .int .i64 n] w fun e w' => ∃ y : Bool, e = .returned (.bool y) ∧ Upto c w w' ∧ Cur w' c x len cap := by
  go_enter Try.func41, Try.ntmps41
  go_wp2_with fail
  refine (below_any c x len cap n _ hn hc).mono ?_
  rintro e w1 ⟨y, rfl, hy, u1, k1⟩
  go_wp2_with fail
  go_ret
  exact ⟨_, rfl, u1, k1⟩

theorem from_any (c : Nat) (x : Option Addr) (len cap : Nat) (lo hi : Int) (w : World) (h1 : -1000000000 ≤ lo) (h2 : lo ≤ hi) (h3 : hi ≤ 1000000000) (hc : Cur w c x len cap) :
    Calls Try.prog 22 #[.pointer (some ⟨c, 0, none⟩), .int .i64 lo, .int .i64 hi] w fun e w' => ∃ y : Int, e = .returned (.int .i64 y) ∧ (lo ≤ y ∧ y ≤ hi) ∧ Upto c w w' ∧ Cur w' c x len cap := by
  go_enter Try.func22, Try.ntmps22
  go_wp2_with fail
  refine (below_any c x len cap (hi - lo + 1) _ (by omega) hc).mono ?_
  rintro e w1 ⟨y, rfl, hy, u1, k1⟩
  go_wp2_with fail
  go_ret
  exact ⟨lo + y, rfl, by omega, u1, k1⟩
end Go.Proofs.Ytgabhnhfomekfaa

