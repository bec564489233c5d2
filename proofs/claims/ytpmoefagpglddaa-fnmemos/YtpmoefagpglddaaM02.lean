/-
  Contracts and plain laws, one chapter behind the other.
-/
import Derived.Laws.Bits128
import Derived.IntWalk
import Derived.Handy
import Derived.Laws.IdiomStrings
import Derived.Test.YtpmoefagpglddaaChecked
import Derived.WalkKit
import Derived.WalkSpells
import Derived.Below
import Derived.Deep.QuietTactic
import Derived.BigQuiet
import Derived.Laws.MakeOwn
import Derived.ProofKit
import Derived.OpenShut
import Derived.ShutString
import Derived.Lib.SmallJoins
import Derived.SliceStrings
import Derived.ChangeSlices
import Derived.Deep.RegionHeld3
import Derived.Deep.RegionLaw
import Derived.Laws.StructEq
import Derived.Deep.DeepCutAuto
import Derived.Test.YtpmoefagpglddaaM01
namespace Go.Proofs.Ytpmoefagpglddaa
theorem and255 (n : Int) : bits .and .i64 n 255 = n % 256 := by
  have h255 : (BitVec.ofInt 64 255).toNat = 2 ^ 8 - 1 := by decide
  have key : (BitVec.ofInt 64 n &&& BitVec.ofInt 64 255).toNat = (n % ((2 ^ 64 : Nat) : Int)).toNat % 2 ^ 8 := by
    rw [BitVec.toNat_and, BitVec.toNat_ofInt, h255, Nat.and_two_pow_sub_one_eq_mod]
  show IntKind.i64.wrap ((BitVec.ofInt 64 n &&& BitVec.ofInt 64 255).toNat : Nat) = n % 256
  rw [key, IntKind.wrap_i64]
  omega
end Go.Proofs.Ytpmoefagpglddaa

namespace Go.Proofs.Ytpmoefagpglddaa
open Go.RowKit

set_option linter.unusedVariables false

set_option maxRecDepth 100000

theorem take_more {α : Type} (xs ys : List α) (k : Nat) (h1 : k < xs.length) (h2 : k < ys.length) (h : xs.take k = ys.take k) (e : xs[k] = ys[k]) : xs.take (k + 1) = ys.take (k + 1) := by
  rw [List.take_succ_eq_append_getElem h1, List.take_succ_eq_append_getElem h2, h, e]

theorem ne_at {α : Type} (xs ys : List α) (k : Nat) (h1 : k < xs.length) (h2 : k < ys.length) (e : xs[k] ≠ ys[k]) : ¬ xs = ys := by
  intro h; subst h; exact e rfl

theorem all_taken {α : Type} (xs ys : List α) (k : Nat) (h1 : ¬ k < xs.length) (h2 : xs.length = ys.length) (h : xs.take k = ys.take k) : xs = ys := by
  rw [List.take_of_length_le (by omega), List.take_of_length_le (by omega)] at h; exact h
end Go.Proofs.Ytpmoefagpglddaa

namespace Go.Proofs.Ytpmoefagpglddaa
open Go.RowKit

set_option linter.unusedVariables false

set_option maxRecDepth 100000


set_option maxHeartbeats 400000 in
theorem byteEnd (c : Nat) (x : Option Addr) (len cap : Nat) (i : Nat) (h : Int) (w : World) (hl : len ≤ maxLen)
    (c0 : w.cell? ⟨c, 0, none⟩ = some (.slice x len cap)) (c1 : w.cell? ⟨c, 1, none⟩ = some (.int .i64 i)) (c2 : w.cell? ⟨c, 2, none⟩ = some (.int .i64 h))
    (f2 : w.frozen? ⟨c, 2, none⟩ = false) (hi : ¬ i < len) :
    Calls Try.prog 52 #[.pointer (some ⟨c, 0, none⟩)] w fun e w' => ∃ (y h' : Int) (n m : Nat), e = .returned (.int .i64 y) ∧ (0 ≤ y ∧ y ≤ 255) ∧ w' = ((w.setCell ⟨c, 2, none⟩ (.int .i64 h')).drewN n).drewN m := by
  unfold maxLen at hl
  have hx : ∀ n, bits .and .i64 n 255 = n % 256 := and255
  go_enter Try.func52, Try.ntmps52
  go_wp2
  go_quiet (fail)
  go_wp2
  go_quiet (fail)
  go_wp2
  go_ret
  exact ⟨_, _, _, _, rfl, ⟨by omega, by omega⟩, rfl⟩

set_option maxHeartbeats 400000 in
theorem byteMore (c b off : Nat) (len cap : Nat) (i : Nat) (h z : Int) (w : World) (hl : len ≤ maxLen)
    (c0 : w.cell? ⟨c, 0, none⟩ = some (.slice (some ⟨b, off, none⟩) len cap)) (c1 : w.cell? ⟨c, 1, none⟩ = some (.int .i64 i)) (c2 : w.cell? ⟨c, 2, none⟩ = some (.int .i64 h))
    (f1 : w.frozen? ⟨c, 1, none⟩ = false) (f2 : w.frozen? ⟨c, 2, none⟩ = false) (hi : i < len) (hb : b < c) (cz : w.cell? ⟨b, off + i, none⟩ = some (.int .u8 z)) (z0 : 0 ≤ z) (z1 : z ≤ 255) :
    Calls Try.prog 52 #[.pointer (some ⟨c, 0, none⟩)] w fun e w' => ∃ (y h' : Int) (n : Nat), e = .returned (.int .i64 y) ∧ (0 ≤ y ∧ y ≤ 255) ∧ w' = ((w.setCell ⟨c, 2, none⟩ (.int .i64 h')).drewN n).setCell ⟨c, 1, none⟩ (.int .i64 ((i : Int) + 1)) := by
  unfold maxLen at hl
  have hx : ∀ n, bits .and .i64 n 255 = n % 256 := and255
  have hne : ¬ c = b := by omega
  have hne' : ¬ b = c := by omega
  go_enter Try.func52, Try.ntmps52
  go_wp2
  go_quiet (fail)
  go_wp2
  go_quiet (fail)
  go_wp2
  go_quiet (fail)
  go_wp2
  go_ret
  exact ⟨_, _, _, rfl, ⟨by omega, by omega⟩, rfl⟩

theorem byte_any (c : Nat) (x : Option Addr) (len cap : Nat) (w : World) (hc : Cur w c x len cap) :
    Calls Try.prog 52 #[.pointer (some ⟨c, 0, none⟩)] w fun e w' => ∃ y : Int, e = .returned (.int .i64 y) ∧ (0 ≤ y ∧ y ≤ 255) ∧ Upto c w w' ∧ Cur w' c x len cap := by
  obtain ⟨i, h, hi, h1, h2⟩ := hc.ih
  by_cases hlt : i < len
  · obtain ⟨b, off, z, rfl, hb, hz, z0, z1⟩ := hc.src i hlt
    refine (byteMore c b off len cap i h z w hc.hm hc.b h1 h2 hc.f1 hc.f2 hlt hb hz z0 z1).mono ?_
    rintro e w' ⟨y, h', n, rfl, hy, rfl⟩
    have hu : Upto c w (((w.setCell ⟨c, 2, none⟩ (.int .i64 h')).drewN n).setCell ⟨c, 1, none⟩ (.int .i64 ((i : Int) + 1))) := (((Upto.refl c w).setCell _ (.inl rfl) _).drewN n).setCell _ (.inl rfl) _
    refine ⟨y, rfl, hy, hu, hc.step hu (i + 1) h' hlt ?_ ?_ ?_ ?_ ?_⟩
    · simp [go_sem, hc.b]
    · simp [go_sem, h1]
    · simp [go_sem, h2]
    · simp [go_sem, hc.f1]
    · simp [go_sem, hc.f2]
  · refine (byteEnd c x len cap i h w hc.hm hc.b h1 h2 hc.f2 hlt).mono ?_
    rintro e w' ⟨y, h', n, m, rfl, hy, rfl⟩
    have hu : Upto c w (((w.setCell ⟨c, 2, none⟩ (.int .i64 h')).drewN n).drewN m) := (((Upto.refl c w).setCell _ (.inl rfl) _).drewN n).drewN m
    refine ⟨y, rfl, hy, hu, hc.step hu i h' hi ?_ ?_ ?_ ?_ ?_⟩
    · simp [go_sem, hc.b]
    · simp [go_sem, h1]
    · simp [go_sem, h2]
    · simp [go_sem, hc.f1]
    · simp [go_sem, hc.f2]
end Go.Proofs.Ytpmoefagpglddaa

namespace Go.Proofs.Ytpmoefagpglddaa
open Go.RowKit

set_option linter.unusedVariables false

set_option maxRecDepth 100000


/-- The bytes of an argument, below block c. -/
def Src (w : World) (c : Nat) (x : Option Addr) (len : Nat) : Prop :=
  len ≤ maxLen ∧ ∀ j, j < len → ∃ b off z, x = some ⟨b, off, none⟩ ∧ b < c ∧ w.cell? ⟨b, off + j, none⟩ = some (.int .u8 z) ∧ 0 ≤ z ∧ z ≤ 255

theorem Src.below {w w' : World} {c : Nat} {x : Option Addr} {len : Nat} (h : Src w c x len) (k : Below c w w') : Src w' c x len :=
  ⟨h.1, fun j hj => by obtain ⟨b, off, z, e, hb, hz, r⟩ := h.2 j hj; exact ⟨b, off, z, e, hb, (k.cell (p := ⟨b, off + j, none⟩) hb).trans hz, r⟩⟩

theorem Src.mono {w : World} {c d : Nat} {x : Option Addr} {len : Nat} (h : Src w c x len) (k : c ≤ d) : Src w d x len :=
  ⟨h.1, fun j hj => by obtain ⟨b, off, z, e, hb, r⟩ := h.2 j hj; exact ⟨b, off, z, e, Nat.lt_of_lt_of_le hb k, r⟩⟩

theorem src_of {w : World} {a : Option Addr} {len cap : Nat} {zs : List Int} (h : (a = none ∧ len = 0 ∧ cap = 0 ∧ zs = []) ∨
    ∃ x, a = some x ∧ len ≤ cap ∧ cap ≤ maxLen ∧ zs.length = cap ∧ (∀ i, i < zs.length → w.cell? (x.add i) = some (.int .u8 (zs.getD i 0))) ∧ ∀ n ∈ zs, (Lit.int .u8 n).wf = true) : Src w w.heap.size a len := by
  rcases h with ⟨rfl, rfl, rfl, rfl⟩ | ⟨x, rfl, hl, hm, hz, hcell, hwz⟩
  · exact ⟨Nat.zero_le _, fun j hj => by omega⟩
  · refine ⟨Nat.le_trans hl hm, fun j hj => ?_⟩
    have hc := hcell j (by omega)
    obtain ⟨b, off, spot⟩ := x
    have hspot : spot = none := by simpa [Addr.add] using World.cell?_spot (hcell 0 (by omega))
    subst hspot
    have e : (⟨b, off, none⟩ : Addr).add j = ⟨b, off + j, none⟩ := by unfold Addr.add; split <;> simp_all
    rw [e] at hc
    have hb : b < w.heap.size := by
      rcases Nat.lt_or_ge b w.heap.size with q | q
      · exact q
      · simp [World.cell?, Array.getElem?_eq_none q] at hc
    have hw := hwz (zs.getD j 0) (by rw [List.getD_eq_getElem?_getD, List.getElem?_eq_getElem (by omega)]; exact List.getElem_mem _)
    have hx : 0 ≤ zs.getD j 0 ∧ zs.getD j 0 ≤ 255 := by simpa [Lit.wf, IntKind.min, IntKind.max, IntKind.signed, IntKind.bits] using hw
    exact ⟨b, off, _, rfl, hb, hc, hx.1, hx.2⟩

theorem Cur.new {w : World} {x : Option Addr} {len cap : Nat} (h : Src w w.heap.size x len) (q : Int) (t : TypeId) :
    Cur (w.alloc (.cells #[.slice x len cap, .int .i64 0, .int .i64 q] t)) w.heap.size x len cap := by
  have hb : Below w.heap.size w (w.alloc (.cells #[.slice x len cap, .int .i64 0, .int .i64 q] t)) := (Below.refl _ _).alloc (Nat.le_refl _) _
  refine ⟨by simp [go_sem], h.1, by simp [go_sem], ⟨0, q, Nat.zero_le _, by simp [go_sem], by simp [go_sem]⟩, by simp [go_sem], by simp [go_sem], fun j hj => ?_⟩
  obtain ⟨b, off, z, e, hb', hz, r⟩ := h.2 j hj
  exact ⟨b, off, z, e, hb', (hb.cell (p := ⟨b, off + j, none⟩) hb').trans hz, r⟩

set_option maxHeartbeats 400000 in
theorem new_any (x : Option Addr) (len cap : Nat) (w : World) (hs : Src w w.heap.size x len) :
    Calls Try.prog 26 #[.slice x len cap] w fun e w' => e = .returned (.pointer (some ⟨w.heap.size, 0, none⟩)) ∧ Below w.heap.size w w' ∧ Cur w' w.heap.size x len cap := by
  obtain ⟨hm, hsrc⟩ := hs
  have HS : Hid (∀ j, j < len → ∃ b off z, x = some ⟨b, off, none⟩ ∧ b < w.heap.size ∧ w.cell? ⟨b, off + j, none⟩ = some (.int .u8 z) ∧ 0 ≤ z ∧ z ≤ 255) := hsrc
  have HM : Hid (len ≤ maxLen) := hm
  clear hsrc
  unfold maxLen at hm
  go_enter Try.func26, Try.ntmps26
  go_wp2
  go_loop [3, 4] (fun h i => ∃ (k : Nat) (q : Int), k ≤ len ∧ i = .int .i64 k ∧ h = .int .i64 q) (fun _ i => len - (intOf i).toNat)
  case atStart => exact ⟨0, _, Nat.zero_le _, rfl, rfl⟩
  case round =>
    obtain ⟨k, q, hk, rfl, rfl⟩ := hrel
    by_cases hlt : k < len
    · obtain ⟨b, off, z, rfl, hb, hz, z0, z1⟩ := HS.out k hlt
      go_wp2
      go_round
      case rel => exact ⟨k + 1, _, by omega, by go_num, rfl⟩
      case measure => simp [intOf]; omega
    · go_wp2
      go_ret
      exact ⟨rfl, (Below.refl _ _).alloc (Nat.le_refl _) _, Cur.new ⟨HM.out, HS.out⟩ _ _⟩

set_option maxHeartbeats 400000 in
theorem below_any (c : Nat) (x : Option Addr) (len cap : Nat) (n : Int) (w : World) (hn : -9223372036854775808 ≤ n ∧ n ≤ 9223372036854775807) (hc : Cur w c x len cap) :
    Calls Try.prog 29 #[.pointer (some ⟨c, 0, none⟩), .int .i64 n] w fun e w' => ∃ y : Int, e = .returned (.int .i64 y) ∧ (0 ≤ y ∧ (0 < n → y < n) ∧ (n ≤ 0 → y = 0)) ∧ Upto c w w' ∧ Cur w' c x len cap := by
  by_cases h0 : n ≤ 0
  · go_enter Try.func29, Try.ntmps29
    go_wp2_with fail
    go_ret
    exact ⟨0, rfl, ⟨by omega, by omega, by omega⟩, Upto.refl _ _, hc⟩
  · have h1 : 0 < n := by omega
    have hz : (n == 0) = false := by simp; omega
    by_cases h2 : n ≤ 256
    · go_enter Try.func29, Try.ntmps29
      go_wp2_with fail
      refine (byte_any c x len cap _ hc).mono ?_
      rintro e w1 ⟨y, rfl, hy, u1, k1⟩
      go_wp2_with fail
      go_ret
      exact ⟨y % n, rfl, ⟨Int.emod_nonneg _ (by omega), fun _ => Int.emod_lt_of_pos _ h1, by omega⟩, u1, k1⟩
    · go_enter Try.func29, Try.ntmps29
      go_wp2_with fail
      refine (byte_any c x len cap _ hc).mono ?_
      rintro e w1 ⟨y1, rfl, hy1, u1, k1⟩
      go_wp2_with fail
      refine (byte_any c x len cap _ k1).mono ?_
      rintro e w2 ⟨y2, rfl, hy2, u2, k2⟩
      go_wp2_with fail
      refine (byte_any c x len cap _ k2).mono ?_
      rintro e w3 ⟨y3, rfl, hy3, u3, k3⟩
      go_wp2_with fail
      refine (byte_any c x len cap _ k3).mono ?_
      rintro e w4 ⟨y4, rfl, hy4, u4, k4⟩
      go_wp2_with fail
      go_ret
      exact ⟨(y1 * 16777216 + y2 * 65536 + y3 * 256 + y4) % n, rfl, ⟨Int.emod_nonneg _ (by omega), fun _ => Int.emod_lt_of_pos _ h1, by omega⟩, u1.trans (u2.trans (u3.trans u4)), k4⟩

theorem once_any (c : Nat) (x : Option Addr) (len cap : Nat) (n : Int) (w : World) (hn : -9223372036854775808 ≤ n ∧ n ≤ 9223372036854775807) (hc : Cur w c x len cap) :
    Calls Try.prog 51 #[.pointer (some ⟨c, 0, none⟩), .int .i64 n] w fun e w' => ∃ y : Bool, e = .returned (.bool y) ∧ Upto c w w' ∧ Cur w' c x len cap := by
  go_enter Try.func51, Try.ntmps51
  go_wp2_with fail
  refine (below_any c x len cap n _ hn hc).mono ?_
  rintro e w1 ⟨y, rfl, hy, u1, k1⟩
  go_wp2_with fail
  go_ret
  exact ⟨_, rfl, u1, k1⟩

theorem from_any (c : Nat) (x : Option Addr) (len cap : Nat) (lo hi : Int) (w : World) (h1 : -1000000000 ≤ lo) (h2 : lo ≤ hi) (h3 : hi ≤ 1000000000) (hc : Cur w c x len cap) :
    Calls Try.prog 28 #[.pointer (some ⟨c, 0, none⟩), .int .i64 lo, .int .i64 hi] w fun e w' => ∃ y : Int, e = .returned (.int .i64 y) ∧ (lo ≤ y ∧ y ≤ hi) ∧ Upto c w w' ∧ Cur w' c x len cap := by
  go_enter Try.func28, Try.ntmps28
  go_wp2_with fail
  refine (below_any c x len cap (hi - lo + 1) _ (by omega) hc).mono ?_
  rintro e w1 ⟨y, rfl, hy, u1, k1⟩
  go_wp2_with fail
  go_ret
  exact ⟨lo + y, rfl, by omega, u1, k1⟩
end Go.Proofs.Ytpmoefagpglddaa

namespace Go.Proofs.Ytpmoefagpglddaa
open Go.RowKit

set_option linter.unusedVariables false

set_option maxRecDepth 100000


/-- A cell of a block is written. -/
theorem set_at {W : World} {b : Nat} {cs : Array Value} {t : TypeId} (h : W.heap[b]? = some (.cells cs t (0, 0))) (i : Nat) (x : Value) : (W.setCell ⟨b, i, none⟩ x).heap[b]? = some (.cells (cs.setIfInBounds i x) t (0, 0)) := by
  obtain ⟨hlt, hk⟩ := Array.getElem?_eq_some_iff.1 h
  show (W.heap.modify b _)[b]? = _
  rw [Array.getElem?_eq_getElem (by rw [Array.size_modify]; exact hlt), Array.getElem_modify_self, hk]
  rfl
end Go.Proofs.Ytpmoefagpglddaa

namespace Go.Proofs.Ytpmoefagpglddaa
set_option linter.unusedVariables false

set_option maxRecDepth 100000

/-- One place more: it is skipped, it makes the last run longer, or it begins a run. -/
def grow (k : Nat) (v : Int) (acc : List (Int × Int × Int)) : List (Int × Int × Int) :=
  if v < 0 then acc else
  match acc.getLast? with
  | none => acc ++ [((k : Int), 1, v)]
  | some r => if r.1 + r.2.1 = k ∧ r.2.2 + r.2.1 = v then acc.dropLast ++ [(r.1, r.2.1 + 1, r.2.2)] else acc ++ [((k : Int), 1, v)]

/-- The map of the first n places of l. -/
def upto (l : List Int) : Nat → List (Int × Int × Int)
  | 0 => []
  | n + 1 => grow n (l.getD n 0) (upto l n)
end Go.Proofs.Ytpmoefagpglddaa

namespace Go.Proofs.Ytpmoefagpglddaa
open Go.RowKit

set_option linter.unusedVariables false

set_option maxRecDepth 100000


/-- A reply's cells. -/
def repC (r : Int × Int) : List Value := [.int .i64 r.1, .int .i64 r.2]

theorem repC_len (r : Int × Int) : (repC r).length = 2 := rfl

theorem Try.infoRep : (Try.prog.info? 29).map (fun i => (i.zero, i.size, i.bytes)) = some (some (.agg #[.int .i64 0, .int .i64 0]), 2, 16) := by kernel_rfl

theorem two_cells {B : Nat} {w : World} {o : Option Addr} {rs : List (Int × Int)} (hc : ∀ i x, rs[i]? = some x → ∃ g off, o = some ⟨g, off, none⟩ ∧ g < B ∧ ∀ j u, (repC x)[j]? = some u → w.cell? ⟨g, off + i * 2 + j, none⟩ = some u) (i : Nat) (hi : i < rs.length) :
    ∃ g off, o = some ⟨g, off, none⟩ ∧ g < B ∧ w.cell? ⟨g, off + i * 2, none⟩ = some (.int .i64 rs[i].1) ∧ w.cell? ⟨g, off + i * 2 + 1, none⟩ = some (.int .i64 rs[i].2) := by
  obtain ⟨g, off, e, hg, hx⟩ := hc i rs[i] (List.getElem?_eq_getElem hi)
  exact ⟨g, off, e, hg, hx 0 _ rfl, hx 1 _ rfl⟩

/-- make([]impl.Reply, n): a row of zero runs, at the end of memory. -/
theorem made_reps (n : Nat) (hn : n ≤ 1048576) : ∃ M : Array Value, (∀ W : World, (Instr.makeSlice 25 (.int .i64 (n : Int)) (.int .i64 (n : Int))).run Try.prog W = .ok (.slice (some ⟨W.heap.size, 0, none⟩) n n) (W.alloc (.cells M 29))) ∧
    ∀ (W : World) (base : Nat), base ≤ W.heap.size → (W.alloc (.cells M 29)).ownsRow base 29 2 (.slice (some ⟨W.heap.size, 0, none⟩) n n) (List.replicate n ((0 : Int), (0 : Int))).length ((List.replicate n ((0 : Int), (0 : Int))).flatMap repC) := by
  obtain ⟨i0, hi, hz0, hz1, hz2⟩ := info_parts Try.infoRep
  have e := toList_made (cs := repC) repC_len (by omega) ((0 : Int), (0 : Int)) (Value.agg #[.int .i64 0, .int .i64 0]).cells rfl n
  refine ⟨madeCells (Value.agg #[.int .i64 0, .int .i64 0]).cells (n * 2), fun W => ?_, fun W base hb => ?_⟩
  · have h := run_make (P := Try.prog) W 25 29 i0 (.agg #[.int .i64 0, .int .i64 0]) Try.underlying25 hi hz0 .i64 .i64 (n : Int) (n : Int) (by omega) (by omega) (by rw [hz2]; omega) (by omega)
    rw [hz1, Int.toNat_natCast] at h
    simpa using h
  · have h := World.ownsRow_lit (base := base) (size := 2) (e := 29) W (madeCells (Value.agg #[.int .i64 0, .int .i64 0]).cells (n * 2)) n hb (by unfold maxLen; omega) (by rw [size_madeCells])
    rw [e] at h
    rwa [List.length_replicate]

/-- A whole reply is written. -/
theorem own_rep {w : World} {base g n cap : Nat} {xs : List (Int × Int)} (h : w.ownsRow base 29 2 (.slice (some ⟨g, 0, none⟩) n cap) xs.length (xs.flatMap repC)) (i : Nat) (hi : i < xs.length) (f c : Int) :
    ((w.setCell ⟨g, i * 2, none⟩ (.int .i64 f)).setCell ⟨g, i * 2 + 1, none⟩ (.int .i64 c)).ownsRow base 29 2 (.slice (some ⟨g, 0, none⟩) n cap) (xs.set i (f, c)).length ((xs.set i (f, c)).flatMap repC) := by
  have h1 := own_put repC_len h i 0 xs[i] (f, xs[i].2) (.int .i64 f) (List.getElem?_eq_getElem hi) (by omega) rfl
  have h2 := own_put repC_len h1 i 1 (f, xs[i].2) (f, c) (.int .i64 c) (by simp [hi]) (by omega) rfl
  rw [List.set_set] at h2
  exact h2

/-- A reply's two cells, in a row of one's own. -/
theorem own_two {w : World} {base g n cap : Nat} {xs : List (Int × Int)} (h : w.ownsRow base 29 2 (.slice (some ⟨g, 0, none⟩) n cap) xs.length (xs.flatMap repC)) (i : Nat) (hi : i < xs.length) :
    (w.cell? ⟨g, i * 2, none⟩ = some (.int .i64 xs[i].1) ∧ w.cell? ⟨g, i * 2 + 1, none⟩ = some (.int .i64 xs[i].2)) ∧ w.frozen? ⟨g, i * 2, none⟩ = false ∧ w.frozen? ⟨g, i * 2 + 1, none⟩ = false := by
  obtain ⟨a0, b0⟩ := own_cell repC_len h i 0 _ (List.getElem?_eq_getElem hi) (by omega)
  obtain ⟨a1, b1⟩ := own_cell repC_len h i 1 _ (List.getElem?_eq_getElem hi) (by omega)
  exact ⟨⟨a0, a1⟩, b0, b1⟩
end Go.Proofs.Ytpmoefagpglddaa

namespace Go.Proofs.Ytpmoefagpglddaa
open Go.RowKit

set_option linter.unusedVariables false

set_option maxRecDepth 100000


theorem specReplyOk_any (c v : Int) (w : World) :
    Calls Try.prog 37 #[.agg #[.int .i64 c, .int .i64 v]] w fun e w' => e = .returned (.bool (repOk c v)) ∧ Below w.heap.size w w' := by
  obtain ⟨W0, hW0, k0, d0, z0⟩ := box1 w #[.int .i64 c, .int .i64 v] 29
  have HW0 : Hid (W0 = _) := hW0
  have p0 := at_cell k0 0
  have p1 := at_cell k0 1
  have HB : Hid (repOk c v = (inB c 0 9 && inB v 0 1000 && (decide (c = 0) || decide (v = 0)))) := rfl
  clear hW0 k0
  go_enter Try.func37, Try.ntmps37
  go_wp2_with fail
  rw [← HW0.out]
  clear HW0
  refine (l1In_any c 0 9 _).mono ?_
  rintro e w' ⟨rfl, rfl⟩
  have HI : Hid (inB c 0 9 = (decide (0 ≤ c) && decide (c ≤ 9))) := rfl
  rw [← HI.out]
  generalize inB c 0 9 = b0 at *
  cases b0
  · go_wp2_with fail
    go_ret
    exact ⟨ret_bool (by rw [HB.out]; rfl), d0⟩
  go_wp2_with fail
  refine (l1In_any v 0 1000 _).mono ?_
  rintro e w' ⟨rfl, rfl⟩
  have HI2 : Hid (inB v 0 1000 = (decide (0 ≤ v) && decide (v ≤ 1000))) := rfl
  rw [← HI2.out]
  generalize inB v 0 1000 = b1 at *
  cases b1
  · go_wp2_with fail
    go_ret
    exact ⟨ret_bool (by rw [HB.out]; rfl), d0⟩
  clear HI HI2
  by_cases h0 : c = 0
  · subst h0
    go_wp2_with fail
    go_ret
    exact ⟨ret_bool (by rw [HB.out]; rfl), d0⟩
  · go_wp2_with fail
    go_ret
    exact ⟨ret_bool (by rw [HB.out, Bool.eq_iff_iff]; simp [h0]), d0⟩
end Go.Proofs.Ytpmoefagpglddaa

namespace Go.Proofs.Ytpmoefagpglddaa
open Go.RowKit

set_option linter.unusedVariables false

set_option maxRecDepth 100000

/-- make([]int64, n): a row of noughts, at the end of memory. -/
theorem made_ints (n : Nat) (hn : n ≤ 1048576) : ∃ M : Array Value, M.toList = (List.replicate n (0 : Int)).map (Value.int .i64) ∧ (∀ W : World, (Instr.makeSlice 24 (.int .i64 (n : Int)) (.int .i64 (n : Int))).run Try.prog W = .ok (.slice (some ⟨W.heap.size, 0, none⟩) n n) (W.alloc (.cells M 2))) ∧
    ∀ (W : World) (base : Nat), base ≤ W.heap.size → (W.alloc (.cells M 2)).ownsRow base 2 1 (.slice (some ⟨W.heap.size, 0, none⟩) n n) n ((List.replicate n (0 : Int)).map (Value.int .i64)) := by
  obtain ⟨i0, hi, hz0, hz1, hz2⟩ := info_parts Try.infoI64
  have e : (madeCells (Value.int .i64 0).cells n).toList = (List.replicate n (0 : Int)).map (Value.int .i64) := by
    show (madeCells #[.int .i64 0] n).toList = _
    rw [toList_madeCells_one]
    simp
  refine ⟨madeCells (Value.int .i64 0).cells n, e, fun W => ?_, fun W base hb => ?_⟩
  · have h := run_make (P := Try.prog) W 24 2 i0 (.int .i64 0) Try.underlying24 hi hz0 .i64 .i64 (n : Int) (n : Int) (by omega) (by omega) (by rw [hz2]; omega) (by omega)
    rw [hz1, Nat.mul_one, Int.toNat_natCast] at h
    simpa using h
  · have h := World.ownsRow_lit (base := base) (size := 1) (e := 2) W (madeCells (Value.int .i64 0).cells n) n hb (by unfold maxLen; omega) (by rw [size_madeCells]; omega)
    rwa [e] at h

theorem int_ne {x y : Int} (h : (x != y) = true) : x ≠ y := by simpa using h

theorem int_same {x y : Int} (h : (x != y) = false) : x = y := by simpa using h

set_option maxHeartbeats 800000 in
theorem likeInts_any (v1 v2 : Value) (xs ys : List Int) (w : World) (h1 : Reads w.heap.size w v1 (xs.map (Value.int .i64))) (h2 : Reads w.heap.size w v2 (ys.map (Value.int .i64))) :
    Calls Try.prog 38 #[v1, v2] w fun e w' => e = .returned (.bool (decide (xs = ys))) ∧ Below w.heap.size w w' := by
  obtain ⟨o1, cap1, rfl, m1, c1, -⟩ := h1
  obtain ⟨o2, cap2, rfl, m2, c2, -⟩ := h2
  simp only [List.length_map] at m1 m2 c1 c2 ⊢
  by_cases hlen : xs.length = ys.length
  · rw [← hlen]
    have C1 : Hid (∀ j u, (xs.map (Value.int .i64))[j]? = some u → ∃ g off, o1 = some ⟨g, off, none⟩ ∧ g < w.heap.size ∧ w.cell? ⟨g, off + j, none⟩ = some u) := c1
    have C2 : Hid (∀ j u, (ys.map (Value.int .i64))[j]? = some u → ∃ g off, o2 = some ⟨g, off, none⟩ ∧ g < w.heap.size ∧ w.cell? ⟨g, off + j, none⟩ = some u) := c2
    have HL : Hid (xs.length = ys.length) := hlen
    have hle : ys.length ≤ xs.length := by omega
    have hge : xs.length ≤ ys.length := by omega
    unfold maxLen at m1
    clear c1 c2 m2 hlen
    go_enter Try.func38, Try.ntmps38
    go_wp2
    go_loopw [5] (fun i wr => ∃ k : Nat, k ≤ xs.length ∧ i = .int .i64 k ∧ xs.take k = ys.take k ∧ Below w.heap.size w wr) (fun i _ => xs.length - (intOf i).toNat)
    case atStart => exact ⟨0, Nat.zero_le _, rfl, rfl, Below.refl _ _⟩
    case round =>
      obtain ⟨k, hk, rfl, htk, hb⟩ := hrel
      have HT : Hid (xs.take k = ys.take k) := htk
      clear htk
      by_cases hlt : k < xs.length
      · have hlt2 : k < ys.length := by omega
        obtain ⟨g1, of1, rfl, q1, cc1⟩ := C1.out k (.int .i64 xs[k]) (by simp [hlt])
        obtain ⟨g2, of2, rfl, q2, cc2⟩ := C2.out k (.int .i64 ys[k]) (by simp [hlt2])
        generalize hx : xs[k] = x at cc1
        generalize hy : ys[k] = y at cc2
        have HX : Hid (xs[k] = x) := hx
        have HY : Hid (ys[k] = y) := hy
        clear hx hy C1 C2
        have d1 := (hb.cell (p := ⟨g1, of1 + k, none⟩) q1).trans cc1
        have d2 := (hb.cell (p := ⟨g2, of2 + k, none⟩) q2).trans cc2
        clear cc1 cc2
        go_wp2
        go_quiet (fail)
        go_wp2
        · have hne : x ≠ y := int_ne (by assumption)
          rw [← HX.out, ← HY.out] at hne
          go_ret
          exact ⟨ret_bool (by simp [ne_at xs ys k hlt hlt2 hne]), ⟨hb.os, hb.tape, hb.output, hb.size, hb.block⟩⟩
        · have he : x = y := int_same (by assumption)
          rw [← HX.out, ← HY.out] at he
          go_roundw
          case rel => exact ⟨k + 1, by omega, by go_num, take_more xs ys k hlt hlt2 HT.out he, ⟨hb.os, hb.tape, hb.output, hb.size, hb.block⟩⟩
          case measure => simp [intOf]; omega
      · go_wp2
        go_ret
        exact ⟨ret_bool (by simp [all_taken xs ys k hlt HL.out HT.out]), hb⟩
  · have hn : ((xs.length : Int) != (ys.length : Int)) = true := by rw [bne_iff_ne]; omega
    have HX : Hid (decide (xs = ys) = false) := by rw [Hid, decide_eq_false_iff_not]; intro e; rw [e] at hlen; exact hlen rfl
    unfold maxLen at m1 m2
    clear hlen c1 c2
    go_enter Try.func38, Try.ntmps38
    go_wp2
    go_ret
    exact ⟨ret_bool HX.out.symm, Below.refl _ _⟩
end Go.Proofs.Ytpmoefagpglddaa

namespace Go.Proofs.Ytpmoefagpglddaa
open Go.RowKit

set_option linter.unusedVariables false

set_option maxRecDepth 100000

theorem getD_some (xs : List Int) (j : Nat) (h : j < xs.length) : (xs.map (Value.int .i64))[j]? = some (.int .i64 (xs.getD j 0)) := by
  rw [List.getElem?_map, List.getElem?_eq_getElem h, List.getD_eq_getElem?_getD, List.getElem?_eq_getElem h]; rfl
end Go.Proofs.Ytpmoefagpglddaa

namespace Go.Proofs.Ytpmoefagpglddaa
open Go.RowKit

set_option linter.unusedVariables false

set_option maxRecDepth 100000


/-- A pool whose two rows are the call's own and lie apart. -/
structure OwnP (base : Nat) (w : World) (v1 v2 : Value) (cs ps : List Int) : Prop where
  c : w.ownsRow base 2 1 v1 cs.length (cs.map (Value.int .i64))
  p : w.ownsRow base 2 1 v2 ps.length (ps.map (Value.int .i64))
  apart : ∀ g, v1.ownBlock = some g → v2.ownBlock ≠ some g

theorem OwnP.below {base : Nat} {w w' : World} {v1 v2 : Value} {cs ps : List Int} (h : OwnP base w v1 v2 cs ps) (b : Below w.heap.size w w') : OwnP base w' v1 v2 cs ps := ⟨owns_below h.c b, owns_below h.p b, h.apart⟩

theorem OwnP.mono {base base' : Nat} {w : World} {v1 v2 : Value} {cs ps : List Int} (h : OwnP base w v1 v2 cs ps) (b : base' ≤ base) : OwnP base' w v1 v2 cs ps := ⟨owns_mono h.c b, owns_mono h.p b, h.apart⟩

theorem OwnP.upto {base c : Nat} {w w' : World} {v1 v2 : Value} {cs ps : List Int} (h : OwnP base w v1 v2 cs ps) (u : Upto c w w') (hc : c < base) : OwnP base w' v1 v2 cs ps := ⟨ownsRow_upto h.c u hc, ownsRow_upto h.p u hc, h.apart⟩

theorem OwnP.r1 {base : Nat} {w : World} {v1 v2 : Value} {cs ps : List Int} (h : OwnP base w v1 v2 cs ps) : Reads w.heap.size w v1 (cs.map (Value.int .i64)) := Reads.of_own h.c

theorem OwnP.r2 {base : Nat} {w : World} {v1 v2 : Value} {cs ps : List Int} (h : OwnP base w v1 v2 cs ps) : Reads w.heap.size w v2 (ps.map (Value.int .i64)) := Reads.of_own h.p

theorem OwnP.nil (base : Nat) (w : World) : OwnP base w (.slice none 0 0) (.slice none 0 0) [] [] := ⟨owns_nil _ _ _ _, owns_nil _ _ _ _, fun g h => by cases h⟩

theorem l1Copy_any (v : Value) (xs : List Int) (w : World) (hn : xs.length ≤ 1048576) (h : Reads w.heap.size w v (xs.map (Value.int .i64))) :
    Calls Try.prog 60 #[v] w fun e w' => ∃ v' : Value, e = .returned v' ∧ w'.ownsRow w.heap.size 2 1 v' xs.length (xs.map (Value.int .i64)) ∧ v' ≠ .slice none 0 0 ∧ Below w.heap.size w w' := by
  obtain ⟨i0, hi, hz0, hz1, hz2⟩ := info_parts Try.infoI64
  obtain ⟨o, cap, rfl, hm, hc, -⟩ := h
  have hl : (xs.map (Value.int .i64)).length = xs.length := by simp
  rw [hl] at hm ⊢
  have own0 : (w.alloc (.cells #[] 2)).ownsRow w.heap.size 2 1 (.slice (some ⟨w.heap.size, 0, none⟩) 0 0) 0 [] := World.ownsRow_lit w #[] 0 (Nat.le_refl _) (Nat.zero_le _) rfl
  have d0 : Below w.heap.size w (w.alloc (.cells #[] 2)) := bw_alloc (Below.refl _ _)
  have HC : Hid (∀ j u, (xs.map (Value.int .i64))[j]? = some u → ∃ g off, o = some ⟨g, off, none⟩ ∧ (w.alloc (.cells #[] 2)).cell? ⟨g, off + j, none⟩ = some u) := fun j u hj => by
    obtain ⟨g, off, e, hg, hx⟩ := hc j u hj
    exact ⟨g, off, e, (d0.cell (p := ⟨g, off + j, none⟩) hg).trans hx⟩
  clear hc hl
  go_enter Try.func60, Try.ntmps60
  go_wp2_with (at_builtin; refine wpList_append_reads rfl _ _ 24 rfl w.heap.size 2 i0 (.int .i64 0) 1 8 Try.underlying24 hi hz0 hz1 hz2 rfl (by decide) _ 0 [] rfl own0 o xs.length cap (xs.map (Value.int .i64)) rfl ?c0 HC.out ?c2 ?c3 ?c4 ?c5 ?_)
  case c0 => simp
  case c2 => intro u hu; simp at hu; obtain ⟨a, _, rfl⟩ := hu; rfl
  case c3 => unfold maxLen; omega
  case c4 => omega
  case c5 => simp
  intro v' w' hown hgrow hnil
  have hown2 : w'.ownsRow w.heap.size 2 1 v' xs.length (xs.map (Value.int .i64)) := by simpa using hown
  have hnn : v' ≠ .slice none 0 0 := hnil
  have hb : Below w.heap.size w w' := d0.grown hgrow (by simp) (fun q hq => (own0.lt q hq).1)
  clear hown hgrow hnil own0 d0 HC
  go_wp2_with fail
  go_ret
  exact ⟨v', rfl, hown2, hnn, hb⟩
end Go.Proofs.Ytpmoefagpglddaa

namespace Go.Proofs.Ytpmoefagpglddaa
open Go.RowKit

set_option linter.unusedVariables false

set_option maxRecDepth 100000


/-- A memo that is read: its rows. -/
structure RM (B : Nat) (w : World) (v1 v2 : Value) (ts : List Int) (rs : List (Int × Int)) : Prop where
  t : Reads B w v1 (ts.map (Value.int .i64))
  r : ReadsR 2 repC B w v2 rs

theorem RM.below {B : Nat} {w w' : World} {v1 v2 : Value} {ts : List Int} {rs : List (Int × Int)} (h : RM B w v1 v2 ts rs) (k : Below B w w') : RM B w' v1 v2 ts rs := ⟨h.t.below k, h.r.below k⟩

theorem RM.mono {B B' : Nat} {w : World} {v1 v2 : Value} {ts : List Int} {rs : List (Int × Int)} (h : RM B w v1 v2 ts rs) (k : B ≤ B') : RM B' w v1 v2 ts rs := ⟨h.t.mono k, h.r.mono k⟩

theorem RM.of {B : Nat} {W : World} {v1 v2 : Value} {ts : List Int} {rs : List (Int × Int)} (h : RM B W v1 v2 ts rs) (y : B ≤ W.heap.size) (p : BelowOf W) : RM p.w'.heap.size p.w' v1 v2 ts rs := ((h.mono y).below p.h).mono p.h.size

theorem RM.forms {B : Nat} {w : World} {v1 v2 : Value} {ts : List Int} {rs : List (Int × Int)} (h : RM B w v1 v2 ts rs) : ∃ o1 k1 o2 k2, v1 = .slice o1 ts.length k1 ∧ v2 = .slice o2 rs.length k2 := by
  obtain ⟨⟨o, k, e, -⟩, ⟨o', k', e', -⟩⟩ := h
  exact ⟨o, k, o', k', by rw [e, List.length_map], e'⟩

/-- A memo whose rows are the call's own (they lie apart: their types differ). -/
structure OwnM (base : Nat) (w : World) (v1 v2 : Value) (ts : List Int) (rs : List (Int × Int)) : Prop where
  t : w.ownsRow base 2 1 v1 ts.length (ts.map (Value.int .i64))
  r : w.ownsRow base 29 2 v2 rs.length (rs.flatMap repC)

theorem OwnM.below {base : Nat} {w w' : World} {v1 v2 : Value} {ts : List Int} {rs : List (Int × Int)} (h : OwnM base w v1 v2 ts rs) (b : Below w.heap.size w w') : OwnM base w' v1 v2 ts rs := ⟨owns_below h.t b, owns_below h.r b⟩

theorem OwnM.mono {base base' : Nat} {w : World} {v1 v2 : Value} {ts : List Int} {rs : List (Int × Int)} (h : OwnM base w v1 v2 ts rs) (b : base' ≤ base) : OwnM base' w v1 v2 ts rs := ⟨owns_mono h.t b, owns_mono h.r b⟩

theorem OwnM.upto {base c : Nat} {w w' : World} {v1 v2 : Value} {ts : List Int} {rs : List (Int × Int)} (h : OwnM base w v1 v2 ts rs) (u : Upto c w w') (hc : c < base) : OwnM base w' v1 v2 ts rs := ⟨ownsRow_upto h.t u hc, ownsRow_upto h.r u hc⟩

theorem OwnM.reads {base : Nat} {w : World} {v1 v2 : Value} {ts : List Int} {rs : List (Int × Int)} (h : OwnM base w v1 v2 ts rs) : RM w.heap.size w v1 v2 ts rs := ⟨Reads.of_own h.t, ReadsR.of_own repC_len h.r⟩

theorem OwnM.nil (base : Nat) (w : World) : OwnM base w (.slice none 0 0) (.slice none 0 0) [] [] := ⟨owns_nil _ _ _ _, owns_nil _ _ _ _⟩

/-- Two rows of one's own, whose elements are of two types, lie in two blocks. -/
theorem rows_two {w : World} {b1 b2 k1 k2 n1 n2 : Nat} {e1 e2 : TypeId} {v1 v2 : Value} {x1 x2 : List Value} (h1 : w.ownsRow b1 e1 k1 v1 n1 x1) (h2 : w.ownsRow b2 e2 k2 v2 n2 x2) (he : e1 ≠ e2) : ∀ g, v1.ownBlock = some g → v2.ownBlock ≠ some g := by
  intro g hg
  rcases h1.2 with ⟨rfl, _⟩ | ⟨g1, cap1, cur1, rfl, _, hh, _⟩
  · cases hg
  · simp [Value.ownBlock] at hg
    subst hg
    intro h
    rcases h2.2 with ⟨rfl, _⟩ | ⟨g2, cap2, cur2, rfl, _, hh2, _⟩
    · cases h
    · simp [Value.ownBlock] at h
      subst h
      rw [hh] at hh2
      simp at hh2
      exact he hh2.2

theorem OwnM.apart {base : Nat} {w : World} {v1 v2 : Value} {ts : List Int} {rs : List (Int × Int)} (h : OwnM base w v1 v2 ts rs) : ∀ g, v1.ownBlock = some g → v2.ownBlock ≠ some g := rows_two h.t h.r (by decide)

theorem rep_equal (c v c1 v1 : Int) (w : World) : (Op.equalIn 10000 29 (.agg #[.int .i64 c, .int .i64 v]) (.agg #[.int .i64 c1, .int .i64 v1])).run Try.prog w = .ok (decide ((c, v) = (c1, v1))) w := by
  go_simp
  by_cases h1 : c = c1 <;> by_cases h2 : v = v1 <;> simp [h1, h2]

theorem two_at {B : Nat} {w : World} {o : Option Addr} {rs : List (Int × Int)} (hc : ∀ i x, rs[i]? = some x → ∃ g off, o = some ⟨g, off, none⟩ ∧ g < B ∧ ∀ j u, (repC x)[j]? = some u → w.cell? ⟨g, off + i * 2 + j, none⟩ = some u) (i : Nat) (hi : i < rs.length) :
    ∃ g off, o = some ⟨g, off, none⟩ ∧ g < B ∧ w.cell? ⟨g, off + i * 2, none⟩ = some (.int .i64 (rs.getD i (0, 0)).1) ∧ w.cell? ⟨g, off + i * 2 + 1, none⟩ = some (.int .i64 (rs.getD i (0, 0)).2) := by
  rw [List.getD_eq_getElem?_getD, List.getElem?_eq_getElem hi]
  exact two_cells hc i hi

set_option maxHeartbeats 3200000 in
theorem specMemoOk_any (v1 v2 : Value) (ts : List Int) (rs : List (Int × Int)) (w : World) (r : RM w.heap.size w v1 v2 ts rs) :
    Calls Try.prog 18 #[.agg #[v1, v2]] w fun e w' => e = .returned (.bool (memOk ts rs)) ∧ Below w.heap.size w w' := by
  obtain ⟨⟨o1, cap1, rfl, m1, c1, -⟩, ⟨o2, cap2, rfl, m2, c2, -⟩⟩ := r
  simp only [List.length_map] at m1 ⊢
  unfold maxLen at m1 m2
  obtain ⟨W0, hW0, k0, d0, z0⟩ := box1 w #[.slice o1 ts.length cap1, .slice o2 rs.length cap2] 27
  have HW0 : Hid (W0 = _) := hW0
  have p0 := at_cell k0 0
  have p1 := at_cell k0 1
  have s0 := heap_lt k0
  by_cases h1 : ts.length = 4
  · by_cases h2 : rs.length = 4
    · have HV : Hid (memOk ts rs = memN ts rs 4) := by rw [Hid, memOk, h1, h2]; rfl
      have C1 : Hid (∀ j u, (ts.map (Value.int .i64))[j]? = some u → ∃ g off, o1 = some ⟨g, off, none⟩ ∧ g < w.heap.size ∧ w.cell? ⟨g, off + j, none⟩ = some u) := c1
      have C2 : Hid _ := two_at c2
      have H1 : Hid (ts.length = 4) := h1
      have H2 : Hid (rs.length = 4) := h2
      rw [h1, h2] at p0 p1 k0 HW0
      clear c1 c2 m1 m2 hW0 z0
      rw [h1, h2]
      clear h1 h2
      go_enter Try.func18, Try.ntmps18
      go_upto_region 4 with fail
      rw [← HW0.out]
      clear HW0 p0 p1
      go_loopw [3] (fun i wr => ∃ k : Nat, k ≤ 4 ∧ i = .int .i64 k ∧ memN ts rs k = true ∧ Below W0.heap.size W0 wr) (fun i _ => 4 - (intOf i).toNat)
      case atStart => exact ⟨0, Nat.zero_le _, rfl, rfl, Below.refl _ _⟩
      case round =>
        obtain ⟨k, hk, rfl, hall, hb⟩ := hrel
        have HA : Hid (memN ts rs k = true) := hall
        have kr := (hb.block _ s0).trans k0
        have p0 := at_cell kr 0
        have p1 := at_cell kr 1
        have hbw := bw_call d0 hb
        clear hall
        by_cases hlt : k < 4
        · obtain ⟨g1, of1, rfl, q1, cc⟩ := C1.out k _ (getD_some ts k (by have := H1.out; omega))
          obtain ⟨g2, of2, rfl, q2, a0, a1⟩ := C2.out k (by have := H2.out; omega)
          replace cc := (hbw.cell (p := ⟨g1, of1 + k, none⟩) q1).trans cc
          replace a0 := (hbw.cell (p := ⟨g2, of2 + k * 2, none⟩) q2).trans a0
          replace a1 := (hbw.cell (p := ⟨g2, of2 + k * 2 + 1, none⟩) q2).trans a1
          have HY : Hid (memAt (ts.getD k 0) (rs.getD k (0, 0)) = true → memN ts rs (k + 1) = true) := fun h => by rw [memN, allB_succ, Bool.and_eq_true]; exact ⟨HA.out, h⟩
          have HN : Hid (memAt (ts.getD k 0) (rs.getD k (0, 0)) = false → memOk ts rs = false) := fun h => by rw [HV.out]; exact allB_false _ 4 k hlt h
          generalize ts.getD k 0 = t at cc HY HN
          generalize rs.getD k (0, 0) = rr at a0 a1 HY HN
          obtain ⟨c, v⟩ := rr
          simp only at a0 a1
          have HM : Hid (memAt t (c, v) = (inB t 0 1000 && repOk c v && (!decide (t = 0) || decide ((c, v) = (0, 0))))) := rfl
          have i0 : (0 : Int) ≤ (k : Int) := by omega
          have i1 : (k : Int) < 4 := by omega
          have hg := Try.eqGuardType29
          clear C1 C2 HA
          go_wp2_with fail
          refine (l1In_any t 0 1000 _).mono ?_
          rintro e w5 ⟨rfl, rfl⟩
          have HI : Hid (inB t 0 1000 = (decide (0 ≤ t) && decide (t ≤ 1000))) := rfl
          rw [← HI.out]
          generalize inB t 0 1000 = bT at HM ⊢
          clear HI
          cases bT
          · go_wp2_with fail
            go_ret
            exact ⟨ret_bool (HN.out (by rw [HM.out]; rfl)).symm, hbw⟩
          go_wp2_with fail
          refine (specReplyOk_any c v _).mono ?_
          rintro e w6 ⟨rfl, b6⟩
          have kr6 := (b6.block _ (heap_lt kr)).trans kr
          have e0 := at_cell kr6 0
          have e1 := at_cell kr6 1
          have hbw6 := bw_call hbw b6
          have hb6 := bw_call hb b6
          have l1 : g1 < w5.heap.size := Nat.lt_of_lt_of_le q1 hbw.size
          have l2 : g2 < w5.heap.size := Nat.lt_of_lt_of_le q2 hbw.size
          have cc6 := (b6.cell (p := ⟨g1, of1 + k, none⟩) l1).trans cc
          have a06 := (b6.cell (p := ⟨g2, of2 + k * 2, none⟩) l2).trans a0
          have a16 := (b6.cell (p := ⟨g2, of2 + k * 2 + 1, none⟩) l2).trans a1
          clear cc a0 a1 b6 hb hbw kr p0 p1 kr6
          generalize repOk c v = bR at HM ⊢
          cases bR
          · go_wp2_with fail
            go_ret
            exact ⟨ret_bool (HN.out (by rw [HM.out]; rfl)).symm, hbw6⟩
          by_cases ht : t = 0
          · obtain ⟨bb, hbb⟩ : ∃ b, decide ((c, v) = ((0 : Int), (0 : Int))) = b := ⟨_, rfl⟩
            have HEQ : ∀ W : World, (Op.equalIn 10000 29 (.agg #[.int .i64 c, .int .i64 v]) (.agg #[.int .i64 0, .int .i64 0])).run Try.prog W = .ok bb W := fun W => by rw [← hbb]; exact rep_equal _ _ _ _ W
            have HBB : Hid (decide ((c, v) = ((0 : Int), (0 : Int))) = bb) := hbb
            have HM2 : Hid (memAt t (c, v) = bb) := by rw [Hid, HM.out, HBB.out, decide_eq_true ht]; rfl
            clear hbb HM
            subst ht
            cases bb
            · have HF : Hid _ := HN.out HM2.out
              go_wp2_with fail
              go_ret
              exact ⟨ret_bool HF.out.symm, hbw6⟩
            · have HF : Hid _ := HY.out HM2.out
              go_wp2_with fail
              go_roundw
              case rel => exact ⟨k + 1, by omega, by go_num, HF.out, hb6⟩
              case measure => simp [intOf]; omega
          · have HF : Hid _ := HY.out (by rw [HM.out, decide_eq_false ht]; rfl)
            have htb : (t == 0) = false := by rw [beq_eq_false_iff_ne]; exact ht
            go_wp2_with fail
            go_roundw
            case rel => exact ⟨k + 1, by omega, by go_num, HF.out, hb6⟩
            case measure => simp [intOf]; omega
        · obtain rfl : k = 4 := by omega
          go_wp2_with fail
          go_ret
          exact ⟨ret_bool (by rw [HV.out, HA.out]), hbw⟩
    · have HV : Hid (memOk ts rs = false) := memOk_no fun h => h2 h.2
      have hn2 : ((rs.length : Int) != 4) = true := by rw [bne_iff_ne]; omega
      have hn1 : ((ts.length : Int) != 4) = false := by rw [h1]; rfl
      clear c1 c2 hW0 z0 k0 h1 h2
      go_enter Try.func18, Try.ntmps18
      go_wp2_with fail
      rw [← HW0.out]
      go_ret
      exact ⟨ret_bool HV.out.symm, d0⟩
  · have HV : Hid (memOk ts rs = false) := memOk_no fun h => h1 h.1
    have hn1 : ((ts.length : Int) != 4) = true := by rw [bne_iff_ne]; omega
    clear c1 c2 hW0 z0 k0 h1
    go_enter Try.func18, Try.ntmps18
    go_wp2_with fail
    rw [← HW0.out]
    go_ret
    exact ⟨ret_bool HV.out.symm, d0⟩

theorem specKnownIn_any (v1 v2 : Value) (ts : List Int) (rs : List (Int × Int)) (C : Nat) (tag : Int) (w : World) (hC : C < 4) (h1 : ts.length = 4) (r : RM w.heap.size w v1 v2 ts rs) :
    Calls Try.prog 40 #[.agg #[v1, v2], .int .i64 C, .int .i64 tag] w fun e w' => e = .returned (.int .i64 (knownIn ts C tag)) ∧ Below w.heap.size w w' := by
  obtain ⟨⟨o1, cap1, rfl, m1, c1, -⟩, r2⟩ := r
  obtain ⟨g1, of1, rfl, q1, cc⟩ := c1 C _ (getD_some ts C (by omega))
  simp only [List.length_map] at m1 ⊢
  obtain ⟨W0, hW0, k0, d0, z0⟩ := box1 w #[.slice (some ⟨g1, of1, none⟩) ts.length cap1, v2] 27
  have HW0 : Hid (W0 = _) := hW0
  have p0 := at_cell k0 0
  have dd := (d0.cell (p := ⟨g1, of1 + C, none⟩) q1).trans cc
  have HV : Hid (knownIn ts C tag = if ts.getD C 0 < tag then 0 else if tag = ts.getD C 0 then 1 else 2) := rfl
  rw [h1] at p0 HW0 ⊢
  generalize ts.getD C 0 = x at dd HV
  have i0 : (0 : Int) ≤ (C : Int) := by omega
  have i1 : (C : Int) < 4 := by omega
  clear hW0 k0 c1 r2 z0 cc m1
  by_cases hx : x < tag
  · rw [if_pos hx] at HV
    go_enter Try.func40, Try.ntmps40
    go_upto_region 1 with fail
    rw [← HW0.out]
    clear HW0
    go_wp2_with fail
    go_ret
    exact ⟨ret_int HV.out.symm, d0⟩
  · rw [if_neg hx] at HV
    by_cases he : tag = x
    · rw [if_pos he] at HV
      have HT : Hid (tag = x) := he
      subst he
      go_enter Try.func40, Try.ntmps40
      go_upto_region 1 with fail
      rw [← HW0.out]
      clear HW0
      go_wp2_with fail
      go_ret
      exact ⟨ret_int HV.out.symm, d0⟩
    · rw [if_neg he] at HV
      have hb : (tag == x) = false := by rw [beq_eq_false_iff_ne]; exact he
      go_enter Try.func40, Try.ntmps40
      go_upto_region 1 with fail
      rw [← HW0.out]
      clear HW0
      go_wp2_with fail
      go_ret
      exact ⟨ret_int HV.out.symm, d0⟩
end Go.Proofs.Ytpmoefagpglddaa

