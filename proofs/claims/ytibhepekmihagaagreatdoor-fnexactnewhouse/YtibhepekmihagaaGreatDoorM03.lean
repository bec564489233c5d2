/-
  Contracts and plain laws, one chapter behind the other.
-/
import Derived.Test.YtibhepekmihagaaGreatDoorChecked
import Derived.WalkKit
import Derived.WalkSpells
import Derived.Laws.Bits128
import Derived.IntWalk
import Derived.Handy
import Derived.Laws.IdiomStrings
import Derived.Test.YtibhepekmihagaaGreatDoorM01
import Derived.Test.YtibhepekmihagaaGreatDoorM02
namespace Go.Proofs.YtibhepekmihagaaGreatDoor
open Go.RowKit

set_option linter.unusedVariables false

set_option maxRecDepth 100000


theorem ret_bool {a b : Bool} (h : a = b) : Ending.returned (.bool a) = .returned (.bool b) := by rw [h]

theorem ret_int {k : IntKind} {a b : Int} (h : a = b) : Ending.returned (.int k a) = .returned (.int k b) := by rw [h]

theorem l1In_any (x lo hi : Int) (w : World) :
    Calls Tryz.prog 38 #[.int .i64 x, .int .i64 lo, .int .i64 hi] w fun e w' => e = .returned (.bool (decide (lo ≤ x) && decide (x ≤ hi))) ∧ w' = w := by
  by_cases h : lo ≤ x
  · by_cases h2 : x ≤ hi
    all_goals
      go_enter Tryz.func38, Tryz.ntmps38
      go_wp2
      go_ret
      exact ⟨by simp [h, h2], rfl⟩
  · go_enter Tryz.func38, Tryz.ntmps38
    go_wp2
    go_ret
    exact ⟨ret_bool (by simp; omega), rfl⟩

set_option maxHeartbeats 400000 in
theorem specName_any (s : ByteArray) (w : World) (hs : s.size ≤ maxLen) :
    Calls Tryz.prog 162 #[.string s] w fun e w' => e = .returned (.bool (Nums.nameB s.data.toList)) ∧ w' = w := by
  unfold maxLen at hs
  go_enter Tryz.func162, Tryz.ntmps162
  go_wp2
  go_loop [3] (fun i => ∃ k : Nat, k ≤ s.size ∧ i = .int .i64 k ∧ Nums.lowB (s.data.toList.take k) = true) (fun i => s.size - (intOf i).toNat)
  case atStart => exact ⟨0, Nat.zero_le _, rfl, rfl⟩
  case round =>
    obtain ⟨k, hk, rfl, hl⟩ := hrel
    have HL : Hid (Nums.lowB (s.data.toList.take k) = true) := hl
    clear hl
    by_cases hlt : k < s.size
    · have hb := Nums.byte_lt s[k]
      by_cases h1 : 97 ≤ (s[k].toNat : Int)
      · by_cases h2 : (s[k].toNat : Int) ≤ 122
        · go_wp2
          go_round
          case rel => exact ⟨k + 1, by omega, by go_num, Nums.lowB_good s k hlt HL.out h1 h2⟩
          case measure => simp [intOf]; omega
        · have hx := Nums.lowB_bad s k hlt (by omega)
          have HX : Hid (Nums.nameB s.data.toList = false) := by simp [Nums.nameB, hx, Hid]
          clear hx
          go_wp2
          go_ret
          exact ⟨ret_bool HX.out.symm, rfl⟩
      · have hx := Nums.lowB_bad s k hlt (by omega)
        have HX : Hid (Nums.nameB s.data.toList = false) := by simp [Nums.nameB, hx, Hid]
        clear hx
        go_wp2
        go_ret
        exact ⟨ret_bool HX.out.symm, rfl⟩
    · go_wp2_with (go_at_call 38; refine (l1In_any _ _ _ _).mono ?_; rintro e w' ⟨rfl, rfl⟩)
      go_ret
      have hl := HL.out
      rw [Nums.take_all s k hlt] at hl
      exact ⟨ret_bool (by simp [Nums.nameB, hl]), rfl⟩

set_option maxHeartbeats 400000 in
theorem implName_any (s : ByteArray) (w : World) (hs : s.size ≤ maxLen) :
    Calls Tryz.prog 213 #[.string s] w fun e w' => e = .returned (.bool (Nums.nameB s.data.toList)) ∧ w' = w := by
  unfold maxLen at hs
  by_cases g1 : (1 : Int) ≤ (s.size : Int)
  · by_cases g2 : (s.size : Int) ≤ 4
    · go_enter Tryz.func213, Tryz.ntmps213
      go_wp2
      go_loop [3] (fun i => ∃ k : Nat, k ≤ s.size ∧ i = .int .i64 k ∧ Nums.lowB (s.data.toList.take k) = true) (fun i => s.size - (intOf i).toNat)
      case atStart => exact ⟨0, Nat.zero_le _, rfl, rfl⟩
      case round =>
        obtain ⟨k, hk, rfl, hl⟩ := hrel
        have HL : Hid (Nums.lowB (s.data.toList.take k) = true) := hl
        clear hl
        by_cases hlt : k < s.size
        · have hb := Nums.byte_lt s[k]
          by_cases h1 : 97 ≤ (s[k].toNat : Int)
          · by_cases h2 : (s[k].toNat : Int) ≤ 122
            · go_wp2
              go_round
              case rel => exact ⟨k + 1, by omega, by go_num, Nums.lowB_good s k hlt HL.out h1 h2⟩
              case measure => simp [intOf]; omega
            · have hx := Nums.lowB_bad s k hlt (by omega)
              have HX : Hid (Nums.nameB s.data.toList = false) := by simp [Nums.nameB, hx, Hid]
              clear hx
              go_wp2
              go_ret
              exact ⟨ret_bool HX.out.symm, rfl⟩
          · have hx := Nums.lowB_bad s k hlt (by omega)
            have HX : Hid (Nums.nameB s.data.toList = false) := by simp [Nums.nameB, hx, Hid]
            clear hx
            go_wp2
            go_ret
            exact ⟨ret_bool HX.out.symm, rfl⟩
        · go_wp2
          go_ret
          have hl := HL.out
          rw [Nums.take_all s k hlt] at hl
          exact ⟨ret_bool (by simp [Nums.nameB, hl]; omega), rfl⟩
    · have HX : Hid (Nums.nameB s.data.toList = false) := by simp [Nums.nameB, Hid]; omega
      go_enter Tryz.func213, Tryz.ntmps213
      go_wp2
      go_ret
      exact ⟨ret_bool HX.out.symm, rfl⟩
  · have HX : Hid (Nums.nameB s.data.toList = false) := by simp [Nums.nameB, Hid]; omega
    go_enter Tryz.func213, Tryz.ntmps213
    go_wp2
    go_ret
    exact ⟨ret_bool HX.out.symm, rfl⟩
end Go.Proofs.YtibhepekmihagaaGreatDoor

namespace Go.Proofs.YtibhepekmihagaaGreatDoor
open Go.RowKit

set_option linter.unusedVariables false

set_option maxRecDepth 100000


theorem foldl_push : ∀ (l : List Int) (r : ByteArray), l.foldl (fun r n => r.push (UInt8.ofNat n.toNat)) r = ⟨r.data ++ (l.map fun n => UInt8.ofNat n.toNat).toArray⟩
  | [], r => by simp
  | b :: l, r => by
    simp only [List.map_cons, List.foldl_cons]
    rw [foldl_push l]
    simp [ByteArray.push]

theorem conv_cells (w : World) (a : Addr) (cap : Nat) (ns : List Int) (hc : ∀ j v, ns[j]? = some v → w.cell? (a.add j) = some (.int .u8 v)) :
    (convert 136 9 (.slice (some a) ns.length cap)).run Tryz.prog w = .ok (.string ⟨(ns.map fun n => UInt8.ofNat n.toNat).toArray⟩) w := by
  rw [run_convert_bytes_string w _ _ 5 (some a) ns.length cap Tryz.underlying136 Tryz.underlying5 Tryz.underlying9]
  have hl := run_loadCells_list (P := Tryz.prog) w a (ns.map (Value.int .u8)) (fun j v hj => by
    rw [List.getElem?_map, Option.map_eq_some_iff] at hj
    obtain ⟨x, hx, rfl⟩ := hj
    exact hc j x hx)
  rw [List.length_map] at hl
  rw [run_bytesToString w a ns.length cap _ hl, foldl_push]
  have he0 : ByteArray.empty.data = #[] := rfl
  rw [he0]
  simp

theorem conv_new (w : World) (ns : List Int) (more : List Value) (cap : Nat) :
    (convert 136 9 (.slice (some ⟨w.heap.size, 0, none⟩) ns.length cap)).run Tryz.prog (w.alloc (.cells (ns.map (Value.int .u8) ++ more).toArray 5)) = .ok (.string ⟨(ns.map fun n => UInt8.ofNat n.toNat).toArray⟩) (w.alloc (.cells (ns.map (Value.int .u8) ++ more).toArray 5)) := by
  apply conv_cells
  intro j v hj
  have hj' := (List.getElem?_eq_some_iff.1 hj).1
  have := World.cell?_alloc_mark w (ns.map (Value.int .u8) ++ more).toArray 5 (0, 0) j
  have ha : (⟨w.heap.size, 0, none⟩ : Addr).add j = ⟨w.heap.size, j, none⟩ := by unfold Addr.add; split <;> simp_all
  rw [ha, this]
  have e : ns[j] = v := by rw [List.getElem?_eq_getElem hj'] at hj; exact Option.some.inj hj
  simp [List.getElem?_append, hj', e]
end Go.Proofs.YtibhepekmihagaaGreatDoor

namespace Go.Proofs.YtibhepekmihagaaGreatDoor
open Go.RowKit

set_option linter.unusedVariables false

set_option maxRecDepth 100000


theorem text_eq (x y : ByteArray) : (x.toList == y.toList) = decide (x = y) := by
  rw [Bool.eq_iff_iff, beq_iff_eq, decide_eq_true_iff, ByteArray.toList_eq, ByteArray.toList_eq]
  constructor
  · intro h; apply ByteArray.ext; exact Array.toList_inj.1 h
  · intro h; rw [h]

theorem take_more {α : Type} (xs ys : List α) (k : Nat) (h1 : k < xs.length) (h2 : k < ys.length) (h : xs.take k = ys.take k) (e : xs[k] = ys[k]) : xs.take (k + 1) = ys.take (k + 1) := by
  rw [List.take_succ_eq_append_getElem h1, List.take_succ_eq_append_getElem h2, h, e]

theorem ne_at {α : Type} (xs ys : List α) (k : Nat) (h1 : k < xs.length) (h2 : k < ys.length) (e : xs[k] ≠ ys[k]) : ¬ xs = ys := by
  intro h; subst h; exact e rfl

theorem all_taken {α : Type} (xs ys : List α) (k : Nat) (h1 : ¬ k < xs.length) (h2 : xs.length = ys.length) (h : xs.take k = ys.take k) : xs = ys := by
  rw [List.take_of_length_le (by omega), List.take_of_length_le (by omega)] at h; exact h

def digs : Nat → Nat → ByteArray → ByteArray
  | 0, _, out => out
  | f + 1, k, out => if k = 0 then out else digs f (k / 10) (⟨#[48 + UInt8.ofNat (k % 10)]⟩ ++ out)

def markS (k : Int) : ByteArray := if k ≤ 0 then ⟨#[109, 48]⟩ else ⟨#[109]⟩ ++ digs (k.toNat + 1) k.toNat ⟨#[]⟩

theorem digs_step (f k : Nat) (out : ByteArray) (h : 0 < k) : digs (f + 1) k out = digs f (k / 10) (⟨#[48 + UInt8.ofNat (k % 10)]⟩ ++ out) := by
  simp only [digs]; rw [if_neg (by omega)]

theorem digs_end (f : Nat) (out : ByteArray) : digs (f + 1) 0 out = out := by simp [digs]

set_option maxHeartbeats 800000 in
theorem markText_any (k : Int) (w : World) (hk : -9223372036854775808 ≤ k ∧ k ≤ 1099511627776) :
    Calls Tryz.prog 48 #[.int .i64 k] w fun e w' => e = .returned (.string (markS k)) ∧ Below w.heap.size w w' := by
  by_cases h0 : k ≤ 0
  · have hv : markS k = ⟨#[109, 48]⟩ := by unfold markS; rw [if_pos h0]
    rw [hv]
    go_enter Tryz.func48, Tryz.ntmps48
    go_wp2
    go_ret
    exact ⟨rfl, Below.refl _ _⟩
  · have hv : markS k = ⟨#[109]⟩ ++ digs (k.toNat + 1) k.toNat ⟨#[]⟩ := by unfold markS; rw [if_neg h0]
    rw [hv]
    obtain ⟨K, rfl⟩ := Int.eq_ofNat_of_zero_le (show 0 ≤ k by omega)
    clear hv
    have hcv : ∀ (w : World) (a : Int), (convert 136 9 (.slice (some ⟨w.heap.size, 0, none⟩) 1 1)).run Tryz.prog (w.alloc (.cells #[.int .u8 a] 5)) = .ok (.string ⟨#[UInt8.ofNat a.toNat]⟩) (w.alloc (.cells #[.int .u8 a] 5)) := fun w a => conv_new w [a] [] 1
    rw [Int.toNat_natCast]
    go_enter Tryz.func48, Tryz.ntmps48
    go_wp2
    go_loopw [0, 3] (fun a o wr => ∃ (m f : Nat) (out : ByteArray), a = .int .i64 m ∧ o = .string out ∧ m ≤ f ∧ digs (K + 1) K ⟨#[]⟩ = digs (f + 1) m out ∧ out.size + m ≤ K ∧ Below w.heap.size w wr) (fun a _ _ => (intOf a).toNat)
    case atStart => exact ⟨K, K, ⟨#[]⟩, rfl, rfl, Nat.le_refl _, rfl, by show 0 + K ≤ K; omega, Below.refl _ _⟩
    case round =>
      obtain ⟨m, f, out, rfl, rfl, hf, hd, ho, hb⟩ := hrel
      have HD : Hid (digs (K + 1) K ⟨#[]⟩ = digs (f + 1) m out) := hd
      clear hd
      by_cases hpos : (0 : Int) < (m : Int)
      · obtain ⟨g, rfl⟩ : ∃ g, f = g + 1 := ⟨f - 1, by omega⟩
        have HN := digs_step (g + 1) m out (by omega)
        rw [← HD.out] at HN
        have HN' : Hid (digs (K + 1) K ⟨#[]⟩ = digs (g + 1) (m / 10) (⟨#[48 + UInt8.ofNat (m % 10)]⟩ ++ out)) := HN
        have hb2 := hb.alloc hb.size (.cells #[.int .u8 (48 + (m : Int) % 10)] 5)
        clear HN
        go_wp2
        go_roundw
        case rel => exact ⟨m / 10, g, _, by go_num, rfl, by omega, HN'.out, by rw [ByteArray.size_append]; show 1 + out.size + m / 10 ≤ K; omega, hb2⟩
        case measure => simp [intOf]; omega
      · obtain rfl : m = 0 := by omega
        have hsz : out.size ≤ 1099511627776 := by omega
        go_wp2
        go_ret
        rw [HD.out, digs_end]
        exact ⟨rfl, hb⟩
end Go.Proofs.YtibhepekmihagaaGreatDoor

