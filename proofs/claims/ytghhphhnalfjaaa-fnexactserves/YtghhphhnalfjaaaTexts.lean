/-
  The laws' helpers on lists of texts: like or not; the text of a mark; marked; held.
-/
import Derived.Test.YtghhphhnalfjaaaRows1
import Derived.Test.YtghhphhnalfjaaaShow
namespace Go.Proofs.Ytghhphhnalfjaaa
open Go.RowKit
set_option linter.unusedVariables false
set_option maxRecDepth 100000

theorem text_eq (x y : ByteArray) : (x.toList == y.toList) = decide (x = y) := by
  rw [Bool.eq_iff_iff, beq_iff_eq, decide_eq_true_iff, ByteArray.toList_eq, ByteArray.toList_eq]
  constructor
  · intro h; apply ByteArray.ext; exact Array.toList_inj.1 h
  · intro h; rw [h]
theorem text_ne {x y : ByteArray} (h : (!x.toList == y.toList) = true) : x ≠ y := by rw [text_eq] at h; simpa using h
theorem text_same {x y : ByteArray} (h : (!x.toList == y.toList) = false) : x = y := by rw [text_eq] at h; simpa using h
theorem take_more {α : Type} (xs ys : List α) (k : Nat) (h1 : k < xs.length) (h2 : k < ys.length) (h : xs.take k = ys.take k) (e : xs[k] = ys[k]) : xs.take (k + 1) = ys.take (k + 1) := by
  rw [List.take_succ_eq_append_getElem h1, List.take_succ_eq_append_getElem h2, h, e]
theorem ne_at {α : Type} (xs ys : List α) (k : Nat) (h1 : k < xs.length) (h2 : k < ys.length) (e : xs[k] ≠ ys[k]) : ¬ xs = ys := by
  intro h; subst h; exact e rfl
theorem all_taken {α : Type} (xs ys : List α) (k : Nat) (h1 : ¬ k < xs.length) (h2 : xs.length = ys.length) (h : xs.take k = ys.take k) : xs = ys := by
  rw [List.take_of_length_le (by omega), List.take_of_length_le (by omega)] at h; exact h

def digs : Nat → Nat → ByteArray → ByteArray
  | 0, _, out => out
  | f + 1, k, out => if k = 0 then out else digs f (k / 10) (⟨#[48 + UInt8.ofNat (k % 10)]⟩ ++ out)
def markS (k : Int) : ByteArray := if k ≤ 0 then ⟨#[109, 48]⟩ else ⟨#[109]⟩ ++ digs (k.toNat + 1) k.toNat ⟨#[]⟩
theorem digs_step (f k : Nat) (out : ByteArray) (h : 0 < k) : digs (f + 1) k out = digs f (k / 10) (⟨#[48 + UInt8.ofNat (k % 10)]⟩ ++ out) := by
  simp only [digs]; rw [if_neg (by omega)]
theorem digs_end (f : Nat) (out : ByteArray) : digs (f + 1) 0 out = out := by simp [digs]

set_option maxHeartbeats 800000 in
theorem markText_any (k : Int) (w : World) (hk : -9223372036854775808 ≤ k ∧ k ≤ 1099511627776) :
    Calls Try.prog 59 #[.int .i64 k] w fun e w' => e = .returned (.string (markS k)) ∧ Below w.heap.size w w' := by
  by_cases h0 : k ≤ 0
  · have hv : markS k = ⟨#[109, 48]⟩ := by unfold markS; rw [if_pos h0]
    rw [hv]
    go_enter Try.func59, Try.ntmps59
    go_wp2
    go_ret
    exact ⟨rfl, Below.refl _ _⟩
  · have hv : markS k = ⟨#[109]⟩ ++ digs (k.toNat + 1) k.toNat ⟨#[]⟩ := by unfold markS; rw [if_neg h0]
    rw [hv]
    obtain ⟨K, rfl⟩ := Int.eq_ofNat_of_zero_le (show 0 ≤ k by omega)
    clear hv
    have hcv : ∀ (w : World) (a : Int), (convert 22 9 (.slice (some ⟨w.heap.size, 0, none⟩) 1 1)).run Try.prog (w.alloc (.cells #[.int .u8 a] 5)) = .ok (.string ⟨#[UInt8.ofNat a.toNat]⟩) (w.alloc (.cells #[.int .u8 a] 5)) := fun w a => conv_new w [a] [] 1
    rw [Int.toNat_natCast]
    go_enter Try.func59, Try.ntmps59
    go_wp2
    go_loopw [0, 3] (fun a o wr => ∃ (m f : Nat) (out : ByteArray), a = .int .i64 m ∧ o = .string out ∧ m ≤ f ∧ digs (K + 1) K ⟨#[]⟩ = digs (f + 1) m out ∧ out.size + m ≤ K ∧ Below w.heap.size w wr) (fun a _ _ => (intOf a).toNat)
    case atStart => exact ⟨K, K, ⟨#[]⟩, rfl, rfl, Nat.le_refl _, rfl, by show 0 + K ≤ K; omega, Below.refl _ _⟩
    case round =>
      obtain ⟨m, f, out, rfl, rfl, hf, hd, ho, hb⟩ := hrel
      have HD : Hid (digs (K + 1) K ⟨#[]⟩ = digs (f + 1) m out) := hd
      clear hd
      by_cases hpos : (0 : Int) < (m : Int)
      · obtain ⟨g, rfl⟩ : ∃ g, f = g + 1 := ⟨f - 1, by omega⟩
        have HN := digs_step (g + 1) m out (by omega)
        rw [← HD.out] at HN
        have HN' : Hid (digs (K + 1) K ⟨#[]⟩ = digs (g + 1) (m / 10) (⟨#[48 + UInt8.ofNat (m % 10)]⟩ ++ out)) := HN
        have hb2 := hb.alloc hb.size (.cells #[.int .u8 (48 + (m : Int) % 10)] 5)
        clear HN
        go_wp2
        go_roundw
        case rel => exact ⟨m / 10, g, _, by go_num, rfl, by omega, HN'.out, by rw [ByteArray.size_append]; show 1 + out.size + m / 10 ≤ K; omega, hb2⟩
        case measure => simp [intOf]; omega
      · obtain rfl : m = 0 := by omega
        have hsz : out.size ≤ 1099511627776 := by omega
        go_wp2
        go_ret
        rw [HD.out, digs_end]
        exact ⟨rfl, hb⟩

def marksL (k : Int) (n : Nat) : List ByteArray := (List.range n).map fun i : Nat => markS (k + (i : Int))
theorem marksL_length (k : Int) (n : Nat) : (marksL k n).length = n := by simp [marksL]
theorem marksL_get (k : Int) (n j : Nat) (h : j < n) : ((marksL k n).map Value.string)[j]? = some (.string (markS (k + j))) := by simp [marksL, h]
theorem marked_set (k : Int) (xs : List Value) (j : Nat) (h : j < xs.length) :
    ((marksL k j).map Value.string ++ xs.drop j).set j (.string (markS (k + j))) = (marksL k (j + 1)).map Value.string ++ xs.drop (j + 1) := by
  have hl : ((marksL k j).map Value.string).length = j := by simp [marksL]
  have hs : (marksL k (j + 1)).map Value.string = (marksL k j).map Value.string ++ [.string (markS (k + j))] := by simp [marksL, List.range_succ]
  rw [List.set_append_right _ _ (by omega), hl, Nat.sub_self, List.drop_eq_getElem_cons h, List.set_cons_zero, hs]
  exact (List.append_assoc _ [Value.string (markS (k + j))] _).symm
theorem marked_all (k : Int) (xs : List Value) (n : Nat) (h : xs.length = n) : (marksL k n).map Value.string ++ xs.drop n = (marksL k n).map Value.string := by
  rw [List.drop_of_length_le (by omega)]; simp

end Go.Proofs.Ytghhphhnalfjaaa
