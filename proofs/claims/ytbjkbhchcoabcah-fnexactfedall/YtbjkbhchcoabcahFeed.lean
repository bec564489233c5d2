/-
  Chapter 3: what FeedOk comes to; the contracts of the laws' helpers on a Feed and of the specification's FeedOk.
-/
import Derived.Test.YtbjkbhchcoabcahFrame2
import Derived.Handy
namespace Go.Proofs.Ytbjkbhchcoabcah
open Go.RowKit
set_option linter.unusedVariables false
set_option maxRecDepth 100000

def feedOk (r : ByteArray) (k : Int) : Bool := (decide ((r.size : Int) ≤ 63) && (decide (0 ≤ k) && decide (k ≤ 1000000))) && (Fr.frEnd r 0 == -2)

theorem szFeed_any (r : ByteArray) (k left : Int) (w : World) (hr : r.size ≤ maxLen) (hl : 0 ≤ left) (hl2 : left ≤ 1048576) :
    Calls Try.prog 14 #[.agg #[.string r, .int .i64 k], .int .i64 left] w fun e w' => e = .returned (.int .i64 (if left < r.size then -1 else left - r.size)) ∧ Below w.heap.size w w' := by
  unfold maxLen at hr
  by_cases h : left < (r.size : Int)
  · rw [if_pos h]
    have h1 : left - (r.size : Int) < 0 := by omega
    go_enter Try.func14, Try.ntmps14
    go_wp2
    go_ret
    exact ⟨rfl, by go_grown⟩
  · rw [if_neg h]
    have h1 : 0 ≤ left - (r.size : Int) := by omega
    go_enter Try.func14, Try.ntmps14
    go_wp2
    go_ret
    exact ⟨rfl, by go_grown⟩

theorem toFeed_any (r : ByteArray) (k : Int) (w : World) :
    Calls Try.prog 16 #[.agg #[.string r, .int .i64 k]] w fun e w' => e = .returned (.agg #[.string r, .int .i64 k]) ∧ Below w.heap.size w w' := by
  go_enter Try.func16, Try.ntmps16
  go_wp2
  exact bodyPost_ret (v := .agg #[.string r, .int .i64 k]) (by simp [results, Try.results16, go_sem]) rfl ⟨rfl, by go_grown⟩

theorem specFeedOk_any (r : ByteArray) (k : Int) (w : World) (hr : r.size ≤ 1099511627776) :
    Calls Try.prog 15 #[.agg #[.string r, .int .i64 k]] w fun e w' => e = .returned (.bool (feedOk r k)) ∧ Below w.heap.size w w' := by
  by_cases h1 : (r.size : Int) ≤ 63
  · cases h2 : (decide (0 ≤ k) && decide (k ≤ 1000000))
    · have hv : feedOk r k = false := by simp [feedOk, h2]
      rw [hv]
      go_enter Try.func15, Try.ntmps15
      go_wp2_with (go_at_call 37; refine (l1In_any _ _ _ _).mono ?_; rintro e w' ⟨rfl, rfl⟩)
      go_ret
      exact ⟨rfl, by go_grown⟩
    · have hv : feedOk r k = (Fr.frEnd r 0 == -2) := by simp [feedOk, h1, h2]
      rw [hv]
      go_enter Try.func15, Try.ntmps15
      go_wp2_with fail
      refine (l1In_any _ _ _ _).mono ?_
      rintro e w1 ⟨rfl, rfl⟩
      go_wp2_with fail
      refine (specFrame_any _ _ _ hr).mono ?_
      rintro e w2 ⟨rfl, b2⟩
      go_wp2_with fail
      go_ret
      exact ⟨rfl, ((Below.refl _ _).alloc (Nat.le_refl _) _).trans (b2.mono (by simp))⟩
  · have hv : feedOk r k = false := by simp [feedOk, h1]
    rw [hv]
    have h1' : (63 : Int) < (r.size : Int) := by omega
    go_enter Try.func15, Try.ntmps15
    go_wp2_with fail
    go_ret
    exact ⟨rfl, by go_grown⟩

end Go.Proofs.Ytbjkbhchcoabcah
