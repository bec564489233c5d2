/-
  Chapter 3: what FeedOk comes to; the contracts of the laws' helpers on a Feed and of the specification's FeedOk.
-/
import Derived.Test.YtbjkbhchcoabcaaFrame2
import Derived.Handy
namespace Go.Proofs.Ytbjkbhchcoabcaa
open Go.RowKit
set_option linter.unusedVariables false
set_option maxRecDepth 100000

def feedOk (r : ByteArray) (k : Int) : Bool := (decide ((r.size : Int) ≤ 63) && (decide (0 ≤ k) && decide (k ≤ 1000000))) && (Fr.frEnd r 0 == -2)

theorem specFeedOk_any (r : ByteArray) (k : Int) (w : World) (hr : r.size ≤ 1099511627776) :
    Calls Try.prog 38 #[.agg #[.string r, .int .i64 k]] w fun e w' => e = .returned (.bool (feedOk r k)) ∧ Below w.heap.size w w' := by
  by_cases h1 : (r.size : Int) ≤ 63
  · cases h2 : (decide (0 ≤ k) && decide (k ≤ 1000000))
    · have hv : feedOk r k = false := by simp [feedOk, h2]
      rw [hv]
      go_enter Try.func38, Try.ntmps38
      go_wp2_with (go_at_call 63; refine (l1In_any _ _ _ _).mono ?_; rintro e w' ⟨rfl, rfl⟩)
      go_ret
      exact ⟨rfl, by go_grown⟩
    · have hv : feedOk r k = (Fr.frEnd r 0 == -2) := by simp [feedOk, h1, h2]
      rw [hv]
      go_enter Try.func38, Try.ntmps38
      go_wp2_with fail
      refine (l1In_any _ _ _ _).mono ?_
      rintro e w1 ⟨rfl, rfl⟩
      go_wp2_with fail
      refine (specFrame_any _ _ _ hr).mono ?_
      rintro e w2 ⟨rfl, b2⟩
      go_wp2_with fail
      go_ret
      exact ⟨rfl, ((Below.refl _ _).alloc (Nat.le_refl _) _).trans (b2.mono (by simp))⟩
  · have hv : feedOk r k = false := by simp [feedOk, h1]
    rw [hv]
    have h1' : (63 : Int) < (r.size : Int) := by omega
    go_enter Try.func38, Try.ntmps38
    go_wp2_with fail
    go_ret
    exact ⟨rfl, by go_grown⟩

end Go.Proofs.Ytbjkbhchcoabcaa
