/-
  The program's FeedOk at every argument.
-/
import Derived.Test.YtbjkbhchcoabcahFeed
import Derived.Test.YtbjkbhchcoabcahImFrame2
namespace Go.Proofs.Ytbjkbhchcoabcah
open Go.RowKit
set_option linter.unusedVariables false
set_option maxRecDepth 100000

theorem implFeedOk_any (r : ByteArray) (k : Int) (w : World) (hr : r.size ≤ 1099511627776) :
    Calls Try.prog 17 #[.agg #[.string r, .int .i64 k]] w fun e w' => e = .returned (.bool (feedOk r k)) ∧ Below w.heap.size w w' := by
  by_cases h1 : (63 : Int) < (r.size : Int)
  · have hv : feedOk r k = false := by simp [feedOk]; intro h; omega
    rw [hv]
    go_enter Try.func17, Try.ntmps17
    go_wp2_with fail
    go_ret
    exact ⟨rfl, by go_grown⟩
  · by_cases h2 : k < 0
    · have hv : feedOk r k = false := by simp [feedOk]; intro h; omega
      rw [hv]
      go_enter Try.func17, Try.ntmps17
      go_wp2_with fail
      go_ret
      exact ⟨rfl, by go_grown⟩
    · by_cases h3 : 1000000 < k
      · have hv : feedOk r k = false := by simp [feedOk]; intro h; omega
        rw [hv]
        go_enter Try.func17, Try.ntmps17
        go_wp2_with fail
        go_ret
        exact ⟨rfl, by go_grown⟩
      · have hv : feedOk r k = (Fr.frEnd r 0 == -2) := by
          have e1 : decide ((r.size : Int) ≤ 63) = true := by simp; omega
          have e2 : decide (0 ≤ k) = true := by simp; omega
          have e3 : decide (k ≤ 1000000) = true := by simp; omega
          simp only [feedOk, e1, e2, e3, Bool.and_self, Bool.true_and]
        rw [hv]
        go_enter Try.func17, Try.ntmps17
        go_wp2_with fail
        refine (implFrame_any _ _ _ hr).mono ?_
        rintro e w2 ⟨rfl, b2⟩
        go_wp2_with fail
        go_ret
        exact ⟨rfl, ((Below.refl _ _).alloc (Nat.le_refl _) _).trans (b2.mono (by simp))⟩

end Go.Proofs.Ytbjkbhchcoabcah
