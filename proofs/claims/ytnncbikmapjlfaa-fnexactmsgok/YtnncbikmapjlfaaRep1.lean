/-
  Chapter 10: the specification's ReplyOk, ShowReply and ReadReply, at every argument.
-/
import Derived.Test.YtnncbikmapjlfaaRepM
import Derived.Test.YtnncbikmapjlfaaBytes
import Derived.Test.YtnncbikmapjlfaaRows2
import Derived.Test.YtnncbikmapjlfaaChap1
import Derived.Test.YtnncbikmapjlfaaSetAt
import Derived.Test.YtnncbikmapjlfaaMapM
namespace Go.Proofs.Ytnncbikmapjlfaa
open Go.RowKit
set_option linter.unusedVariables false
set_option maxRecDepth 100000

theorem specReplyOk_any (c v : Int) (w : World) :
    Calls Try.prog 50 #[.agg #[.int .i64 c, .int .i64 v]] w fun e w' => e = .returned (.bool (repOk c v)) ∧ Below w.heap.size w w' := by
  obtain ⟨W0, hW0, k0, d0, z0⟩ := box1 w #[.int .i64 c, .int .i64 v] 36
  have HW0 : Hid (W0 = _) := hW0
  have p0 := at_cell k0 0
  have p1 := at_cell k0 1
  have HB : Hid (repOk c v = (inB c 0 9 && inB v 0 1000 && (decide (c = 0) || decide (v = 0)))) := rfl
  clear hW0 k0
  go_enter Try.func50, Try.ntmps50
  go_wp2_with fail
  rw [← HW0.out]
  clear HW0
  refine (l1In_any c 0 9 _).mono ?_
  rintro e w' ⟨rfl, rfl⟩
  have HI : Hid (inB c 0 9 = (decide (0 ≤ c) && decide (c ≤ 9))) := rfl
  rw [← HI.out]
  generalize inB c 0 9 = b0 at *
  cases b0
  · go_wp2_with fail
    go_ret
    exact ⟨ret_bool (by rw [HB.out]; rfl), d0⟩
  go_wp2_with fail
  refine (l1In_any v 0 1000 _).mono ?_
  rintro e w' ⟨rfl, rfl⟩
  have HI2 : Hid (inB v 0 1000 = (decide (0 ≤ v) && decide (v ≤ 1000))) := rfl
  rw [← HI2.out]
  generalize inB v 0 1000 = b1 at *
  cases b1
  · go_wp2_with fail
    go_ret
    exact ⟨ret_bool (by rw [HB.out]; rfl), d0⟩
  clear HI HI2
  by_cases h0 : c = 0
  · subst h0
    go_wp2_with fail
    go_ret
    exact ⟨ret_bool (by rw [HB.out]; rfl), d0⟩
  · go_wp2_with fail
    go_ret
    exact ⟨ret_bool (by rw [HB.out, Bool.eq_iff_iff]; simp [h0]), d0⟩

/-- A reply's two cells, written. -/
theorem set_rep {w W : World} {b : Nat} {x0 y0 : Value} {t : TypeId} (h : W.heap[b]? = some (.cells #[x0, y0] t (0, 0))) (d : Below w.heap.size w W) (hb : w.heap.size ≤ b) (x y : Value) :
    ((W.setCell ⟨b, 0, none⟩ x).setCell ⟨b, 1, none⟩ y).heap[b]? = some (.cells #[x, y] t (0, 0)) ∧ Below w.heap.size w ((W.setCell ⟨b, 0, none⟩ x).setCell ⟨b, 1, none⟩ y) :=
  ⟨(set_two h x y).1, bw_set (bw_set d (p := ⟨b, 0, none⟩) hb x) (p := ⟨b, 1, none⟩) hb y⟩

end Go.Proofs.Ytnncbikmapjlfaa
