/-
  Chapter 6: the program's NewBook; FindBook by its closure, at every argument.
-/
import Derived.Test.YtehjahegokeofabImBook1
import Derived.Test.YtehjahegokeofabMap3
namespace Go.Proofs.Ytehjahegokeofab
open Go.RowKit
set_option linter.unusedVariables false

theorem newBook_end {w w1 : World} {b : Nat} {x0 x1 x2 x3 x4 : Value} {t : TypeId} (k0 : w1.heap[b]? = some (.cells #[x0, x1, x2, x3, x4] t (0, 0))) (hb : w.heap.size ≤ b) (d0 : Below w.heap.size w w1) (y0 y1 y2 y3 y4 : Value) :
    ((((((w1.setCell ⟨b, 0, none⟩ y0).setCell ⟨b, 1, none⟩ y1).setCell ⟨b, 2, none⟩ y2).setCell ⟨b, 3, none⟩ y3).setCell ⟨b, 4, none⟩ y4).alloc (.cells #[] 80)).heap[b]? = some (.cells #[y0, y1, y2, y3, y4] t (0, 0)) ∧
    ((((((w1.setCell ⟨b, 0, none⟩ y0).setCell ⟨b, 1, none⟩ y1).setCell ⟨b, 2, none⟩ y2).setCell ⟨b, 3, none⟩ y3).setCell ⟨b, 4, none⟩ y4).alloc (.cells #[] 80)).ownsRow w.heap.size 80 3 (.slice (some ⟨w1.heap.size, 0, none⟩) 0 0) 0 [] ∧
    Below w.heap.size w ((((((w1.setCell ⟨b, 0, none⟩ y0).setCell ⟨b, 1, none⟩ y1).setCell ⟨b, 2, none⟩ y2).setCell ⟨b, 3, none⟩ y3).setCell ⟨b, 4, none⟩ y4).alloc (.cells #[] 80)) := by
  have h5 := set_five k0 y0 y1 y2 y3 y4
  have d5 := bw_five d0 hb y0 y1 y2 y3 y4
  have hz : (((((w1.setCell ⟨b, 0, none⟩ y0).setCell ⟨b, 1, none⟩ y1).setCell ⟨b, 2, none⟩ y2).setCell ⟨b, 3, none⟩ y3).setCell ⟨b, 4, none⟩ y4).heap.size = w1.heap.size := by simp [World.size_setCell]
  generalize ((((w1.setCell ⟨b, 0, none⟩ y0).setCell ⟨b, 1, none⟩ y1).setCell ⟨b, 2, none⟩ y2).setCell ⟨b, 3, none⟩ y3).setCell ⟨b, 4, none⟩ y4 = W at *
  have ho := own_none W
  rw [hz] at ho
  exact ⟨(Below.heap_alloc _ _ _ (heap_lt h5)).trans h5, owns_mono ho d0.size, bw_alloc d5⟩

set_option maxHeartbeats 1600000 in
theorem implNewBook_any (nm : ByteArray) (sz : Int) (w : World) (hn : nm.size ≤ maxLen) (hn2 : nm.size ≤ 1099511627776) :
    Calls Try.prog 34 #[.string nm, .int .i64 sz] w fun e w' => ∃ m : Value, e = .returned (.tuple #[.agg #[.string (newName nm sz), .int .i64 (newSize nm sz), m, .bool false, .int .i64 0], .bool (newOk nm sz)]) ∧ w'.ownsRow w.heap.size 80 3 m 0 [] ∧ Below w.heap.size w w' := by
  obtain ⟨W0, hW0, k0, d0, z0⟩ := box1 w #[.string ⟨#[]⟩, .int .i64 0, .slice none 0 0, .bool false, .int .i64 0] 50
  have HW0 : Hid (W0 = _) := hW0
  have q0 := at_cell k0 0
  have q1 := at_cell k0 1
  have q2 := at_cell k0 2
  have q3 := at_cell k0 3
  have q4 := at_cell k0 4
  have f0 := at_open k0 0
  have f1 := at_open k0 1
  have f2 := at_open k0 2
  have f3 := at_open k0 3
  have f4 := at_open k0 4
  clear hW0
  go_enter Try.func34, Try.ntmps34
  go_wp2_with fail
  rw [← HW0.out]
  clear HW0
  refine (implName_any nm _ hn).mono ?_
  rintro e w' ⟨rfl, rfl⟩
  cases h1 : Nums.nameB nm.data.toList
  · have HA : Hid (newName nm sz = ByteArray.empty ∧ newSize nm sz = 0 ∧ newOk nm sz = false) := by simp [Hid, newName, newSize, newOk, h1]
    have HS : Hid _ := And.intro (set_five k0 (.string ⟨#[]⟩) (.int .i64 0) (.slice none 0 0) (.bool false) (.int .i64 0)) (bw_five d0 (Nat.le_refl _) (.string ⟨#[]⟩) (.int .i64 0) (.slice none 0 0) (.bool false) (.int .i64 0))
    clear k0 d0 h1
    go_wp2_with fail
    exact bodyPost_ret (v := .tuple #[.agg #[.string ⟨#[]⟩, .int .i64 0, .slice none 0 0, .bool false, .int .i64 0], .bool false]) (by simp [results, Try.results34, go_sem, at_cell HS.out.1]) rfl ⟨_, by rw [HA.out.1, HA.out.2.1, HA.out.2.2]; rfl, World.ownsRow_nil _ _ _ _, HS.out.2⟩
  have H1 : Hid _ := h1
  clear h1
  go_wp2_with fail
  refine (sizeOk_any sz _).mono ?_
  rintro e w' ⟨rfl, rfl⟩
  cases h2 : (decide (1 ≤ sz) && decide (sz ≤ 16))
  · have HA : Hid (newName nm sz = ByteArray.empty ∧ newSize nm sz = 0 ∧ newOk nm sz = false) := by simp [Hid, newName, newSize, newOk, h2]
    have HS : Hid _ := And.intro (set_five k0 (.string ⟨#[]⟩) (.int .i64 0) (.slice none 0 0) (.bool false) (.int .i64 0)) (bw_five d0 (Nat.le_refl _) (.string ⟨#[]⟩) (.int .i64 0) (.slice none 0 0) (.bool false) (.int .i64 0))
    clear k0 d0 h2
    go_wp2_with fail
    exact bodyPost_ret (v := .tuple #[.agg #[.string ⟨#[]⟩, .int .i64 0, .slice none 0 0, .bool false, .int .i64 0], .bool false]) (by simp [results, Try.results34, go_sem, at_cell HS.out.1]) rfl ⟨_, by rw [HA.out.1, HA.out.2.1, HA.out.2.2]; rfl, World.ownsRow_nil _ _ _ _, HS.out.2⟩
  have HA : Hid (newName nm sz = nm ∧ newSize nm sz = sz ∧ newOk nm sz = true) := by simp [Hid, newName, newSize, newOk, h2, H1.out]
  clear h2 q0 q1 q2 q3 q4 f0 f1 f2 f3 f4
  go_wp2_with fail
  refine (clone_any nm _ hn2).mono ?_
  rintro e w1 ⟨rfl, b1⟩
  replace k0 := (b1.block _ (by omega)).trans k0
  replace d0 := bw_call d0 b1
  have q0 := at_cell k0 0
  have q1 := at_cell k0 1
  have q2 := at_cell k0 2
  have q3 := at_cell k0 3
  have q4 := at_cell k0 4
  have f0 := at_open k0 0
  have f1 := at_open k0 1
  have f2 := at_open k0 2
  have f3 := at_open k0 3
  have f4 := at_open k0 4
  have hlt : w.heap.size < w1.heap.size := heap_lt k0
  have HS : Hid _ := newBook_end k0 (Nat.le_refl _) d0 (.string nm) (.int .i64 sz) (.slice (some ⟨w1.heap.size, 0, none⟩) 0 0) (.bool false) (.int .i64 0)
  clear k0 d0 b1
  go_wp2_with fail
  exact bodyPost_ret (v := .tuple #[.agg #[.string nm, .int .i64 sz, .slice (some ⟨w1.heap.size, 0, none⟩) 0 0, .bool false, .int .i64 0], .bool true]) (by simp [results, Try.results34, go_sem, at_cell HS.out.1]) rfl ⟨_, by rw [HA.out.1, HA.out.2.1, HA.out.2.2], HS.out.2.1, HS.out.2.2⟩

end Go.Proofs.Ytehjahegokeofab
