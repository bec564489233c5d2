/-
  Chapter 6: the specification's NewBook, Alike and FindBook, at every argument.
-/
import Derived.Test.YtehjahegokeofajBookM
import Derived.Test.YtehjahegokeofajTexts
namespace Go.Proofs.Ytehjahegokeofaj
open Go.RowKit
set_option linter.unusedVariables false

/-- A cell of a block is written. -/
theorem set_at {W : World} {b : Nat} {cs : Array Value} {t : TypeId} (h : W.heap[b]? = some (.cells cs t (0, 0))) (i : Nat) (x : Value) : (W.setCell ⟨b, i, none⟩ x).heap[b]? = some (.cells (cs.setIfInBounds i x) t (0, 0)) := by
  obtain ⟨hlt, hk⟩ := Array.getElem?_eq_some_iff.1 h
  show (W.heap.modify b _)[b]? = _
  rw [Array.getElem?_eq_getElem (by rw [Array.size_modify]; exact hlt), Array.getElem_modify_self, hk]
  rfl
/-- A book's five cells, written. -/
theorem set_five {W : World} {b : Nat} {x0 x1 x2 x3 x4 : Value} {t : TypeId} (h : W.heap[b]? = some (.cells #[x0, x1, x2, x3, x4] t (0, 0))) (y0 y1 y2 y3 y4 : Value) :
    (((((W.setCell ⟨b, 0, none⟩ y0).setCell ⟨b, 1, none⟩ y1).setCell ⟨b, 2, none⟩ y2).setCell ⟨b, 3, none⟩ y3).setCell ⟨b, 4, none⟩ y4).heap[b]? = some (.cells #[y0, y1, y2, y3, y4] t (0, 0)) :=
  set_at (set_at (set_at (set_at (set_at h 0 y0) 1 y1) 2 y2) 3 y3) 4 y4
theorem bw_five {w W : World} {b : Nat} (h : Below w.heap.size w W) (hb : w.heap.size ≤ b) (y0 y1 y2 y3 y4 : Value) :
    Below w.heap.size w (((((W.setCell ⟨b, 0, none⟩ y0).setCell ⟨b, 1, none⟩ y1).setCell ⟨b, 2, none⟩ y2).setCell ⟨b, 3, none⟩ y3).setCell ⟨b, 4, none⟩ y4) :=
  bw_set (bw_set (bw_set (bw_set (bw_set h hb _) hb _) hb _) hb _) hb _

set_option maxHeartbeats 1600000 in
theorem specNewBook_any (nm : ByteArray) (sz : Int) (w : World) (hn : nm.size ≤ maxLen) :
    Calls Try.prog 28 #[.string nm, .int .i64 sz] w fun e w' => e = .returned (.tuple #[.agg #[.string (newName nm sz), .int .i64 (newSize nm sz), .slice none 0 0, .bool false, .int .i64 0], .bool (newOk nm sz)]) ∧ Below w.heap.size w w' := by
  obtain ⟨W0, hW0, k0, k1, d0, z0⟩ := box2 w #[.string ⟨#[]⟩, .int .i64 0, .slice none 0 0, .bool false, .int .i64 0] #[.string nm, .int .i64 sz, .slice none 0 0, .bool false, .int .i64 0] 43 43
  have HW0 : Hid (W0 = _) := hW0
  have p0 := at_cell k1 0
  have p1 := at_cell k1 1
  have p2 := at_cell k1 2
  have p3 := at_cell k1 3
  have p4 := at_cell k1 4
  clear hW0
  go_enter Try.func28, Try.ntmps28
  go_wp2_with fail
  rw [← HW0.out]
  clear HW0
  refine (specBookOk_any nm sz _ [] false 0 _ hn (ReadsR.nil _ _ _ _)).mono ?_
  rintro e w1 ⟨rfl, b1⟩
  rw [bookOk_new]
  replace k0 := (b1.block _ (by omega)).trans k0
  replace k1 := (b1.block _ (by omega)).trans k1
  replace d0 := bw_call d0 b1
  have q0 := at_cell k0 0
  have q1 := at_cell k0 1
  have q2 := at_cell k0 2
  have q3 := at_cell k0 3
  have q4 := at_cell k0 4
  have f0 := at_open k0 0
  have f1 := at_open k0 1
  have f2 := at_open k0 2
  have f3 := at_open k0 3
  have f4 := at_open k0 4
  cases h : newOk nm sz
  · have HA : Hid (newName nm sz = ByteArray.empty ∧ newSize nm sz = 0 ∧ newOk nm sz = false) := by simp [Hid, newName, newSize, h]
    have HS : Hid _ := And.intro (set_five k0 (.string ⟨#[]⟩) (.int .i64 0) (.slice none 0 0) (.bool false) (.int .i64 0)) (bw_five d0 (Nat.le_refl _) (.string ⟨#[]⟩) (.int .i64 0) (.slice none 0 0) (.bool false) (.int .i64 0))
    clear k0 k1 d0 h p0 p1 p2 p3 p4
    go_wp2_with fail
    exact bodyPost_ret (v := .tuple #[.agg #[.string ⟨#[]⟩, .int .i64 0, .slice none 0 0, .bool false, .int .i64 0], .bool false]) (by simp [results, Try.results28, go_sem, at_cell HS.out.1]) rfl ⟨by rw [HA.out.1, HA.out.2.1, HA.out.2.2]; rfl, HS.out.2⟩
  · have HA : Hid (newName nm sz = nm ∧ newSize nm sz = sz ∧ newOk nm sz = true) := by simp [Hid, newName, newSize, h]
    have HS : Hid _ := And.intro (set_five k0 (.string nm) (.int .i64 sz) (.slice none 0 0) (.bool false) (.int .i64 0)) (bw_five d0 (Nat.le_refl _) (.string nm) (.int .i64 sz) (.slice none 0 0) (.bool false) (.int .i64 0))
    clear p0 p1 p2 p3 p4
    have p0 := at_cell k1 0
    have p1 := at_cell k1 1
    have p2 := at_cell k1 2
    have p3 := at_cell k1 3
    have p4 := at_cell k1 4
    clear k0 k1 d0 h
    go_wp2_with fail
    exact bodyPost_ret (v := .tuple #[.agg #[.string nm, .int .i64 sz, .slice none 0 0, .bool false, .int .i64 0], .bool true]) (by simp [results, Try.results28, go_sem, at_cell HS.out.1]) rfl ⟨by rw [HA.out.1, HA.out.2.1, HA.out.2.2], HS.out.2⟩

end Go.Proofs.Ytehjahegokeofaj
