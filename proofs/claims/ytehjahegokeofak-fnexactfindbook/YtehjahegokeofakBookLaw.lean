/-
  The laws' helpers on a book: its size, copied, the same, marked, held.
-/
import Derived.Test.YtehjahegokeofakBook2
import Derived.Deep.RegionHeld3
namespace Go.Proofs.Ytehjahegokeofak
open Go.RowKit
set_option linter.unusedVariables false

set_option maxHeartbeats 800000 in
theorem szBook_any (nm : ByteArray) (sz : Int) (m : Value) (rs : List (Int × Int × Int)) (fx : Bool) (ep : Int) (left : Int) (w : World) (hn : nm.size ≤ maxLen) (h0 : 0 ≤ left) (hl : left ≤ 1048576) (r : ReadsR 3 runC w.heap.size w m rs) :
    Calls Try.prog 19 #[.agg #[.string nm, .int .i64 sz, m, .bool fx, .int .i64 ep], .int .i64 left] w fun e w' => ∃ q : Int, e = .returned (.int .i64 q) ∧ (q = -1 ∨ (0 ≤ q ∧ q ≤ left ∧ nm.size ≤ 1048576 ∧ rs.length ≤ 1048576)) ∧ Below w.heap.size w w' := by
  obtain ⟨o, cap, rfl, hm, -⟩ := r
  obtain ⟨W0, hW0, k0, d0, z0⟩ := box1 w #[.string nm, .int .i64 sz, .slice o rs.length cap, .bool fx, .int .i64 ep] 51
  have HW0 : Hid (W0 = _) := hW0
  have p0 := at_cell k0 0
  have p2 := at_cell k0 2
  rw [hW0] at p0 p2
  clear hW0 k0
  have HM : Hid _ := hm
  unfold maxLen at hn hm
  by_cases hb : left < (nm.size : Int)
  · have h1 : left - (nm.size : Int) < 0 := by omega
    go_enter Try.func19, Try.ntmps19
    go_wp2_with fail
    go_ret
    exact ⟨-1, rfl, .inl rfl, by rw [← HW0.out]; exact d0⟩
  · have hl1 : 0 ≤ left - (nm.size : Int) := by omega
    have hl2 : left - (nm.size : Int) ≤ 1048576 := by omega
    go_enter Try.func19, Try.ntmps19
    go_wp2_with fail
    refine (szRuns_any _ _ _ _ _ hl1 hl2 HM.out).mono ?_
    rintro e w' ⟨rfl, rfl⟩
    by_cases hb2 : left - (nm.size : Int) < (rs.length : Int)
    · rw [if_pos hb2]
      go_wp2_with fail
      go_ret
      exact ⟨-1, rfl, .inl rfl, by rw [← HW0.out]; exact d0⟩
    · rw [if_neg hb2]
      have hl3 : 0 ≤ left - (nm.size : Int) - (rs.length : Int) := by omega
      go_wp2_with fail
      go_ret
      exact ⟨_, rfl, .inr ⟨hl3, by omega, by omega, by omega⟩, by rw [← HW0.out]; exact d0⟩

theorem toBook_end {w w1 : World} {b1 b2 base : Nat} {a0 a1 a2 a3 a4 : Value} {t : TypeId} {v : Value} {n : Nat} {xs : List Value} (h1 : w.heap.size ≤ b1) (h2 : w.heap.size ≤ b2) (hne : b1 ≠ b2) (l1 : b1 < base) (l2 : b2 < base) (l3 : w.heap.size ≤ base) (k1 : w1.heap[b1]? = some (.cells #[a0, a1, a2, a3, a4] t (0, 0))) (own : w1.ownsRow base 78 3 v n xs) (d0 : Below w.heap.size w w1) (y2 y3 y4 x0 x1 x2 x3 x4 : Value) :
    ((((((((w1.setCell ⟨b2, 2, none⟩ y2).setCell ⟨b2, 3, none⟩ y3).setCell ⟨b2, 4, none⟩ y4).setCell ⟨b1, 0, none⟩ x0).setCell ⟨b1, 1, none⟩ x1).setCell ⟨b1, 2, none⟩ x2).setCell ⟨b1, 3, none⟩ x3).setCell ⟨b1, 4, none⟩ x4).heap[b1]? = some (.cells #[x0, x1, x2, x3, x4] t (0, 0)) ∧
    ((((((((w1.setCell ⟨b2, 2, none⟩ y2).setCell ⟨b2, 3, none⟩ y3).setCell ⟨b2, 4, none⟩ y4).setCell ⟨b1, 0, none⟩ x0).setCell ⟨b1, 1, none⟩ x1).setCell ⟨b1, 2, none⟩ x2).setCell ⟨b1, 3, none⟩ x3).setCell ⟨b1, 4, none⟩ x4).ownsRow w.heap.size 78 3 v n xs ∧
    Below w.heap.size w ((((((((w1.setCell ⟨b2, 2, none⟩ y2).setCell ⟨b2, 3, none⟩ y3).setCell ⟨b2, 4, none⟩ y4).setCell ⟨b1, 0, none⟩ x0).setCell ⟨b1, 1, none⟩ x1).setCell ⟨b1, 2, none⟩ x2).setCell ⟨b1, 3, none⟩ x3).setCell ⟨b1, 4, none⟩ x4) := by
  have u : Upto b2 w1 (((w1.setCell ⟨b2, 2, none⟩ y2).setCell ⟨b2, 3, none⟩ y3).setCell ⟨b2, 4, none⟩ y4) := (((Upto.refl _ _).setCell ⟨b2, 2, none⟩ (.inl rfl) _).setCell ⟨b2, 3, none⟩ (.inl rfl) _).setCell ⟨b2, 4, none⟩ (.inl rfl) _
  have e1 := (u.block _ (heap_lt k1) hne).trans k1
  have e2 := ownsRow_upto own u l2
  have e3 : Below w.heap.size w (((w1.setCell ⟨b2, 2, none⟩ y2).setCell ⟨b2, 3, none⟩ y3).setCell ⟨b2, 4, none⟩ y4) := bw_set (bw_set (bw_set d0 h2 _) h2 _) h2 _
  generalize ((w1.setCell ⟨b2, 2, none⟩ y2).setCell ⟨b2, 3, none⟩ y3).setCell ⟨b2, 4, none⟩ y4 = W at *
  have v : Upto b1 W (((((W.setCell ⟨b1, 0, none⟩ x0).setCell ⟨b1, 1, none⟩ x1).setCell ⟨b1, 2, none⟩ x2).setCell ⟨b1, 3, none⟩ x3).setCell ⟨b1, 4, none⟩ x4) := (((((Upto.refl _ _).setCell ⟨b1, 0, none⟩ (.inl rfl) _).setCell ⟨b1, 1, none⟩ (.inl rfl) _).setCell ⟨b1, 2, none⟩ (.inl rfl) _).setCell ⟨b1, 3, none⟩ (.inl rfl) _).setCell ⟨b1, 4, none⟩ (.inl rfl) _
  exact ⟨set_five e1 x0 x1 x2 x3 x4, owns_mono (ownsRow_upto e2 v l1) l3, bw_five e3 h1 _ _ _ _ _⟩

set_option maxHeartbeats 1600000 in
theorem toBook_any (nm : ByteArray) (sz : Int) (m : Value) (rs : List (Int × Int × Int)) (fx : Bool) (ep : Int) (w : World) (hb : rs.length ≤ 1048576) (r : ReadsR 3 runC w.heap.size w m rs) :
    Calls Try.prog 20 #[.agg #[.string nm, .int .i64 sz, m, .bool fx, .int .i64 ep]] w fun e w' => ∃ g : Nat, e = .returned (.agg #[.string nm, .int .i64 sz, .slice (some ⟨g, 0, none⟩) rs.length rs.length, .bool fx, .int .i64 ep]) ∧ w'.ownsRow w.heap.size 78 3 (.slice (some ⟨g, 0, none⟩) rs.length rs.length) rs.length (rs.flatMap runC) ∧ Below w.heap.size w w' := by
  obtain ⟨o, cap, hm⟩ := r.form
  obtain ⟨W1, hW0, k0, k1, k2, d0, z0⟩ := box3 w #[.string nm, .int .i64 sz, m, .bool fx, .int .i64 ep] #[.string ⟨#[]⟩, .int .i64 0, .slice none 0 0, .bool false, .int .i64 0] #[.string nm, .int .i64 sz, .slice none 0 0, .bool false, .int .i64 0] 51 54 54
  have r0 := r.below d0
  have z0a : w.heap.size + 1 + 1 + 1 ≤ W1.heap.size := by omega
  clear z0
  subst hm
  have HW0 : Hid _ := hW0
  clear hW0 r
  go_enter Try.func20, Try.ntmps20
  go_wp2_with (fail)
  rw [← HW0.out]
  clear HW0
  refine (toRuns_any _ rs _ hb (r0.mono (by omega))).mono ?_
  rintro e w1 ⟨rfl, own, b1⟩
  replace k0 := (b1.block _ (by omega)).trans k0
  replace k1 := (b1.block _ (by omega)).trans k1
  replace k2 := (b1.block _ (by omega)).trans k2
  replace d0 := bw_call d0 b1
  have z2 := b1.size
  clear b1 r0
  have p3 := at_cell k0 3
  have p4 := at_cell k0 4
  have c0 := at_cell k2 0
  have c1 := at_cell k2 1
  have c2 := at_cell k2 2
  have c3 := at_cell k2 3
  have c4 := at_cell k2 4
  have f2 := at_open k2 2
  have f3 := at_open k2 3
  have f4 := at_open k2 4
  have q0 := at_cell k1 0
  have q1 := at_cell k1 1
  have q2 := at_cell k1 2
  have q3 := at_cell k1 3
  have q4 := at_cell k1 4
  have g0 := at_open k1 0
  have g1 := at_open k1 1
  have g2 := at_open k1 2
  have g3 := at_open k1 3
  have g4 := at_open k1 4
  have HS : Hid _ := toBook_end (b1 := w.heap.size + 1) (b2 := w.heap.size + 1 + 1) (by omega) (by omega) (by omega) (by omega) (by omega) (by omega) k1 own d0 (.slice (some ⟨W1.heap.size, 0, none⟩) rs.length rs.length) (.bool fx) (.int .i64 ep) (.string nm) (.int .i64 sz) (.slice (some ⟨W1.heap.size, 0, none⟩) rs.length rs.length) (.bool fx) (.int .i64 ep)
  clear k0 k1 k2 own d0
  go_wp2_with fail
  exact bodyPost_ret (v := .agg #[.string nm, .int .i64 sz, .slice (some ⟨W1.heap.size, 0, none⟩) rs.length rs.length, .bool fx, .int .i64 ep]) (by simp [results, Try.results20, go_sem, at_cell HS.out.1]) rfl ⟨_, rfl, HS.out.2.1, HS.out.2.2⟩

set_option maxHeartbeats 1600000 in
theorem eqBook_same (nm : ByteArray) (sz : Int) (m m' : Value) (rs : List (Int × Int × Int)) (fx : Bool) (ep : Int) (w : World) (r : ReadsR 3 runC w.heap.size w m rs) (r' : ReadsR 3 runC w.heap.size w m' rs) :
    Calls Try.prog 23 #[.agg #[.string nm, .int .i64 sz, m, .bool fx, .int .i64 ep], .agg #[.string nm, .int .i64 sz, m', .bool fx, .int .i64 ep]] w fun e w' => e = .returned (.bool true) ∧ Below w.heap.size w w' := by
  obtain ⟨o, cap, rfl⟩ := r.form
  obtain ⟨o', cap', rfl⟩ := r'.form
  obtain ⟨W0, hW0, k0, k1, d0, z0⟩ := box2 w #[.string nm, .int .i64 sz, .slice o rs.length cap, .bool fx, .int .i64 ep] #[.string nm, .int .i64 sz, .slice o' rs.length cap', .bool fx, .int .i64 ep] 54 54
  have r0 := (r.below d0).mono d0.size
  have r1 := (r'.below d0).mono d0.size
  have HW0 : Hid (W0 = _) := hW0
  clear hW0 r r'
  go_enter Try.func23, Try.ntmps23
  go_wp2_with fail
  rw [← HW0.out]
  clear HW0
  refine (eqRuns_any _ _ rs rs _ r0 r1).mono ?_
  rintro e w1 ⟨rfl, b⟩
  replace k0 := (b.block _ (by omega)).trans k0
  replace k1 := (b.block _ (by omega)).trans k1
  replace d0 := bw_call d0 b
  have p3 := at_cell k0 3
  have p4 := at_cell k0 4
  have q3 := at_cell k1 3
  have q4 := at_cell k1 4
  simp only [decide_true]
  clear r0 r1 b k0 k1
  cases fx
  · go_wp2_with fail
    go_ret
    exact ⟨rfl, d0⟩
  · go_wp2_with fail
    go_ret
    exact ⟨rfl, d0⟩

end Go.Proofs.Ytehjahegokeofak
