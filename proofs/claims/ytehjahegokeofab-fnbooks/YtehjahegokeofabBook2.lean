/-
  Chapter 6: the specification's NewBook, Alike and FindBook, at every argument.
-/
import Derived.Test.YtehjahegokeofabBookM
import Derived.Test.YtehjahegokeofabTexts
namespace Go.Proofs.Ytehjahegokeofab
open Go.RowKit
set_option linter.unusedVariables false

/-- A cell of a block is written. -/
theorem set_at {W : World} {b : Nat} {cs : Array Value} {t : TypeId} (h : W.heap[b]? = some (.cells cs t (0, 0))) (i : Nat) (x : Value) : (W.setCell ⟨b, i, none⟩ x).heap[b]? = some (.cells (cs.setIfInBounds i x) t (0, 0)) := by
  obtain ⟨hlt, hk⟩ := Array.getElem?_eq_some_iff.1 h
  show (W.heap.modify b _)[b]? = _
  rw [Array.getElem?_eq_getElem (by rw [Array.size_modify]; exact hlt), Array.getElem_modify_self, hk]
  rfl
/-- A book's five cells, written. -/
theorem set_five {W : World} {b : Nat} {x0 x1 x2 x3 x4 : Value} {t : TypeId} (h : W.heap[b]? = some (.cells #[x0, x1, x2, x3, x4] t (0, 0))) (y0 y1 y2 y3 y4 : Value) :
    (((((W.setCell ⟨b, 0, none⟩ y0).setCell ⟨b, 1, none⟩ y1).setCell ⟨b, 2, none⟩ y2).setCell ⟨b, 3, none⟩ y3).setCell ⟨b, 4, none⟩ y4).heap[b]? = some (.cells #[y0, y1, y2, y3, y4] t (0, 0)) :=
  set_at (set_at (set_at (set_at (set_at h 0 y0) 1 y1) 2 y2) 3 y3) 4 y4
theorem bw_five {w W : World} {b : Nat} (h : Below w.heap.size w W) (hb : w.heap.size ≤ b) (y0 y1 y2 y3 y4 : Value) :
    Below w.heap.size w (((((W.setCell ⟨b, 0, none⟩ y0).setCell ⟨b, 1, none⟩ y1).setCell ⟨b, 2, none⟩ y2).setCell ⟨b, 3, none⟩ y3).setCell ⟨b, 4, none⟩ y4) :=
  bw_set (bw_set (bw_set (bw_set (bw_set h hb _) hb _) hb _) hb _) hb _

set_option maxHeartbeats 1600000 in
theorem specNewBook_any (nm : ByteArray) (sz : Int) (w : World) (hn : nm.size ≤ maxLen) :
    Calls Try.prog 38 #[.string nm, .int .i64 sz] w fun e w' => e = .returned (.tuple #[.agg #[.string (newName nm sz), .int .i64 (newSize nm sz), .slice none 0 0, .bool false, .int .i64 0], .bool (newOk nm sz)]) ∧ Below w.heap.size w w' := by
  obtain ⟨W0, hW0, k0, k1, d0, z0⟩ := box2 w #[.string ⟨#[]⟩, .int .i64 0, .slice none 0 0, .bool false, .int .i64 0] #[.string nm, .int .i64 sz, .slice none 0 0, .bool false, .int .i64 0] 50 50
  have HW0 : Hid (W0 = _) := hW0
  have p0 := at_cell k1 0
  have p1 := at_cell k1 1
  have p2 := at_cell k1 2
  have p3 := at_cell k1 3
  have p4 := at_cell k1 4
  clear hW0
  go_enter Try.func38, Try.ntmps38
  go_wp2_with fail
  rw [← HW0.out]
  clear HW0
  refine (specBookOk_any nm sz _ [] false 0 _ hn (ReadsR.nil _ _ _ _)).mono ?_
  rintro e w1 ⟨rfl, b1⟩
  rw [bookOk_new]
  replace k0 := (b1.block _ (by omega)).trans k0
  replace k1 := (b1.block _ (by omega)).trans k1
  replace d0 := bw_call d0 b1
  have q0 := at_cell k0 0
  have q1 := at_cell k0 1
  have q2 := at_cell k0 2
  have q3 := at_cell k0 3
  have q4 := at_cell k0 4
  have f0 := at_open k0 0
  have f1 := at_open k0 1
  have f2 := at_open k0 2
  have f3 := at_open k0 3
  have f4 := at_open k0 4
  cases h : newOk nm sz
  · have HA : Hid (newName nm sz = ByteArray.empty ∧ newSize nm sz = 0 ∧ newOk nm sz = false) := by simp [Hid, newName, newSize, h]
    have HS : Hid _ := And.intro (set_five k0 (.string ⟨#[]⟩) (.int .i64 0) (.slice none 0 0) (.bool false) (.int .i64 0)) (bw_five d0 (Nat.le_refl _) (.string ⟨#[]⟩) (.int .i64 0) (.slice none 0 0) (.bool false) (.int .i64 0))
    clear k0 k1 d0 h p0 p1 p2 p3 p4
    go_wp2_with fail
    exact bodyPost_ret (v := .tuple #[.agg #[.string ⟨#[]⟩, .int .i64 0, .slice none 0 0, .bool false, .int .i64 0], .bool false]) (by simp [results, Try.results38, go_sem, at_cell HS.out.1]) rfl ⟨by rw [HA.out.1, HA.out.2.1, HA.out.2.2]; rfl, HS.out.2⟩
  · have HA : Hid (newName nm sz = nm ∧ newSize nm sz = sz ∧ newOk nm sz = true) := by simp [Hid, newName, newSize, h]
    have HS : Hid _ := And.intro (set_five k0 (.string nm) (.int .i64 sz) (.slice none 0 0) (.bool false) (.int .i64 0)) (bw_five d0 (Nat.le_refl _) (.string nm) (.int .i64 sz) (.slice none 0 0) (.bool false) (.int .i64 0))
    clear p0 p1 p2 p3 p4
    have p0 := at_cell k1 0
    have p1 := at_cell k1 1
    have p2 := at_cell k1 2
    have p3 := at_cell k1 3
    have p4 := at_cell k1 4
    clear k0 k1 d0 h
    go_wp2_with fail
    exact bodyPost_ret (v := .tuple #[.agg #[.string nm, .int .i64 sz, .slice none 0 0, .bool false, .int .i64 0], .bool true]) (by simp [results, Try.results38, go_sem, at_cell HS.out.1]) rfl ⟨by rw [HA.out.1, HA.out.2.1, HA.out.2.2], HS.out.2⟩

set_option maxHeartbeats 800000 in
theorem specFindBook_any (v : Value) (bs : List Bk) (n : ByteArray) (w : World) (r : ReadsR 5 bookC w.heap.size w v bs) :
    Calls Try.prog 44 #[v, .string n] w fun e w' => e = .returned (.int .i64 (findB bs n)) ∧ w' = w := by
  obtain ⟨o, cap, rfl, hm, hc, -⟩ := r
  have HC : Hid (∀ i (hi : i < bs.length), ∃ g off, o = some ⟨g, off, none⟩ ∧ w.cell? ⟨g, off + i * 5, none⟩ = some (.string bs[i].nm)) := fun i hi => by
    obtain ⟨g, off, e, -, hx⟩ := hc i bs[i] (List.getElem?_eq_getElem hi)
    exact ⟨g, off, e, hx 0 _ rfl⟩
  unfold maxLen at hm
  clear hc
  go_enter Try.func44, Try.ntmps44
  go_wp2_with fail
  go_loopw [5] (fun i wr => ∃ k : Nat, k ≤ bs.length ∧ i = .int .i64 k ∧ findB bs n = findFrom n ((bs.map Bk.nm).drop k) k ∧ wr = w) (fun i _ => bs.length - (intOf i).toNat)
  case atStart => exact ⟨0, Nat.zero_le _, rfl, rfl, rfl⟩
  case round =>
    obtain ⟨k, hk, rfl, hf, rfl⟩ := hrel
    by_cases hlt : k < bs.length
    · obtain ⟨g, off, rfl, a0⟩ := HC.out k hlt
      rw [find_at bs n k hlt] at hf
      have HF : Hid _ := hf
      clear hf HC
      generalize bs[k].nm = x at a0 HF
      by_cases hx : x = n
      · have hq : (x.toList == n.toList) = true := by rw [text_eq]; exact decide_eq_true hx
        have HV : Hid (findB bs n = k) := by have := HF.out; rwa [if_pos hx] at this
        clear HF hx
        go_wp2_with fail
        go_ret
        exact ⟨ret_int HV.out.symm, rfl⟩
      · have hq : (x.toList == n.toList) = false := by rw [text_eq]; exact decide_eq_false hx
        have HV : Hid (findB bs n = findFrom n ((bs.map Bk.nm).drop (k + 1)) (k + 1)) := by have := HF.out; rwa [if_neg hx] at this
        clear HF hx
        go_wp2_with fail
        go_roundw
        case rel => exact ⟨k + 1, by omega, by go_num, HV.out, by trivial⟩
        case measure => simp [intOf]; omega
    · rw [find_end bs n k hlt] at hf
      have HF : Hid _ := hf
      clear hf HC
      go_wp2_with fail
      go_ret
      exact ⟨ret_int HF.out.symm, rfl⟩

end Go.Proofs.Ytehjahegokeofab
