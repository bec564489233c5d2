/-
  The program's Fed at every argument.
-/
import Derived.Test.YtbjkbhchcoabcaaFed
import Derived.Test.YtbjkbhchcoabcaaImFeed
import Derived.Test.YtbjkbhchcoabcaaJump
namespace Go.Proofs.Ytbjkbhchcoabcaa
open Go.RowKit
set_option linter.unusedVariables false
set_option maxRecDepth 100000

/-- Two blocks of two cells, laid one behind the other. -/
theorem two_start (w : World) (x0 x1 y0 y1 : Value) (t : TypeId) : ∃ W0, W0 = (w.alloc (.cells #[x0, x1] t)).alloc (.cells #[y0, y1] t) ∧
    W0.heap[w.heap.size]? = some (.cells #[x0, x1] t (0, 0)) ∧ W0.heap[w.heap.size + 1]? = some (.cells #[y0, y1] t (0, 0)) ∧ Below w.heap.size w W0 ∧ W0.heap.size = w.heap.size + 1 + 1 := by
  have s1 : (w.alloc (.cells #[x0, x1] t)).heap.size = w.heap.size + 1 := by simp
  have a1 := heap_alloc_new w (.cells #[x0, x1] t)
  have a2 := heap_alloc_new (w.alloc (.cells #[x0, x1] t)) (.cells #[y0, y1] t)
  rw [s1] at a2
  exact ⟨_, rfl, (Below.heap_alloc _ _ _ (by rw [s1]; omega)).trans a1, a2, ((Below.refl _ w).alloc (Nat.le_refl _) _).alloc (by simp) _, by simp⟩

/-- The answer's two cells are written, and a row of nothing is laid. -/
theorem nothing_end {w1 : World} {b base : Nat} {x0 y0 : Value} {t : TypeId} (h : w1.heap[b]? = some (.cells #[x0, y0] t (0, 0))) (hb : base ≤ b) (x y : Value) (te : TypeId) :
    (((w1.setCell ⟨b, 0, none⟩ x).setCell ⟨b, 1, none⟩ y).alloc (.cells #[] te)).heap[b]? = some (.cells #[x, y] t (0, 0)) ∧
    (((w1.setCell ⟨b, 0, none⟩ x).setCell ⟨b, 1, none⟩ y).alloc (.cells #[] te)).ownsRow base te 1 (.slice (some ⟨w1.heap.size, 0, none⟩) 0 0) 0 [] ∧
    Below base w1 (((w1.setCell ⟨b, 0, none⟩ x).setCell ⟨b, 1, none⟩ y).alloc (.cells #[] te)) := by
  obtain ⟨hlt, -⟩ := Array.getElem?_eq_some_iff.1 h
  obtain ⟨s1, u1⟩ := set_two h x y
  have hz : ((w1.setCell ⟨b, 0, none⟩ x).setCell ⟨b, 1, none⟩ y).heap.size = w1.heap.size := by simp
  have own := World.ownsRow_lit (base := base) (size := 1) (e := te) ((w1.setCell ⟨b, 0, none⟩ x).setCell ⟨b, 1, none⟩ y) #[] 0 (by omega) (Nat.zero_le _) rfl
  rw [hz] at own
  exact ⟨(Below.heap_alloc _ _ _ (by omega)).trans s1, own, (u1.toBelow (by omega) hb).alloc (by omega) _⟩

set_option maxHeartbeats 1600000 in
theorem implFed_no (r b : ByteArray) (k : Int) (w : World) (hr : r.size ≤ 1099511627776) (hb : b.size ≤ 1099511627776) (hno : feedOk r k = false ∨ 1000 < b.size) :
    Calls Try.prog 35 #[.agg #[.string r, .int .i64 k], .string b] w fun e w' => ∃ v : Value, e = .returned (.tuple #[.agg #[.string ByteArray.empty, .int .i64 0], v]) ∧ w'.ownsRow w.heap.size 9 1 v 0 [] ∧ v ≠ .slice none 0 0 ∧ Below w.heap.size w w' := by
  obtain ⟨W0, hW0, c0, c1, bd0, sz0⟩ := two_start w (.string r) (.int .i64 k) (.string ⟨#[]⟩) (.int .i64 0) 45
  have HW0 : Hid (W0 = _) := hW0
  clear hW0
  go_enter Try.func35, Try.ntmps35
  go_wp2_with fail
  rw [← HW0.out]
  clear HW0
  refine (implFeedOk_any r k _ hr).mono ?_
  rintro e w1 ⟨rfl, b1⟩
  have sz1 : w.heap.size + 1 < w1.heap.size := by have := b1.size; omega
  have k1 : w1.heap[w.heap.size + 1]? = some (.cells #[.string ⟨#[]⟩, .int .i64 0] 45 (0, 0)) := (b1.block _ (by omega)).trans c1
  have kA : (w1.alloc (.cells #[] 9)).heap[w.heap.size + 1]? = some (.cells #[.string ⟨#[]⟩, .int .i64 0] 45 (0, 0)) := (Below.heap_alloc _ _ _ sz1).trans k1
  have q0 := at_cell kA 0
  have q1 := at_cell kA 1
  have f0 := at_open kA 0
  have f1 := at_open kA 1
  have q2 := at_cell k1 0
  have q3 := at_cell k1 1
  have f2 := at_open k1 0
  have f3 := at_open k1 1
  obtain ⟨e1, e2, e3⟩ := nothing_end k1 (show w.heap.size ≤ w.heap.size + 1 by omega) (.string ⟨#[]⟩) (.int .i64 0) 9
  have e3 := (bd0.trans (b1.mono bd0.size)).trans e3
  have HS : Hid _ := And.intro e1 (And.intro e2 e3)
  clear e1 e2 e3 c0 c1 k1 kA b1
  cases hok : feedOk r k
  · go_wp2_with fail
    exact bodyPost_ret (v := .tuple #[.agg #[.string ByteArray.empty, .int .i64 0], .slice (some ⟨w1.heap.size, 0, none⟩) 0 0]) (by simp [results, Try.results35, go_sem, at_cell HS.out.1]; rfl) rfl ⟨_, rfl, HS.out.2.1, by simp, HS.out.2.2⟩
  · have hbig : (1000 : Int) < (b.size : Int) := by
      rcases hno with h | h
      · rw [hok] at h; cases h
      · omega
    go_wp2_with fail
    exact bodyPost_ret (v := .tuple #[.agg #[.string ByteArray.empty, .int .i64 0], .slice (some ⟨w1.heap.size, 0, none⟩) 0 0]) (by simp [results, Try.results35, go_sem, at_cell HS.out.1]; rfl) rfl ⟨_, rfl, HS.out.2.1, by simp, HS.out.2.2⟩

set_option maxHeartbeats 1600000 in
theorem implFed_yes (r b : ByteArray) (k : Int) (w : World) (hb : b.size ≤ 1000) (hok : feedOk r k = true) :
    Calls Try.prog 35 #[.agg #[.string r, .int .i64 k], .string b] w fun e w' => ∃ v : Value, e = .returned (.tuple #[.agg #[.string (fed r k b).1.1, .int .i64 (fed r k b).1.2], v]) ∧ w'.ownsRow w.heap.size 9 1 v (fed r k b).2.length ((fed r k b).2.map Value.string) ∧ v ≠ .slice none 0 0 ∧ Below w.heap.size w w' := by
  obtain ⟨hr, hk0, hk1, _⟩ := feedOk_bd r k hok
  obtain ⟨W0, hW0, c0, c1, bd0, sz0⟩ := two_start w (.string r) (.int .i64 k) (.string ⟨#[]⟩) (.int .i64 0) 45
  have HW0 : Hid (W0 = _) := hW0
  clear hW0
  have hs : (r ++ b).size = r.size + b.size := ByteArray.size_append
  have HF : Hid (∀ xs p k', Fr.fedF (r ++ b) ((r ++ b).size + 1) 0 k = (xs, p, k') → fed r k b = ((Fr.rest (r ++ b) p, k'), xs)) := fun xs p k' h => fed_yes r k b hok hb xs p k' h
  go_enter Try.func35, Try.ntmps35
  go_wp2_with fail
  rw [← HW0.out]
  clear HW0
  refine (implFeedOk_any r k _ (by omega)).mono ?_
  rintro e w1 ⟨rfl, b1⟩
  rw [hok]
  have k0 : w1.heap[w.heap.size]? = some (.cells #[.string r, .int .i64 k] 45 (0, 0)) := (b1.block _ (by omega)).trans c0
  have k1 : w1.heap[w.heap.size + 1]? = some (.cells #[.string ⟨#[]⟩, .int .i64 0] 45 (0, 0)) := (b1.block _ (by omega)).trans c1
  have p0 := at_cell k0 0
  have p1 := at_cell k0 1
  have bd1 := bd0.trans (b1.mono bd0.size)
  have sz1 : w.heap.size + 1 + 1 ≤ w1.heap.size := by have := b1.size; omega
  clear c0 c1 bd0 sz0 b1
  go_wp2_with fail
  generalize r ++ b = s at *
  have hs2 : s.size ≤ 1063 := by omega
  clear hs
  refine (toldApart_any s k _ hs2 hk0 hk1).mono ?_
  rintro e w2 ⟨v, xs, j, p, rfl, hfe, hj, own2, hnv, b2⟩
  have HE : Hid (fed r k b = ((Fr.rest s p, min 1000000 (k + j)), xs)) := HF.out xs p _ hfe
  have HNV : Hid (v ≠ Value.slice none 0 0) := hnv
  clear hfe hnv HF
  generalize Fr.rest s p = R at *
  have n0 : w2.heap[w.heap.size]? = some (.cells #[.string r, .int .i64 k] 45 (0, 0)) := (b2.block _ (by omega)).trans k0
  have n1 : w2.heap[w.heap.size + 1]? = some (.cells #[.string ⟨#[]⟩, .int .i64 0] 45 (0, 0)) := (b2.block _ (by omega)).trans k1
  have bd2 := bd1.trans (b2.mono bd1.size)
  have own3 := owns_mono own2 (show w.heap.size + 1 + 1 ≤ _ from sz1)
  have g0 := at_cell n0 0
  have g1 := at_cell n0 1
  have q0 := at_cell n1 0
  have q1 := at_cell n1 1
  have f0 := at_open n1 0
  have f1 := at_open n1 1
  obtain ⟨s1, u1⟩ := set_two n1 (.string R) (.int .i64 (min (k + j) 1000000))
  have own4 := owns_mono (ownsRow_upto own3 u1 (by omega)) (show w.heap.size ≤ w.heap.size + 1 + 1 by omega)
  have hfin := bd2.trans (u1.toBelow bd2.size (show w.heap.size ≤ w.heap.size + 1 by omega))
  have HS : Hid _ := And.intro s1 (And.intro own4 hfin)
  clear s1 u1 own4 own3 own2 hfin n0 n1 k0 k1 p0 p1 b2 bd1 bd2
  go_wp2_with fail
  have hmin : min (1000000 : Int) (k + j) = min (k + j) 1000000 := by omega
  refine bodyPost_ret (v := .tuple #[.agg #[.string R, .int .i64 (min (k + j) 1000000)], v]) (by simp [results, Try.results35, go_sem, at_cell HS.out.1]) rfl ⟨v, ?_, ?_, HNV.out, HS.out.2.2⟩
  · rw [HE.out, hmin]
  · rw [HE.out]
    exact HS.out.2.1

theorem implFed_any (r b : ByteArray) (k : Int) (w : World) (hr : r.size ≤ 1099511627776) (hb : b.size ≤ 1099511627776) :
    Calls Try.prog 35 #[.agg #[.string r, .int .i64 k], .string b] w fun e w' => ∃ v : Value, e = .returned (.tuple #[.agg #[.string (fed r k b).1.1, .int .i64 (fed r k b).1.2], v]) ∧ w'.ownsRow w.heap.size 9 1 v (fed r k b).2.length ((fed r k b).2.map Value.string) ∧ v ≠ .slice none 0 0 ∧ Below w.heap.size w w' := by
  by_cases h : feedOk r k = true ∧ b.size ≤ 1000
  · exact implFed_yes r b k w h.2 h.1
  · have hno : feedOk r k = false ∨ 1000 < b.size := by
      cases hk : feedOk r k
      · exact .inl rfl
      · right
        rcases Nat.lt_or_ge 1000 b.size with q | q
        · exact q
        · exact absurd ⟨hk, q⟩ h
    rw [fed_no r k b hno]
    exact implFed_no r b k w hr hb hno

end Go.Proofs.Ytbjkbhchcoabcaa
