/-
  Chapter 4: the specification's copies of rows and pools, NewPool, Spare, l4Has, at every argument.
-/
import Derived.Test.YtmejggnjmclefahPool
import Derived.Deep.RegionHeld3
import Derived.Deep.RegionLaw
namespace Go.Proofs.Ytmejggnjmclefah
open Go.RowKit
set_option linter.unusedVariables false

/-- A pool whose two rows are the call's own and lie apart. -/
structure OwnP (base : Nat) (w : World) (v1 v2 : Value) (cs ps : List Int) : Prop where
  c : w.ownsRow base 2 1 v1 cs.length (cs.map (Value.int .i64))
  p : w.ownsRow base 2 1 v2 ps.length (ps.map (Value.int .i64))
  apart : ∀ g, v1.ownBlock = some g → v2.ownBlock ≠ some g
theorem OwnP.below {base : Nat} {w w' : World} {v1 v2 : Value} {cs ps : List Int} (h : OwnP base w v1 v2 cs ps) (b : Below w.heap.size w w') : OwnP base w' v1 v2 cs ps := ⟨owns_below h.c b, owns_below h.p b, h.apart⟩
theorem OwnP.mono {base base' : Nat} {w : World} {v1 v2 : Value} {cs ps : List Int} (h : OwnP base w v1 v2 cs ps) (b : base' ≤ base) : OwnP base' w v1 v2 cs ps := ⟨owns_mono h.c b, owns_mono h.p b, h.apart⟩
theorem OwnP.upto {base c : Nat} {w w' : World} {v1 v2 : Value} {cs ps : List Int} (h : OwnP base w v1 v2 cs ps) (u : Upto c w w') (hc : c < base) : OwnP base w' v1 v2 cs ps := ⟨ownsRow_upto h.c u hc, ownsRow_upto h.p u hc, h.apart⟩
theorem OwnP.r1 {base : Nat} {w : World} {v1 v2 : Value} {cs ps : List Int} (h : OwnP base w v1 v2 cs ps) : Reads w.heap.size w v1 (cs.map (Value.int .i64)) := Reads.of_own h.c
theorem OwnP.r2 {base : Nat} {w : World} {v1 v2 : Value} {cs ps : List Int} (h : OwnP base w v1 v2 cs ps) : Reads w.heap.size w v2 (ps.map (Value.int .i64)) := Reads.of_own h.p
theorem OwnP.nil (base : Nat) (w : World) : OwnP base w (.slice none 0 0) (.slice none 0 0) [] [] := ⟨owns_nil _ _ _ _, owns_nil _ _ _ _, fun g h => by cases h⟩

/-- The memory that a call begins with which takes a pool and answers one: the pool's box, and the answer's. -/
theorem pool_start (w : World) (v1 v2 : Value) : ∃ W0, W0 = (w.alloc (.cells #[v1, v2] 47)).alloc (.cells #[.slice none 0 0, .slice none 0 0] 47) ∧
    W0.heap[w.heap.size]? = some (.cells #[v1, v2] 47 (0, 0)) ∧ W0.heap[w.heap.size + 1]? = some (.cells #[.slice none 0 0, .slice none 0 0] 47 (0, 0)) ∧ Below w.heap.size w W0 ∧ W0.heap.size = w.heap.size + 1 + 1 := by
  have s1 : (w.alloc (.cells #[v1, v2] 47)).heap.size = w.heap.size + 1 := by simp
  have a1 := heap_alloc_new w (.cells #[v1, v2] 47)
  have a2 := heap_alloc_new (w.alloc (.cells #[v1, v2] 47)) (.cells #[.slice none 0 0, .slice none 0 0] 47)
  rw [s1] at a2
  exact ⟨_, rfl, (Below.heap_alloc _ _ _ (by rw [s1]; omega)).trans a1, a2, bw_alloc (bw_alloc (Below.refl _ _)), by simp⟩

/-- The answer's box is written. -/
theorem pool_end (w W : World) (u1 u2 x y : Value) (b : Nat) (cs ps : List Int) (hb : w.heap.size ≤ b) (k : W.heap[b]? = some (.cells #[x, y] 47 (0, 0))) (own : OwnP (b + 1) W u1 u2 cs ps) (d : Below w.heap.size w W) :
    ((W.setCell ⟨b, 0, none⟩ u1).setCell ⟨b, 1, none⟩ u2).heap[b]? = some (.cells #[u1, u2] 47 (0, 0)) ∧ OwnP w.heap.size ((W.setCell ⟨b, 0, none⟩ u1).setCell ⟨b, 1, none⟩ u2) u1 u2 cs ps ∧ Below w.heap.size w ((W.setCell ⟨b, 0, none⟩ u1).setCell ⟨b, 1, none⟩ u2) := by
  obtain ⟨h1, h2⟩ := set_two k u1 u2
  exact ⟨h1, (own.upto h2 (by omega)).mono (by omega), d.trans (h2.toBelow d.size (by omega))⟩

/-- Two rows made one behind the other, and the answer's box written. -/
theorem pair_end {w W0 w5 w6 : World} {v5 v6 : Value} {cs ps : List Int} (d0 : Below w.heap.size w W0) (z0 : W0.heap.size = w.heap.size + 1 + 1) (own5 : w5.ownsRow W0.drew.heap.size 2 1 v5 cs.length (cs.map (Value.int .i64))) (b5 : Below W0.drew.heap.size W0.drew w5)
    (own6 : w6.ownsRow w5.heap.size 2 1 v6 ps.length (ps.map (Value.int .i64))) (b6 : Below w5.heap.size w5 w6) {x y : Value} (k : w6.heap[w.heap.size + 1]? = some (.cells #[x, y] 47 (0, 0))) :
    ((w6.setCell ⟨w.heap.size + 1, 0, none⟩ v5).setCell ⟨w.heap.size + 1, 1, none⟩ v6).heap[w.heap.size + 1]? = some (.cells #[v5, v6] 47 (0, 0)) ∧ OwnP w.heap.size ((w6.setCell ⟨w.heap.size + 1, 0, none⟩ v5).setCell ⟨w.heap.size + 1, 1, none⟩ v6) v5 v6 cs ps ∧ Below w.heap.size w ((w6.setCell ⟨w.heap.size + 1, 0, none⟩ v5).setCell ⟨w.heap.size + 1, 1, none⟩ v6) := by
  have hz : W0.drew.heap.size = w.heap.size + 1 + 1 := z0
  have h5 := b5.size
  refine pool_end w w6 v5 v6 x y (w.heap.size + 1) cs ps (by omega) k ⟨owns_mono (owns_below own5 b6) (by omega), owns_mono own6 (by omega), fun g h1 h2 => ?_⟩ (bw_call (bw_call (bw_drew d0) b5) b6)
  have := (own5.lt g h1).2
  have := (own6.lt g h2).1
  omega

theorem zeros_step (cs : List Int) (k : Nat) (h : k < cs.length) : zeros (cs.take (k + 1)) = zeros (cs.take k) + (if cs.getD k 0 = 0 then 1 else 0) := by
  rw [zeros, zeros, List.take_succ_eq_append_getElem h, List.countP_append, getD_of cs k h]
  by_cases e : cs[k] = 0 <;> simp [e]
theorem zeros_le (cs : List Int) (k : Nat) : zeros (cs.take k) ≤ k := by
  have h1 : zeros (cs.take k) ≤ (cs.take k).length := List.countP_le_length
  rw [List.length_take] at h1
  omega

/-- Two new rows of noughts, made in either order, and the answer's box written. -/
theorem new_end {w W0 : World} {M : Array Value} {m : Nat} {x y : Value} (k0 : W0.heap[w.heap.size]? = some (.cells #[x, y] 47 (0, 0))) (d0 : Below w.heap.size w W0) (z0 : W0.heap.size = w.heap.size + 1)
    (hown : ∀ (W : World) (base : Nat), base ≤ W.heap.size → (W.alloc (.cells M 2)).ownsRow base 2 1 (.slice (some ⟨W.heap.size, 0, none⟩) m m) m ((List.replicate m (0 : Int)).map (Value.int .i64)))
    (a b : Nat) (hab : (a = w.heap.size + 1 ∧ b = w.heap.size + 1 + 1) ∨ (a = w.heap.size + 1 + 1 ∧ b = w.heap.size + 1)) :
    (((((W0.setCell ⟨w.heap.size, 0, none⟩ (.slice (some ⟨a, 0, none⟩) m m)).setCell ⟨w.heap.size, 1, none⟩ (.slice (some ⟨b, 0, none⟩) m m)).alloc (.cells M 2)).alloc (.cells M 2)).drew).heap[w.heap.size]? = some (.cells #[.slice (some ⟨a, 0, none⟩) m m, .slice (some ⟨b, 0, none⟩) m m] 47 (0, 0)) ∧
    OwnP w.heap.size (((((W0.setCell ⟨w.heap.size, 0, none⟩ (.slice (some ⟨a, 0, none⟩) m m)).setCell ⟨w.heap.size, 1, none⟩ (.slice (some ⟨b, 0, none⟩) m m)).alloc (.cells M 2)).alloc (.cells M 2)).drew) (.slice (some ⟨a, 0, none⟩) m m) (.slice (some ⟨b, 0, none⟩) m m) (List.replicate m 0) (List.replicate m 0) ∧
    Below w.heap.size w (((((W0.setCell ⟨w.heap.size, 0, none⟩ (.slice (some ⟨a, 0, none⟩) m m)).setCell ⟨w.heap.size, 1, none⟩ (.slice (some ⟨b, 0, none⟩) m m)).alloc (.cells M 2)).alloc (.cells M 2)).drew) := by
  obtain ⟨h1, h2⟩ := set_two k0 (.slice (some ⟨a, 0, none⟩) m m) (.slice (some ⟨b, 0, none⟩) m m)
  generalize hW : (W0.setCell ⟨w.heap.size, 0, none⟩ (.slice (some ⟨a, 0, none⟩) m m)).setCell ⟨w.heap.size, 1, none⟩ (.slice (some ⟨b, 0, none⟩) m m) = W1 at h1 h2 ⊢
  have s1 : W1.heap.size = w.heap.size + 1 := by rw [← hW, World.size_setCell, World.size_setCell, z0]
  clear hW
  have s2 : (W1.alloc (.cells M 2)).heap.size = w.heap.size + 1 + 1 := by simp [s1]
  have o1 := hown W1 w.heap.size (by omega)
  have o2 := hown (W1.alloc (.cells M 2)) w.heap.size (by omega)
  rw [s1] at o1
  rw [s2] at o2
  have o3 := o1.alloc (.cells M 2)
  have e1 := (Below.heap_alloc (W1.alloc (.cells M 2)) (.cells M 2) w.heap.size (by omega)).trans ((Below.heap_alloc W1 (.cells M 2) w.heap.size (by omega)).trans h1)
  have hl : (List.replicate m (0 : Int)).length = m := by simp
  refine ⟨e1, ?_, bw_drew (bw_alloc (bw_alloc (d0.trans (h2.toBelow (by omega) (Nat.le_refl _)))))⟩
  rcases hab with ⟨rfl, rfl⟩ | ⟨rfl, rfl⟩
  · exact ⟨by rw [hl]; exact o3, by rw [hl]; exact o2, fun g q => by simp [Value.ownBlock] at q ⊢; omega⟩
  · exact ⟨by rw [hl]; exact o2, by rw [hl]; exact o3, fun g q => by simp [Value.ownBlock] at q ⊢; omega⟩

set_option maxHeartbeats 800000 in
theorem specNewPool_any (n : Int) (w : World) :
    Calls Try.prog 30 #[.int .i64 n] w fun e w' => ∃ u1 u2 : Value, e = .returned (.tuple #[.agg #[u1, u2], .bool (newPool n).2]) ∧ OwnP w.heap.size w' u1 u2 (newPool n).1.1 (newPool n).1.2 ∧ Below w.heap.size w w' := by
  obtain ⟨W0, hW0, k0, d0, z0⟩ := pool_box w (.slice none 0 0) (.slice none 0 0) 47
  have HW0 : Hid (W0 = _) := hW0
  have p0 := at_cell k0 0
  have p1 := at_cell k0 1
  have f0 := at_open k0 0
  have f1 := at_open k0 1
  clear hW0
  cases hn : (decide ((1 : Int) ≤ n) && decide (n ≤ 24))
  · have hv : newPool n = (([], []), false) := by
      unfold newPool
      rw [if_neg]
      rintro ⟨h1, h2⟩
      simp [h1, h2] at hn
    rw [hv]
    have HS : Hid _ := pool_end w W0 (.slice none 0 0) (.slice none 0 0) _ _ w.heap.size [] [] (Nat.le_refl _) k0 (OwnP.nil _ _) d0
    clear hv k0
    go_enter Try.func30, Try.ntmps30
    go_wp2_with fail
    rw [← HW0.out]
    refine (l1In_any _ _ _ _).mono ?_
    rintro e w' ⟨rfl, rfl⟩
    rw [hn]
    go_wp2_with fail
    exact bodyPost_ret (v := .tuple #[.agg #[.slice none 0 0, .slice none 0 0], .bool false]) (by simp [results, Try.results30, go_sem, at_cell HS.out.1]) rfl ⟨_, _, rfl, HS.out.2⟩
  · have hb : 1 ≤ n ∧ n ≤ 24 := by simpa using hn
    obtain ⟨m, rfl⟩ := Int.eq_ofNat_of_zero_le (show 0 ≤ n by omega)
    have hv : newPool (m : Int) = ((List.replicate m 0, List.replicate m 0), true) := by
      unfold newPool
      rw [if_pos hb, Int.toNat_natCast]
    rw [hv]
    obtain ⟨M, hM, hmk, hown⟩ := made_ints m (by omega)
    clear hv
    go_enter Try.func30, Try.ntmps30
    go_wp2_with fail
    rw [← HW0.out]
    refine (l1In_any _ _ _ _).mono ?_
    rintro e w' ⟨rfl, rfl⟩
    rw [hn]
    go_wp2_with fail
    go_region
    · have HS : Hid _ := new_end k0 d0 z0 hown (w.heap.size + 1) (w.heap.size + 1 + 1) (.inl ⟨rfl, rfl⟩)
      clear k0 d0 hown hmk HW0
      go_wp2_with fail
      exact bodyPost_ret (v := .tuple #[.agg #[.slice (some ⟨w.heap.size + 1, 0, none⟩) m m, .slice (some ⟨w.heap.size + 1 + 1, 0, none⟩) m m], .bool true]) (by simp [results, Try.results30, go_sem, at_cell HS.out.1]) rfl ⟨_, _, rfl, HS.out.2⟩
    · have HS : Hid _ := new_end k0 d0 z0 hown (w.heap.size + 1 + 1) (w.heap.size + 1) (.inr ⟨rfl, rfl⟩)
      clear k0 d0 hown hmk HW0
      go_wp2_with fail
      exact bodyPost_ret (v := .tuple #[.agg #[.slice (some ⟨w.heap.size + 1 + 1, 0, none⟩) m m, .slice (some ⟨w.heap.size + 1, 0, none⟩) m m], .bool true]) (by simp [results, Try.results30, go_sem, at_cell HS.out.1]) rfl ⟨_, _, rfl, HS.out.2⟩

end Go.Proofs.Ytmejggnjmclefah
