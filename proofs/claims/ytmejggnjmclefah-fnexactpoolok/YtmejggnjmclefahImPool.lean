/-
  Chapter 4: the program's PoolOk, Spare, NewPool and its helpers, at every argument.
-/
import Derived.Test.YtmejggnjmclefahPool2
import Derived.Test.YtmejggnjmclefahRows3
namespace Go.Proofs.Ytmejggnjmclefah
open Go.RowKit
set_option linter.unusedVariables false

theorem pageCountOk_any (n : Int) (w : World) :
    Calls Try.prog 45 #[.int .i64 n] w fun e w' => e = .returned (.bool (decide (1 ≤ n) && decide (n ≤ 24))) ∧ w' = w := by
  by_cases h : (1 : Int) ≤ n
  · go_enter Try.func45, Try.ntmps45
    go_wp2
    go_ret
    exact ⟨ret_bool (by simp [h]), rfl⟩
  · go_enter Try.func45, Try.ntmps45
    go_wp2
    go_ret
    exact ⟨ret_bool (by simp; omega), rfl⟩

theorem valueOk_any (n : Int) (w : World) :
    Calls Try.prog 56 #[.int .i64 n] w fun e w' => e = .returned (.bool (decide (0 ≤ n) && decide (n ≤ 999))) ∧ w' = w := by
  by_cases h : (0 : Int) ≤ n
  · go_enter Try.func56, Try.ntmps56
    go_wp2
    go_ret
    exact ⟨ret_bool (by simp [h]), rfl⟩
  · go_enter Try.func56, Try.ntmps56
    go_wp2
    go_ret
    exact ⟨ret_bool (by simp; omega), rfl⟩

theorem cellOk_any (c p : Int) (w : World) :
    Calls Try.prog 46 #[.int .i64 c, .int .i64 p] w fun e w' => e = .returned (.bool (cellOk c p)) ∧ w' = w := by
  by_cases h1 : c < 0
  · have hv : cellOk c p = false := by simp [cellOk]; omega
    rw [hv]
    go_enter Try.func46, Try.ntmps46
    go_wp2
    go_ret
    exact ⟨rfl, rfl⟩
  by_cases h2 : (400 : Int) < c
  · have hv : cellOk c p = false := by simp [cellOk]; omega
    rw [hv]
    go_enter Try.func46, Try.ntmps46
    go_wp2
    go_ret
    exact ⟨rfl, rfl⟩
  cases hp : (decide (0 ≤ p) && decide (p ≤ 999))
  · have hv : cellOk c p = false := by simp [cellOk, hp]
    rw [hv]
    go_enter Try.func46, Try.ntmps46
    go_wp2_with fail
    refine (valueOk_any _ _).mono ?_
    rintro e w' ⟨rfl, rfl⟩
    rw [hp]
    go_wp2_with fail
    go_ret
    exact ⟨rfl, rfl⟩
  · by_cases h3 : 0 < c
    · have hv : cellOk c p = true := (cellOk_iff c p).2 (by simp at hp; omega)
      rw [hv]
      go_enter Try.func46, Try.ntmps46
      go_wp2_with fail
      refine (valueOk_any _ _).mono ?_
      rintro e w' ⟨rfl, rfl⟩
      rw [hp]
      go_wp2_with fail
      go_ret
      exact ⟨rfl, rfl⟩
    · have hv : cellOk c p = (p == 0) := by
        rw [Bool.eq_iff_iff, cellOk_iff, beq_iff_eq]
        simp at hp; omega
      rw [hv]
      go_enter Try.func46, Try.ntmps46
      go_wp2_with fail
      refine (valueOk_any _ _).mono ?_
      rintro e w' ⟨rfl, rfl⟩
      rw [hp]
      go_wp2_with fail
      go_ret
      have hd : decide (0 < c) = false := by simp; omega
      exact ⟨ret_bool (by simp [hd]), rfl⟩

set_option maxHeartbeats 1600000 in
theorem implPoolOk_any (v1 v2 : Value) (cs ps : List Int) (w : World) (h1 : Reads w.heap.size w v1 (cs.map (Value.int .i64))) (h2 : Reads w.heap.size w v2 (ps.map (Value.int .i64))) :
    Calls Try.prog 28 #[.agg #[v1, v2]] w fun e w' => e = .returned (.bool (poolOk cs ps)) ∧ Below w.heap.size w w' := by
  obtain ⟨o1, cap1, rfl, m1, c1, -⟩ := h1
  obtain ⟨o2, cap2, rfl, m2, c2, -⟩ := h2
  simp only [List.length_map] at m1 m2 ⊢
  have C1 : Hid (∀ j u, (cs.map (Value.int .i64))[j]? = some u → ∃ g off, o1 = some ⟨g, off, none⟩ ∧ g < w.heap.size ∧ w.cell? ⟨g, off + j, none⟩ = some u) := c1
  have C2 : Hid (∀ j u, (ps.map (Value.int .i64))[j]? = some u → ∃ g off, o2 = some ⟨g, off, none⟩ ∧ g < w.heap.size ∧ w.cell? ⟨g, off + j, none⟩ = some u) := c2
  clear c1 c2
  unfold maxLen at m1 m2
  obtain ⟨W0, hW0, k0, d0, z0⟩ := pool_box w (.slice o1 cs.length cap1) (.slice o2 ps.length cap2) 47
  have HW0 : Hid (W0 = _) := hW0
  have p0 := at_cell k0 0
  have p1 := at_cell k0 1
  clear hW0 k0
  by_cases he : ps.length = cs.length
  · have hne : ((cs.length : Int) != (ps.length : Int)) = false := by simp [he]
    have HE : Hid (ps.length = cs.length) := he
    have he1 : ps.length ≤ cs.length := by omega
    have he2 : cs.length ≤ ps.length := by omega
    clear he
    cases hl : (decide ((1 : Int) ≤ (cs.length : Int)) && decide ((cs.length : Int) ≤ 24))
    · have hv : poolOk cs ps = false := poolOk_no cs ps fun q => by simp at hl; omega
      rw [hv]
      go_enter Try.func28, Try.ntmps28
      go_wp2_with fail
      rw [← HW0.out]
      clear HW0
      refine (pageCountOk_any _ _).mono ?_
      rintro e w' ⟨rfl, rfl⟩
      rw [hl]
      go_wp2_with fail
      go_ret
      exact ⟨rfl, d0⟩
    · have hb : 1 ≤ cs.length ∧ cs.length ≤ 24 := by simp at hl; omega
      go_enter Try.func28, Try.ntmps28
      go_wp2_with fail
      rw [← HW0.out]
      clear HW0
      refine (pageCountOk_any _ _).mono ?_
      rintro e w' ⟨rfl, rfl⟩
      rw [hl]
      go_wp2_with fail
      go_loopw [22] (fun i wr => ∃ k : Nat, k ≤ cs.length ∧ i = .int .i64 k ∧ (∀ j, j < k → cellOk (cs.getD j 0) (ps.getD j 0) = true) ∧ wr = w') (fun i _ => cs.length - (intOf i).toNat)
      case atStart => exact ⟨0, Nat.zero_le _, rfl, fun j hj => by omega, rfl⟩
      case round =>
        obtain ⟨k, hk, rfl, hall, rfl⟩ := hrel
        have HA : Hid (∀ j, j < k → cellOk (cs.getD j 0) (ps.getD j 0) = true) := hall
        clear hall
        by_cases hlt : k < cs.length
        · obtain ⟨g1, of1, rfl, q1, cc1⟩ := C1.out k _ (getD_some cs k hlt)
          obtain ⟨g2, of2, rfl, q2, cc2⟩ := C2.out k _ (getD_some ps k (by omega))
          have d1 := (d0.cell (p := ⟨g1, of1 + k, none⟩) q1).trans cc1
          have d2 := (d0.cell (p := ⟨g2, of2 + k, none⟩) q2).trans cc2
          have HN : Hid (cellOk (cs.getD k 0) (ps.getD k 0) = true → ∀ j, j < k + 1 → cellOk (cs.getD j 0) (ps.getD j 0) = true) := fun h j hj => by
            rcases Nat.lt_or_ge j k with q | q
            · exact HA.out j q
            · obtain rfl : j = k := by omega
              exact h
          have HNo : Hid (cellOk (cs.getD k 0) (ps.getD k 0) = false → poolOk cs ps = false) := fun h => poolOk_no cs ps fun q => by rw [q.2.2.2 k hlt] at h; cases h
          clear C1 C2 cc1 cc2 HA
          have hle2 : (k : Int) < (ps.length : Int) := by rw [HE.out]; omega
          generalize cs.getD k 0 = c at *
          generalize ps.getD k 0 = p at *
          go_wp2_with fail
          refine (cellOk_any c p _).mono ?_
          rintro e w1 ⟨rfl, rfl⟩
          cases hc : cellOk c p
          · go_wp2_with fail
            go_ret
            exact ⟨ret_bool (HNo.out hc).symm, d0⟩
          · have HNN : Hid _ := HN.out hc
            go_wp2_with fail
            go_roundw
            case rel => exact ⟨k + 1, by omega, by go_num, HNN.out, by trivial⟩
            case measure => simp [intOf]; omega
        · have hv : poolOk cs ps = true := (poolOk_iff cs ps).2 ⟨hb.1, hb.2, HE.out, fun j hj => HA.out j (by omega)⟩
          go_wp2_with fail
          go_ret
          exact ⟨ret_bool hv.symm, d0⟩
  · have hne : ((cs.length : Int) != (ps.length : Int)) = true := by simp; omega
    have hv : poolOk cs ps = false := poolOk_no cs ps fun q => he q.2.2.1
    rw [hv]
    go_enter Try.func28, Try.ntmps28
    go_wp2_with fail
    rw [← HW0.out]
    clear HW0
    go_wp2_with fail
    go_ret
    exact ⟨rfl, d0⟩

set_option maxHeartbeats 800000 in
theorem implNewPool_any (n : Int) (w : World) :
    Calls Try.prog 31 #[.int .i64 n] w fun e w' => ∃ u1 u2 : Value, e = .returned (.tuple #[.agg #[u1, u2], .bool (newPool n).2]) ∧ OwnP w.heap.size w' u1 u2 (newPool n).1.1 (newPool n).1.2 ∧ Below w.heap.size w w' := by
  obtain ⟨W0, hW0, k0, d0, z0⟩ := pool_box w (.slice none 0 0) (.slice none 0 0) 47
  have HW0 : Hid (W0 = _) := hW0
  have p0 := at_cell k0 0
  have p1 := at_cell k0 1
  have f0 := at_open k0 0
  have f1 := at_open k0 1
  clear hW0
  cases hn : (decide ((1 : Int) ≤ n) && decide (n ≤ 24))
  · have hv : newPool n = (([], []), false) := by
      unfold newPool
      rw [if_neg]
      rintro ⟨h1, h2⟩
      simp [h1, h2] at hn
    rw [hv]
    have HS : Hid _ := pool_end w W0 (.slice none 0 0) (.slice none 0 0) _ _ w.heap.size [] [] (Nat.le_refl _) k0 (OwnP.nil _ _) d0
    clear hv k0
    go_enter Try.func31, Try.ntmps31
    go_wp2_with fail
    rw [← HW0.out]
    refine (pageCountOk_any _ _).mono ?_
    rintro e w' ⟨rfl, rfl⟩
    rw [hn]
    go_wp2_with fail
    exact bodyPost_ret (v := .tuple #[.agg #[.slice none 0 0, .slice none 0 0], .bool false]) (by simp [results, Try.results31, go_sem, at_cell HS.out.1]) rfl ⟨_, _, rfl, HS.out.2⟩
  · have hb : 1 ≤ n ∧ n ≤ 24 := by simpa using hn
    obtain ⟨m, rfl⟩ := Int.eq_ofNat_of_zero_le (show 0 ≤ n by omega)
    have hv : newPool (m : Int) = ((List.replicate m 0, List.replicate m 0), true) := by
      unfold newPool
      rw [if_pos hb, Int.toNat_natCast]
    rw [hv]
    obtain ⟨M, hM, hmk, hown⟩ := made_ints m (by omega)
    clear hv
    go_enter Try.func31, Try.ntmps31
    go_wp2_with fail
    rw [← HW0.out]
    refine (pageCountOk_any _ _).mono ?_
    rintro e w' ⟨rfl, rfl⟩
    rw [hn]
    go_wp2_with fail
    go_region
    · have HS : Hid _ := new_end k0 d0 z0 hown (w.heap.size + 1) (w.heap.size + 1 + 1) (.inl ⟨rfl, rfl⟩)
      clear k0 d0 hown hmk HW0
      go_wp2_with fail
      exact bodyPost_ret (v := .tuple #[.agg #[.slice (some ⟨w.heap.size + 1, 0, none⟩) m m, .slice (some ⟨w.heap.size + 1 + 1, 0, none⟩) m m], .bool true]) (by simp [results, Try.results31, go_sem, at_cell HS.out.1]) rfl ⟨_, _, rfl, HS.out.2⟩
    · have HS : Hid _ := new_end k0 d0 z0 hown (w.heap.size + 1 + 1) (w.heap.size + 1) (.inr ⟨rfl, rfl⟩)
      clear k0 d0 hown hmk HW0
      go_wp2_with fail
      exact bodyPost_ret (v := .tuple #[.agg #[.slice (some ⟨w.heap.size + 1 + 1, 0, none⟩) m m, .slice (some ⟨w.heap.size + 1, 0, none⟩) m m], .bool true]) (by simp [results, Try.results31, go_sem, at_cell HS.out.1]) rfl ⟨_, _, rfl, HS.out.2⟩

theorem with_list (xs : List Int) (k : Nat) (x : Int) (h : k < xs.length) : (xs.take k).map (Value.int .i64) ++ [Value.int .i64 x] ++ (xs.drop (k + 1)).map (Value.int .i64) = (xs.set k x).map (Value.int .i64) := by
  rw [List.set_eq_take_append_cons_drop, if_pos h]
  simp

end Go.Proofs.Ytmejggnjmclefah
