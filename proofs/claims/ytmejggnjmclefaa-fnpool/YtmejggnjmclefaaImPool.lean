/-
  Chapter 4: the program's PoolOk, Spare, NewPool and its helpers, at every argument.
-/
import Derived.Test.YtmejggnjmclefaaPool2
import Derived.Test.YtmejggnjmclefaaRows3
namespace Go.Proofs.Ytmejggnjmclefaa
open Go.RowKit
set_option linter.unusedVariables false

theorem pageCountOk_any (n : Int) (w : World) :
    Calls Try.prog 80 #[.int .i64 n] w fun e w' => e = .returned (.bool (decide (1 ≤ n) && decide (n ≤ 24))) ∧ w' = w := by
  by_cases h : (1 : Int) ≤ n
  · go_enter Try.func80, Try.ntmps80
    go_wp2
    go_ret
    exact ⟨ret_bool (by simp [h]), rfl⟩
  · go_enter Try.func80, Try.ntmps80
    go_wp2
    go_ret
    exact ⟨ret_bool (by simp; omega), rfl⟩

theorem valueOk_any (n : Int) (w : World) :
    Calls Try.prog 77 #[.int .i64 n] w fun e w' => e = .returned (.bool (decide (0 ≤ n) && decide (n ≤ 999))) ∧ w' = w := by
  by_cases h : (0 : Int) ≤ n
  · go_enter Try.func77, Try.ntmps77
    go_wp2
    go_ret
    exact ⟨ret_bool (by simp [h]), rfl⟩
  · go_enter Try.func77, Try.ntmps77
    go_wp2
    go_ret
    exact ⟨ret_bool (by simp; omega), rfl⟩

theorem cellOk_any (c p : Int) (w : World) :
    Calls Try.prog 84 #[.int .i64 c, .int .i64 p] w fun e w' => e = .returned (.bool (cellOk c p)) ∧ w' = w := by
  by_cases h1 : c < 0
  · have hv : cellOk c p = false := by simp [cellOk]; omega
    rw [hv]
    go_enter Try.func84, Try.ntmps84
    go_wp2
    go_ret
    exact ⟨rfl, rfl⟩
  by_cases h2 : (400 : Int) < c
  · have hv : cellOk c p = false := by simp [cellOk]; omega
    rw [hv]
    go_enter Try.func84, Try.ntmps84
    go_wp2
    go_ret
    exact ⟨rfl, rfl⟩
  cases hp : (decide (0 ≤ p) && decide (p ≤ 999))
  · have hv : cellOk c p = false := by simp [cellOk, hp]
    rw [hv]
    go_enter Try.func84, Try.ntmps84
    go_wp2_with fail
    refine (valueOk_any _ _).mono ?_
    rintro e w' ⟨rfl, rfl⟩
    rw [hp]
    go_wp2_with fail
    go_ret
    exact ⟨rfl, rfl⟩
  · by_cases h3 : 0 < c
    · have hv : cellOk c p = true := (cellOk_iff c p).2 (by simp at hp; omega)
      rw [hv]
      go_enter Try.func84, Try.ntmps84
      go_wp2_with fail
      refine (valueOk_any _ _).mono ?_
      rintro e w' ⟨rfl, rfl⟩
      rw [hp]
      go_wp2_with fail
      go_ret
      exact ⟨rfl, rfl⟩
    · have hv : cellOk c p = (p == 0) := by
        rw [Bool.eq_iff_iff, cellOk_iff, beq_iff_eq]
        simp at hp; omega
      rw [hv]
      go_enter Try.func84, Try.ntmps84
      go_wp2_with fail
      refine (valueOk_any _ _).mono ?_
      rintro e w' ⟨rfl, rfl⟩
      rw [hp]
      go_wp2_with fail
      go_ret
      have hd : decide (0 < c) = false := by simp; omega
      exact ⟨ret_bool (by simp [hd]), rfl⟩

set_option maxHeartbeats 1600000 in
theorem implPoolOk_any (v1 v2 : Value) (cs ps : List Int) (w : World) (h1 : Reads w.heap.size w v1 (cs.map (Value.int .i64))) (h2 : Reads w.heap.size w v2 (ps.map (Value.int .i64))) :
    Calls Try.prog 46 #[.agg #[v1, v2]] w fun e w' => e = .returned (.bool (poolOk cs ps)) ∧ Below w.heap.size w w' := by
  obtain ⟨o1, cap1, rfl, m1, c1, -⟩ := h1
  obtain ⟨o2, cap2, rfl, m2, c2, -⟩ := h2
  simp only [List.length_map] at m1 m2 ⊢
  have C1 : Hid (∀ j u, (cs.map (Value.int .i64))[j]? = some u → ∃ g off, o1 = some ⟨g, off, none⟩ ∧ g < w.heap.size ∧ w.cell? ⟨g, off + j, none⟩ = some u) := c1
  have C2 : Hid (∀ j u, (ps.map (Value.int .i64))[j]? = some u → ∃ g off, o2 = some ⟨g, off, none⟩ ∧ g < w.heap.size ∧ w.cell? ⟨g, off + j, none⟩ = some u) := c2
  clear c1 c2
  unfold maxLen at m1 m2
  obtain ⟨W0, hW0, k0, d0, z0⟩ := pool_box w (.slice o1 cs.length cap1) (.slice o2 ps.length cap2) 55
  have HW0 : Hid (W0 = _) := hW0
  have p0 := at_cell k0 0
  have p1 := at_cell k0 1
  clear hW0 k0
  by_cases he : ps.length = cs.length
  · have hne : ((cs.length : Int) != (ps.length : Int)) = false := by simp [he]
    have HE : Hid (ps.length = cs.length) := he
    have he1 : ps.length ≤ cs.length := by omega
    have he2 : cs.length ≤ ps.length := by omega
    clear he
    cases hl : (decide ((1 : Int) ≤ (cs.length : Int)) && decide ((cs.length : Int) ≤ 24))
    · have hv : poolOk cs ps = false := poolOk_no cs ps fun q => by simp at hl; omega
      rw [hv]
      go_enter Try.func46, Try.ntmps46
      go_wp2_with fail
      rw [← HW0.out]
      clear HW0
      refine (pageCountOk_any _ _).mono ?_
      rintro e w' ⟨rfl, rfl⟩
      rw [hl]
      go_wp2_with fail
      go_ret
      exact ⟨rfl, d0⟩
    · have hb : 1 ≤ cs.length ∧ cs.length ≤ 24 := by simp at hl; omega
      go_enter Try.func46, Try.ntmps46
      go_wp2_with fail
      rw [← HW0.out]
      clear HW0
      refine (pageCountOk_any _ _).mono ?_
      rintro e w' ⟨rfl, rfl⟩
      rw [hl]
      go_wp2_with fail
      go_loopw [22] (fun i wr => ∃ k : Nat, k ≤ cs.length ∧ i = .int .i64 k ∧ (∀ j, j < k → cellOk (cs.getD j 0) (ps.getD j 0) = true) ∧ wr = w') (fun i _ => cs.length - (intOf i).toNat)
      case atStart => exact ⟨0, Nat.zero_le _, rfl, fun j hj => by omega, rfl⟩
      case round =>
        obtain ⟨k, hk, rfl, hall, rfl⟩ := hrel
        have HA : Hid (∀ j, j < k → cellOk (cs.getD j 0) (ps.getD j 0) = true) := hall
        clear hall
        by_cases hlt : k < cs.length
        · obtain ⟨g1, of1, rfl, q1, cc1⟩ := C1.out k _ (getD_some cs k hlt)
          obtain ⟨g2, of2, rfl, q2, cc2⟩ := C2.out k _ (getD_some ps k (by omega))
          have d1 := (d0.cell (p := ⟨g1, of1 + k, none⟩) q1).trans cc1
          have d2 := (d0.cell (p := ⟨g2, of2 + k, none⟩) q2).trans cc2
          have HN : Hid (cellOk (cs.getD k 0) (ps.getD k 0) = true → ∀ j, j < k + 1 → cellOk (cs.getD j 0) (ps.getD j 0) = true) := fun h j hj => by
            rcases Nat.lt_or_ge j k with q | q
            · exact HA.out j q
            · obtain rfl : j = k := by omega
              exact h
          have HNo : Hid (cellOk (cs.getD k 0) (ps.getD k 0) = false → poolOk cs ps = false) := fun h => poolOk_no cs ps fun q => by rw [q.2.2.2 k hlt] at h; cases h
          clear C1 C2 cc1 cc2 HA
          have hle2 : (k : Int) < (ps.length : Int) := by rw [HE.out]; omega
          generalize cs.getD k 0 = c at *
          generalize ps.getD k 0 = p at *
          go_wp2_with fail
          refine (cellOk_any c p _).mono ?_
          rintro e w1 ⟨rfl, rfl⟩
          cases hc : cellOk c p
          · go_wp2_with fail
            go_ret
            exact ⟨ret_bool (HNo.out hc).symm, d0⟩
          · have HNN : Hid _ := HN.out hc
            go_wp2_with fail
            go_roundw
            case rel => exact ⟨k + 1, by omega, by go_num, HNN.out, by trivial⟩
            case measure => simp [intOf]; omega
        · have hv : poolOk cs ps = true := (poolOk_iff cs ps).2 ⟨hb.1, hb.2, HE.out, fun j hj => HA.out j (by omega)⟩
          go_wp2_with fail
          go_ret
          exact ⟨ret_bool hv.symm, d0⟩
  · have hne : ((cs.length : Int) != (ps.length : Int)) = true := by simp; omega
    have hv : poolOk cs ps = false := poolOk_no cs ps fun q => he q.2.2.1
    rw [hv]
    go_enter Try.func46, Try.ntmps46
    go_wp2_with fail
    rw [← HW0.out]
    clear HW0
    go_wp2_with fail
    go_ret
    exact ⟨rfl, d0⟩

set_option maxHeartbeats 800000 in
theorem implSpare_any (v1 v2 : Value) (cs ps : List Int) (w : World) (h1 : Reads w.heap.size w v1 (cs.map (Value.int .i64))) (h2 : Reads w.heap.size w v2 (ps.map (Value.int .i64))) :
    Calls Try.prog 48 #[.agg #[v1, v2]] w fun e w' => e = .returned (.int .i64 (spare cs ps)) ∧ Below w.heap.size w w' := by
  obtain ⟨W0, hW0, k0, d0, z0⟩ := pool_box w v1 v2 55
  have r1 := (h1.below d0).mono d0.size
  have r2 := (h2.below d0).mono d0.size
  have p0 := at_cell k0 0
  have p1 := at_cell k0 1
  have HW0 : Hid (W0 = _) := hW0
  clear hW0 h1 h2
  go_enter Try.func48, Try.ntmps48
  go_wp2_with fail
  rw [← HW0.out]
  clear HW0
  refine (implPoolOk_any v1 v2 cs ps _ r1 r2).mono ?_
  rintro e w1 ⟨rfl, b1⟩
  replace k0 := (b1.block _ (by omega)).trans k0
  have r3 := (r1.below b1)
  replace d0 := bw_call d0 b1
  clear p0 p1 r1 r2
  cases hok : poolOk cs ps
  · have HV : Hid (spare cs ps = -1) := by simp [Hid, spare, hok]
    go_wp2_with fail
    go_ret
    exact ⟨ret_int HV.out.symm, d0⟩
  · have hv : spare cs ps = zeros cs := by simp [spare, hok]
    have HV : Hid (spare cs ps = zeros cs) := hv
    have hb : cs.length ≤ 24 := ((poolOk_iff cs ps).1 hok).2.1
    obtain ⟨o1, cap1, rfl, m1, c1, -⟩ := r3
    have hl : (cs.map (Value.int .i64)).length = cs.length := by simp
    rw [hl] at k0 ⊢
    have C1 : Hid (∀ j u, (cs.map (Value.int .i64))[j]? = some u → ∃ g off, o1 = some ⟨g, off, none⟩ ∧ g < W0.heap.size ∧ w1.cell? ⟨g, off + j, none⟩ = some u) := c1
    have p0 := at_cell k0 0
    clear c1 hl m1 hv hok
    go_wp2_with fail
    go_loopw [3, 12] (fun n i wr => ∃ k : Nat, k ≤ cs.length ∧ i = .int .i64 k ∧ n = .int .i64 (zeros (cs.take k)) ∧ wr = w1) (fun _ i _ => cs.length - (intOf i).toNat)
    case atStart => exact ⟨0, Nat.zero_le _, rfl, rfl, rfl⟩
    case round =>
      obtain ⟨k, hk, rfl, rfl, rfl⟩ := hrel
      by_cases hlt : k < cs.length
      · obtain ⟨g1, of1, rfl, q1, cc1⟩ := C1.out k _ (getD_some cs k hlt)
        have HZ := zeros_step cs k hlt
        have hzl := zeros_le cs k
        generalize cs.getD k 0 = c at cc1 HZ
        generalize zeros (cs.take k) = z at HZ hzl ⊢
        by_cases hc : c = 0
        · rw [if_pos hc] at HZ
          have HZ2 : Hid _ := HZ
          subst hc
          clear HZ C1
          go_wp2_with fail
          go_roundw
          case rel => exact ⟨k + 1, by omega, by go_num, by rw [HZ2.out]; go_num, by trivial⟩
          case measure => simp [intOf]; omega
        · rw [if_neg hc] at HZ
          have HZ2 : Hid _ := HZ
          have hc1 : (c == 0) = false := by simpa using hc
          clear HZ C1
          go_wp2_with fail
          go_roundw
          case rel => exact ⟨k + 1, by omega, by go_num, by rw [HZ2.out]; go_num, by trivial⟩
          case measure => simp [intOf]; omega
      · have hfin : cs.take k = cs := List.take_of_length_le (by omega)
        rw [hfin]
        go_wp2_with fail
        go_ret
        exact ⟨ret_int HV.out.symm, d0⟩

set_option maxHeartbeats 800000 in
theorem implNewPool_any (n : Int) (w : World) :
    Calls Try.prog 43 #[.int .i64 n] w fun e w' => ∃ u1 u2 : Value, e = .returned (.tuple #[.agg #[u1, u2], .bool (newPool n).2]) ∧ OwnP w.heap.size w' u1 u2 (newPool n).1.1 (newPool n).1.2 ∧ Below w.heap.size w w' := by
  obtain ⟨W0, hW0, k0, d0, z0⟩ := pool_box w (.slice none 0 0) (.slice none 0 0) 55
  have HW0 : Hid (W0 = _) := hW0
  have p0 := at_cell k0 0
  have p1 := at_cell k0 1
  have f0 := at_open k0 0
  have f1 := at_open k0 1
  clear hW0
  cases hn : (decide ((1 : Int) ≤ n) && decide (n ≤ 24))
  · have hv : newPool n = (([], []), false) := by
      unfold newPool
      rw [if_neg]
      rintro ⟨h1, h2⟩
      simp [h1, h2] at hn
    rw [hv]
    have HS : Hid _ := pool_end w W0 (.slice none 0 0) (.slice none 0 0) _ _ w.heap.size [] [] (Nat.le_refl _) k0 (OwnP.nil _ _) d0
    clear hv k0
    go_enter Try.func43, Try.ntmps43
    go_wp2_with fail
    rw [← HW0.out]
    refine (pageCountOk_any _ _).mono ?_
    rintro e w' ⟨rfl, rfl⟩
    rw [hn]
    go_wp2_with fail
    exact bodyPost_ret (v := .tuple #[.agg #[.slice none 0 0, .slice none 0 0], .bool false]) (by simp [results, Try.results43, go_sem, at_cell HS.out.1]) rfl ⟨_, _, rfl, HS.out.2⟩
  · have hb : 1 ≤ n ∧ n ≤ 24 := by simpa using hn
    obtain ⟨m, rfl⟩ := Int.eq_ofNat_of_zero_le (show 0 ≤ n by omega)
    have hv : newPool (m : Int) = ((List.replicate m 0, List.replicate m 0), true) := by
      unfold newPool
      rw [if_pos hb, Int.toNat_natCast]
    rw [hv]
    obtain ⟨M, hM, hmk, hown⟩ := made_ints m (by omega)
    clear hv
    go_enter Try.func43, Try.ntmps43
    go_wp2_with fail
    rw [← HW0.out]
    refine (pageCountOk_any _ _).mono ?_
    rintro e w' ⟨rfl, rfl⟩
    rw [hn]
    go_wp2_with fail
    go_region
    · have HS : Hid _ := new_end k0 d0 z0 hown (w.heap.size + 1) (w.heap.size + 1 + 1) (.inl ⟨rfl, rfl⟩)
      clear k0 d0 hown hmk HW0
      go_wp2_with fail
      exact bodyPost_ret (v := .tuple #[.agg #[.slice (some ⟨w.heap.size + 1, 0, none⟩) m m, .slice (some ⟨w.heap.size + 1 + 1, 0, none⟩) m m], .bool true]) (by simp [results, Try.results43, go_sem, at_cell HS.out.1]) rfl ⟨_, _, rfl, HS.out.2⟩
    · have HS : Hid _ := new_end k0 d0 z0 hown (w.heap.size + 1 + 1) (w.heap.size + 1) (.inr ⟨rfl, rfl⟩)
      clear k0 d0 hown hmk HW0
      go_wp2_with fail
      exact bodyPost_ret (v := .tuple #[.agg #[.slice (some ⟨w.heap.size + 1 + 1, 0, none⟩) m m, .slice (some ⟨w.heap.size + 1, 0, none⟩) m m], .bool true]) (by simp [results, Try.results43, go_sem, at_cell HS.out.1]) rfl ⟨_, _, rfl, HS.out.2⟩

set_option maxHeartbeats 800000 in
theorem index_any (v : Value) (cs : List Int) (w : World) (h1 : Reads w.heap.size w v (cs.map (Value.int .i64))) :
    Calls Try.prog 76 #[v, .int .i64 0] w fun e w' => e = .returned (.int .i64 (tookAt cs)) ∧ w' = w := by
  obtain ⟨o1, cap1, rfl, m1, c1, -⟩ := h1
  simp only [List.length_map] at m1 ⊢
  have C1 : Hid (∀ j u, (cs.map (Value.int .i64))[j]? = some u → ∃ g off, o1 = some ⟨g, off, none⟩ ∧ g < w.heap.size ∧ w.cell? ⟨g, off + j, none⟩ = some u) := c1
  unfold maxLen at m1
  clear c1
  go_enter Try.func76, Try.ntmps76
  go_wp2_with fail
  go_loopw [8] (fun i wr => ∃ k : Nat, k ≤ cs.length ∧ i = .int .i64 k ∧ (∀ j, j < k → cs.getD j 0 ≠ 0) ∧ wr = w) (fun i _ => cs.length - (intOf i).toNat)
  case atStart => exact ⟨0, Nat.zero_le _, rfl, fun j hj => by omega, rfl⟩
  case round =>
    obtain ⟨q, hq, rfl, hall, rfl⟩ := hrel
    have HA : Hid (∀ j, j < q → cs.getD j 0 ≠ 0) := hall
    clear hall
    by_cases hlt : q < cs.length
    · obtain ⟨g1, of1, rfl, q1, cc1⟩ := C1.out q _ (getD_some cs q hlt)
      clear C1
      by_cases hz : cs.getD q 0 = 0
      · have hf := firstFree_eq cs q hlt hz HA.out
        have HR : Hid (tookAt cs = q) := by rw [Hid, tookAt, hf, if_pos hlt]
        rw [hz] at cc1
        clear hf hz HA
        go_wp2_with fail
        go_ret
        exact ⟨ret_int HR.out.symm, rfl⟩
      · have HNN : Hid (∀ j, j < q + 1 → cs.getD j 0 ≠ 0) := fun j hj => by
          rcases Nat.lt_or_ge j q with r | r
          · exact HA.out j r
          · obtain rfl : j = q := by omega
            exact hz
        have hz1 : ((0 : Int) == cs.getD q 0) = false := by rw [beq_eq_false_iff_ne]; exact fun h => hz h.symm
        clear HA
        generalize cs.getD q 0 = x at cc1 hz1 hz
        go_wp2_with fail
        go_roundw
        case rel => exact ⟨q + 1, by omega, by go_num, HNN.out, by trivial⟩
        case measure => simp [intOf]; omega
    · have hf := firstFree_none cs (fun j hj => HA.out j (by omega))
      have HR : Hid (tookAt cs = -1) := by rw [Hid, tookAt, hf, if_neg (by omega)]
      clear hf HA C1
      go_wp2_with fail
      go_ret
      exact ⟨ret_int HR.out.symm, rfl⟩

theorem countAt_any (v1 v2 : Value) (cs : List Int) (at_ : Int) (w : World) (h1 : Reads w.heap.size w v1 (cs.map (Value.int .i64))) :
    Calls Try.prog 85 #[.agg #[v1, v2], .int .i64 at_] w fun e w' => e = .returned (.int .i64 (countAt cs at_)) ∧ Below w.heap.size w w' := by
  obtain ⟨o1, cap1, rfl, m1, c1, -⟩ := h1
  simp only [List.length_map] at m1 ⊢
  unfold maxLen at m1
  by_cases h0 : 0 ≤ at_
  · by_cases hlt : at_ < (cs.length : Int)
    · obtain ⟨k, rfl⟩ := Int.eq_ofNat_of_zero_le h0
      have hk : k < cs.length := by omega
      have hv : countAt cs (k : Int) = cs.getD k 0 := countAt_of cs k hk
      rw [hv]
      obtain ⟨g1, of1, rfl, q1, cc1⟩ := c1 k _ (getD_some cs k hk)
      have hne : ¬ g1 = w.heap.size := by omega
      clear c1 hv
      generalize cs.getD k 0 = c at *
      go_enter Try.func85, Try.ntmps85
      go_wp2_with fail
      go_ret
      exact ⟨rfl, bw_alloc (Below.refl _ _)⟩
    · have hv : countAt cs at_ = 0 := by unfold countAt; rw [if_neg (by omega)]
      rw [hv]
      clear c1 hv
      go_enter Try.func85, Try.ntmps85
      go_wp2_with fail
      go_ret
      exact ⟨rfl, bw_alloc (Below.refl _ _)⟩
  · have hv : countAt cs at_ = 0 := by unfold countAt; rw [if_neg (by omega)]
    rw [hv]
    clear c1 hv
    go_enter Try.func85, Try.ntmps85
    go_wp2_with fail
    go_ret
    exact ⟨rfl, bw_alloc (Below.refl _ _)⟩

set_option maxHeartbeats 800000 in
theorem sameNumbers_any (v : Value) (xs : List Int) (w : World) (hn : xs.length ≤ 1048576) (h : Reads w.heap.size w v (xs.map (Value.int .i64))) :
    Calls Try.prog 91 #[v] w fun e w' => ∃ v' : Value, e = .returned v' ∧ w'.ownsRow w.heap.size 2 1 v' xs.length (xs.map (Value.int .i64)) ∧ v' ≠ .slice none 0 0 ∧ Below w.heap.size w w' := by
  obtain ⟨i0, hi, hz0, hz1, hz2⟩ := info_parts Try.infoI64
  obtain ⟨o, cap, rfl, hm, hc, hroom⟩ := h
  have hl : (xs.map (Value.int .i64)).length = xs.length := by simp
  rw [hl] at hm ⊢
  obtain ⟨M, hM, hmk, hown⟩ := made_ints xs.length hn
  have own0 := hown w w.heap.size (Nat.le_refl _)
  have d0 : Below w.heap.size w (w.alloc (.cells M 2)) := bw_alloc (Below.refl _ _)
  have HC : Hid (∀ j u, (xs.map (Value.int .i64))[j]? = some u → ∃ g off, o = some ⟨g, off, none⟩ ∧ (w.alloc (.cells M 2)).cell? ⟨g, off + j, none⟩ = some u) := fun j u hj => by
    obtain ⟨g, off, e, hg, hx⟩ := hc j u hj
    exact ⟨g, off, e, (d0.cell (p := ⟨g, off + j, none⟩) hg).trans hx⟩
  obtain ⟨w', hrun, hown2, hu⟩ := run_copy_all (P := Try.prog) (w.alloc (.cells M 2)) 53 3 2 Try.underlying53 (by rw [hi]; simp [hz1]) w.heap.size w.heap.size xs.length xs.length _ (xs.map (Value.int .i64)) own0 o cap hl HC.out (fun u hu => by simp at hu; obtain ⟨a, _, rfl⟩ := hu; rfl)
  have hb : Below w.heap.size w w' := d0.trans (hu.toBelow (by simp) (Nat.le_refl _))
  have HO : Hid _ := hown2
  clear own0 d0 HC hu hc hl hown hM hown2
  have hm8 : xs.length ≤ 9223372036854775807 := by omega
  go_enter Try.func91, Try.ntmps91
  go_wp2_with fail
  go_ret
  exact ⟨_, rfl, HO.out, by simp, hb⟩

theorem with_list (xs : List Int) (k : Nat) (x : Int) (h : k < xs.length) : (xs.take k).map (Value.int .i64) ++ [Value.int .i64 x] ++ (xs.drop (k + 1)).map (Value.int .i64) = (xs.set k x).map (Value.int .i64) := by
  rw [List.set_eq_take_append_cons_drop, if_pos h]
  simp

set_option maxHeartbeats 1600000 in
theorem withNumber_any (v : Value) (xs : List Int) (k : Nat) (x : Int) (w : World) (hk : k < xs.length) (hn : xs.length ≤ 1048576) (h : Reads w.heap.size w v (xs.map (Value.int .i64))) :
    Calls Try.prog 92 #[v, .int .i64 k, .int .i64 x] w fun e w' => ∃ v' : Value, e = .returned v' ∧ w'.ownsRow w.heap.size 2 1 v' (xs.set k x).length ((xs.set k x).map (Value.int .i64)) ∧ v' ≠ .slice none 0 0 ∧ Below w.heap.size w w' := by
  obtain ⟨i0, hi, hz0, hz1, hz2⟩ := info_parts Try.infoI64
  obtain ⟨o, cap, rfl, hm, hc, hroom⟩ := h
  have hl : (xs.map (Value.int .i64)).length = xs.length := by simp
  rw [hl] at hm ⊢
  have hc0 : ∃ g off, o = some ⟨g, off, none⟩ ∧ g < w.heap.size := by
    obtain ⟨g, off, e, hg, _⟩ := hc k _ (getD_some xs k hk)
    exact ⟨g, off, e, hg⟩
  obtain ⟨g, off, rfl, hg⟩ := hc0
  have hcell : ∀ j u, (xs.map (Value.int .i64))[j]? = some u → w.cell? ⟨g, off + j, none⟩ = some u := fun j u hj => by
    obtain ⟨g', off', e, _, hx⟩ := hc j u hj
    cases e
    exact hx
  rw [hl] at hroom
  clear hc
  have j0 : (0 : Int) ≤ (k : Int) := by omega
  have j1 : (k : Int) < (xs.length : Int) := by omega
  have j2 : (k : Int) + 1 ≤ (xs.length : Int) := by omega
  have j3 : (k : Int) ≤ (cap : Int) := by omega
  have j4 : k ≤ cap := by omega
  obtain ⟨A, hA⟩ : ∃ A, A = (xs.take k).map (Value.int .i64) := ⟨_, rfl⟩
  obtain ⟨D, hD⟩ : ∃ D, D = (xs.drop (k + 1)).map (Value.int .i64) := ⟨_, rfl⟩
  have HLEN : Hid (A.length = k * 1) := by rw [Hid, hA]; simp; omega
  have HLEN2 : Hid (D.length = (xs.length - (k + 1)) * 1) := by rw [Hid, hD]; simp
  have HI : Hid (∀ u ∈ D, u.oneCell' = true) := fun u hu => by rw [hD, List.mem_map] at hu; obtain ⟨a, _, rfl⟩ := hu; rfl
  have HWL : Hid (A ++ [Value.int .i64 x] ++ D = (xs.set k x).map (Value.int .i64)) := by rw [Hid, hA, hD]; exact with_list xs k x hk
  have hA1 : ∀ j u, A[j]? = some u → w.cell? ⟨g, off + j, none⟩ = some u := fun j u hj => by
    refine hcell j u ?_
    rw [hA, List.map_take, List.getElem?_take] at hj
    split at hj
    · exact hj
    · cases hj
  have hD1 : ∀ j u, D[j]? = some u → w.cell? ⟨g, off + (k + 1) + j, none⟩ = some u := fun j u hj => by
    rw [Nat.add_assoc]
    refine hcell _ u ?_
    rwa [hD, List.map_drop, List.getElem?_drop] at hj
  have d0 : Below w.heap.size w (w.alloc (.cells #[.int .i64 x] 2)) := bw_alloc (Below.refl _ _)
  have HOLD : Hid (∀ j u, A[j]? = some u → (w.alloc (.cells #[.int .i64 x] 2)).cell? ((⟨g, off, none⟩ : Addr).add j) = some u) := cells_add fun j u hj => (d0.cell (p := ⟨g, off + j, none⟩) hg).trans (hA1 j u hj)
  have HNEW : Hid (∀ j u, [Value.int .i64 x][j]? = some u → (w.alloc (.cells #[.int .i64 x] 2)).cell? ((⟨w.heap.size, 0, none⟩ : Addr).add j) = some u) := new_one _ _ _
  have HM1 : Hid (k + 1 ≤ maxLen) := by unfold maxLen at hm; rw [Hid]; unfold maxLen; omega
  have HB1 : Hid ((k + 1) * 8 ≤ 140737488355328) := by rw [Hid]; omega
  have HG : Hid (k < k + 1) := Nat.lt_succ_self k
  have HBS : Hid (w.heap.size ≤ (w.alloc (.cells #[.int .i64 x] 2)).heap.size) := by rw [Hid]; simp
  have HD1 : Hid _ := hD1
  clear hA hD hA1 hD1 hcell
  go_enter Try.func92, Try.ntmps92
  go_wp2_with (at_builtin; refine wpList_append_full rfl _ _ 53 rfl w.heap.size 2 i0 (.int .i64 0) 1 8 Try.underlying53 hi hz0 hz1 hz2 rfl ⟨g, off, none⟩ k k A rfl HLEN.out HOLD.out ⟨w.heap.size, 0, none⟩ 1 1 [.int .i64 x] rfl rfl HNEW.out HG.out HM1.out HB1.out HBS.out ?_)
  intro v5 w5 own5 grow5 nn5
  have OWN5 : Hid (w5.ownsRow w.heap.size 2 1 v5 (k + 1) (A ++ [Value.int .i64 x])) := own5
  have d5 : Below w.heap.size w w5 := d0.grown grow5 (by simp) (fun q hq => by cases hq)
  have NN5 : Hid (v5 ≠ .slice none 0 0) := nn5
  obtain ⟨o5, c5, rfl⟩ := own_slice own5
  clear own5 grow5 nn5 HOLD HNEW HLEN HM1 HB1 HG HBS d0
  have HM2 : Hid (k + 1 + (xs.length - (k + 1)) ≤ maxLen) := by unfold maxLen at hm; rw [Hid]; unfold maxLen; omega
  have HB2 : Hid ((k + 1 + (xs.length - (k + 1))) * 8 ≤ 140737488355328) := by rw [Hid]; omega
  have HSRC : Hid (∀ (ad : Option Addr), (k + 1 < xs.length → ad = some ⟨g, off + (k + 1), none⟩) → ∀ j u, D[j]? = some u → ∃ g off, ad = some ⟨g, off, none⟩ ∧ w5.cell? ⟨g, off + j, none⟩ = some u) := fun ad had j u hj => by
    have hj' := (List.getElem?_eq_some_iff.1 hj).1
    have hDl := HLEN2.out
    exact ⟨g, off + (k + 1), had (by omega), (d5.cell (p := ⟨g, off + (k + 1) + j, none⟩) hg).trans (HD1.out j u hj)⟩
  have HFIN : Hid (∀ (v6 : Value) (w6 : World), w6.ownsRow w.heap.size 2 1 v6 (k + 1 + (xs.length - (k + 1))) (A ++ [Value.int .i64 x] ++ D) → w6.ownsRow w.heap.size 2 1 v6 (xs.set k x).length ((xs.set k x).map (Value.int .i64))) := fun v6 w6 h => by
    rw [HWL.out] at h
    rw [List.length_set]
    rwa [show k + 1 + (xs.length - (k + 1)) = xs.length by omega] at h
  have HBS : Hid (w.heap.size ≤ w5.heap.size) := d5.size
  by_cases hcap : k + 1 = cap
  · subst hcap
    have hx1 : xs.length ≤ k + 1 := by omega
    have HE0 : Hid (xs.length - (k + 1) = 0) := by rw [Hid]; omega
    have HLEN3 : Hid (D.length = 0 * 1) := by rw [Hid, HLEN2.out, HE0.out]
    have HSRC3 : Hid (∀ j u, D[j]? = some u → ∃ g' off', some (⟨g, off, none⟩ : Addr) = some ⟨g', off', none⟩ ∧ w5.cell? ⟨g', off' + j, none⟩ = some u) := HSRC.out _ (fun h => by omega)
    have HM3 : Hid (k + 1 + 0 ≤ maxLen) := by have := HM2.out; rwa [HE0.out] at this
    have HB3 : Hid ((k + 1 + 0) * 8 ≤ 140737488355328) := by have := HB2.out; rwa [HE0.out] at this
    have HFIN3 : Hid (∀ (v6 : Value) (w6 : World), w6.ownsRow w.heap.size 2 1 v6 (k + 1 + 0) (A ++ [Value.int .i64 x] ++ D) → w6.ownsRow w.heap.size 2 1 v6 (xs.set k x).length ((xs.set k x).map (Value.int .i64))) := by have := HFIN.out; rwa [HE0.out] at this
    clear HSRC HLEN2 HM2 HB2 HFIN
    go_wp2_with (at_builtin; refine wpList_append_reads rfl _ _ 53 rfl w.heap.size 2 i0 (.int .i64 0) 1 8 Try.underlying53 hi hz0 hz1 hz2 rfl (by decide) (.slice o5 (k + 1) c5) (k + 1) (A ++ [Value.int .i64 x]) rfl OWN5.out (some ⟨g, off, none⟩) 0 0 D rfl HLEN3.out HSRC3.out HI.out HM3.out HB3.out HBS.out ?_)
    intro v6 w6 own6 grow6 nil6
    have HO : Hid _ := HFIN3.out v6 w6 (by simpa using own6)
    have d6 : Below w.heap.size w w6 := d5.grown grow6 HBS.out (fun q hq => (OWN5.out.lt q hq).1)
    have NN6 : Hid (v6 ≠ .slice none 0 0) := nil6
    clear own6 grow6 nil6
    go_wp2_with fail
    go_ret
    exact ⟨v6, rfl, HO.out, NN6.out, d6⟩
  · have hc1 : k + 1 < cap := by omega
    have hc2 : ¬ k + 1 = cap := hcap
    have HSRC3 : Hid (∀ j u, D[j]? = some u → ∃ g' off', some (⟨g, off + (k + 1), none⟩ : Addr) = some ⟨g', off', none⟩ ∧ w5.cell? ⟨g', off' + j, none⟩ = some u) := HSRC.out _ (fun _ => rfl)
    clear HSRC
    go_wp2_with (at_builtin; refine wpList_append_reads rfl _ _ 53 rfl w.heap.size 2 i0 (.int .i64 0) 1 8 Try.underlying53 hi hz0 hz1 hz2 rfl (by decide) (.slice o5 (k + 1) c5) (k + 1) (A ++ [Value.int .i64 x]) rfl OWN5.out (some ⟨g, off + (k + 1), none⟩) (xs.length - (k + 1)) (cap - (k + 1)) D rfl HLEN2.out HSRC3.out HI.out HM2.out HB2.out HBS.out ?_)
    intro v6 w6 own6 grow6 nil6
    have HO : Hid _ := HFIN.out v6 w6 (by simpa using own6)
    have d6 : Below w.heap.size w w6 := d5.grown grow6 HBS.out (fun q hq => (OWN5.out.lt q hq).1)
    have NN6 : Hid (v6 ≠ .slice none 0 0) := nil6
    clear own6 grow6 nil6
    go_wp2_with fail
    go_ret
    exact ⟨v6, rfl, HO.out, NN6.out, d6⟩

end Go.Proofs.Ytmejggnjmclefaa
