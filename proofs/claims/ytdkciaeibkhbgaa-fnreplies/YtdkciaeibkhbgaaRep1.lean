/-
  Chapter 10: the specification's ReplyOk, ShowReply and ReadReply, at every argument.
-/
import Derived.Test.YtdkciaeibkhbgaaRepM
import Derived.Test.YtdkciaeibkhbgaaBytes
import Derived.Test.YtdkciaeibkhbgaaRows2
import Derived.Test.YtdkciaeibkhbgaaChap1
import Derived.Test.YtdkciaeibkhbgaaSetAt
import Derived.Test.YtdkciaeibkhbgaaMapM
namespace Go.Proofs.Ytdkciaeibkhbgaa
open Go.RowKit
set_option linter.unusedVariables false
set_option maxRecDepth 100000

theorem specReplyOk_any (c v : Int) (w : World) :
    Calls Try.prog 22 #[.agg #[.int .i64 c, .int .i64 v]] w fun e w' => e = .returned (.bool (repOk c v)) ∧ Below w.heap.size w w' := by
  obtain ⟨W0, hW0, k0, d0, z0⟩ := box1 w #[.int .i64 c, .int .i64 v] 42
  have HW0 : Hid (W0 = _) := hW0
  have p0 := at_cell k0 0
  have p1 := at_cell k0 1
  have HB : Hid (repOk c v = (inB c 0 9 && inB v 0 1000 && (decide (c = 0) || decide (v = 0)))) := rfl
  clear hW0 k0
  go_enter Try.func22, Try.ntmps22
  go_wp2_with fail
  rw [← HW0.out]
  clear HW0
  refine (l1In_any c 0 9 _).mono ?_
  rintro e w' ⟨rfl, rfl⟩
  have HI : Hid (inB c 0 9 = (decide (0 ≤ c) && decide (c ≤ 9))) := rfl
  rw [← HI.out]
  generalize inB c 0 9 = b0 at *
  cases b0
  · go_wp2_with fail
    go_ret
    exact ⟨ret_bool (by rw [HB.out]; rfl), d0⟩
  go_wp2_with fail
  refine (l1In_any v 0 1000 _).mono ?_
  rintro e w' ⟨rfl, rfl⟩
  have HI2 : Hid (inB v 0 1000 = (decide (0 ≤ v) && decide (v ≤ 1000))) := rfl
  rw [← HI2.out]
  generalize inB v 0 1000 = b1 at *
  cases b1
  · go_wp2_with fail
    go_ret
    exact ⟨ret_bool (by rw [HB.out]; rfl), d0⟩
  clear HI HI2
  by_cases h0 : c = 0
  · subst h0
    go_wp2_with fail
    go_ret
    exact ⟨ret_bool (by rw [HB.out]; rfl), d0⟩
  · go_wp2_with fail
    go_ret
    exact ⟨ret_bool (by rw [HB.out, Bool.eq_iff_iff]; simp [h0]), d0⟩

theorem specShowReply_any (c v : Int) (w : World) :
    Calls Try.prog 20 #[.agg #[.int .i64 c, .int .i64 v]] w fun e w' => e = .returned (.string (showRep c v)) ∧ Below w.heap.size w w' := by
  obtain ⟨W0, hW0, k0, d0, z0⟩ := box1 w #[.int .i64 c, .int .i64 v] 42
  have HW0 : Hid (W0 = _) := hW0
  have s0 := heap_lt k0
  clear hW0 z0
  go_enter Try.func20, Try.ntmps20
  go_wp2_with fail
  rw [← HW0.out]
  clear HW0
  refine (specReplyOk_any c v _).mono ?_
  rintro e w1 ⟨rfl, b1⟩
  replace k0 := (b1.block _ s0).trans k0
  replace d0 := bw_call d0 b1
  have t0 := heap_lt k0
  clear b1
  cases h : repOk c v
  · have HV : Hid (showRep c v = ByteArray.empty) := by rw [Hid, showRep, if_neg (by rw [h]; decide)]
    clear h
    go_wp2_with fail
    go_ret
    exact ⟨by rw [HV.out]; rfl, d0⟩
  · obtain ⟨hc, hv⟩ := repOk_bd c v h
    have HE : Hid (showRep c v = Nums.showS c 1 ++ Nums.showS v 2) := by rw [Hid, showRep, if_pos h]; rfl
    have q0 := BelowOf.cell (v := .int .i64 c) (at_cell k0 0) t0
    have q1 := BelowOf.cell (v := .int .i64 v) (at_cell k0 1) t0
    have hne := BelowOf.any w1
    have H1 : ∀ q : BelowOf w1, Calls Try.prog 42 #[.int .i64 c, .int .i64 1] q.w' fun e w' => e = .returned (.string (Nums.showS c 1)) ∧ Below q.w'.heap.size q.w' w' := fun q => specShow_any c 1 q.w' (by omega)
    have H2 : ∀ q : BelowOf w1, Calls Try.prog 42 #[.int .i64 v, .int .i64 2] q.w' fun e w' => e = .returned (.string (Nums.showS v 2)) ∧ Below q.w'.heap.size q.w' w' := fun q => specShow_any v 2 q.w' (by omega)
    have l1 := showS_len _ _ (ok1 c (by omega))
    have l2 := showS_len _ _ (ok2 v (by omega))
    generalize Nums.showS c 1 = s1 at *
    generalize Nums.showS v 2 = s2 at *
    clear k0 h
    go_wp2_with fail
    refine wp_region_of (by kernel_rfl) (by kernel_rfl) ?_
    repeat (go_big_quiet_step ((first | (go_at_call 42; with_reducible exact calls_of (H1 _)) | (go_at_call 42; with_reducible exact calls_of (H2 _)) | rfl)))
    refine wpQuiet_nil ?_
    intro w5 hw5
    obtain ⟨⟨wx, cx⟩, hwx⟩ := hw5
    have b5 : Below w1.heap.size w1 w5 := by rw [hwx]; exact cx
    clear hwx cx wx hne q0 q1 H1 H2
    replace d0 := bw_call d0 b5
    go_wp2_with fail
    go_ret
    exact ⟨by rw [HE.out]; rfl, d0⟩

/-- A reply's two cells, written. -/
theorem set_rep {w W : World} {b : Nat} {x0 y0 : Value} {t : TypeId} (h : W.heap[b]? = some (.cells #[x0, y0] t (0, 0))) (d : Below w.heap.size w W) (hb : w.heap.size ≤ b) (x y : Value) :
    ((W.setCell ⟨b, 0, none⟩ x).setCell ⟨b, 1, none⟩ y).heap[b]? = some (.cells #[x, y] t (0, 0)) ∧ Below w.heap.size w ((W.setCell ⟨b, 0, none⟩ x).setCell ⟨b, 1, none⟩ y) :=
  ⟨(set_two h x y).1, bw_set (bw_set d (p := ⟨b, 0, none⟩) hb x) (p := ⟨b, 1, none⟩) hb y⟩

set_option maxHeartbeats 1600000 in
theorem specReadReply_any (s : ByteArray) (w : World) (hs : s.size ≤ 1099511627776) :
    Calls Try.prog 19 #[.string s] w fun e w' => e = .returned (.tuple #[.agg #[.int .i64 (readRep s).1.1, .int .i64 (readRep s).1.2], .bool (readRep s).2]) ∧ Below w.heap.size w w' := by
  have hs2 : s.size ≤ maxLen := by unfold maxLen; omega
  by_cases h3 : ¬ s.size = 3
  · have HV : Hid (readRep s = ((0, 0), false)) := by rw [Hid, readRep, if_neg (fun h => h3 h.1)]
    have h3' : ¬ (s.size : Int) = 3 := by omega
    have h3b : ((s.size : Int) != 3) = true := by rw [bne_iff_ne]; exact h3'
    go_enter Try.func19, Try.ntmps19
    go_wp2_with fail
    exact bodyPost_ret (v := .tuple #[.agg #[.int .i64 0, .int .i64 0], .bool false]) (by simp [results, Try.results19, go_sem]) rfl ⟨by rw [HV.out], by go_grown⟩
  have h3' : s.size = 3 := by omega
  have h3b : ((s.size : Int) != 3) = false := by rw [h3']; rfl
  clear h3
  have HV : Hid (readRep s = if repOk (Nums.readN s 0 1) (Nums.readN s 1 2) = true then ((Nums.readN s 0 1, Nums.readN s 1 2), true) else ((0, 0), false)) := by
    rw [Hid, readRep]
    by_cases hq : repOk (Nums.readN s 0 1) (Nums.readN s 1 2) = true
    · rw [if_pos ⟨h3', hq⟩, if_pos hq]
    · rw [if_neg (fun h => hq h.2), if_neg hq]
  obtain ⟨W0, hW0, k0, k1, d0, q0⟩ := box2 w #[.int .i64 0, .int .i64 0] #[.int .i64 0, .int .i64 0] 42 42
  have HW0 : Hid (W0 = _) := hW0
  clear hW0 q0 h3'
  go_enter Try.func19, Try.ntmps19
  go_wp2_with fail
  rw [← HW0.out]
  clear HW0
  refine (specRead_any s 0 1 _ hs2 (by omega)).mono ?_
  generalize Nums.readN s 0 1 = c at *
  rintro e w1 ⟨rfl, rfl⟩
  have o1 := at_open k1 0
  have p1 := at_cell k1 0
  go_wp2_with fail
  clear o1 p1
  replace k0 := (Below.heap_setCell w1 ⟨w.heap.size + 1, 0, none⟩ (.int .i64 c) _ (by show w.heap.size ≠ w.heap.size + 1; omega)).trans k0
  replace k1 := set_0 k1 (.int .i64 c)
  replace d0 := bw_set d0 (p := ⟨w.heap.size + 1, 0, none⟩) (by show w.heap.size ≤ w.heap.size + 1; omega) (.int .i64 c)
  generalize w1.setCell ⟨w.heap.size + 1, 0, none⟩ (.int .i64 c) = w2 at *
  refine (specRead_any s 1 2 _ hs2 (by omega)).mono ?_
  generalize Nums.readN s 1 2 = v at *
  rintro e w3 ⟨rfl, rfl⟩
  have o1 := at_open k1 1
  have p0 := at_cell k1 0
  have p1 := at_cell k1 1
  go_wp2_with fail
  clear o1 p1 p0
  replace k0 := (Below.heap_setCell w3 ⟨w.heap.size + 1, 1, none⟩ (.int .i64 v) _ (by show w.heap.size ≠ w.heap.size + 1; omega)).trans k0
  replace k1 := set_1 k1 (.int .i64 v)
  replace d0 := bw_set d0 (p := ⟨w.heap.size + 1, 1, none⟩) (by show w.heap.size ≤ w.heap.size + 1; omega) (.int .i64 v)
  generalize w3.setCell ⟨w.heap.size + 1, 1, none⟩ (.int .i64 v) = w4 at *
  refine (specReplyOk_any c v _).mono ?_
  rintro e w5 ⟨rfl, b1⟩
  replace k0 := (b1.block _ (heap_lt k0)).trans k0
  replace k1 := (b1.block _ (heap_lt k1)).trans k1
  replace d0 := bw_call d0 b1
  clear b1
  have f0 := at_open k0 0
  have f1 := at_open k0 1
  have g0 := at_cell k0 0
  have g1 := at_cell k0 1
  generalize repOk c v = q at *
  cases q
  · have HS : Hid _ := set_rep k0 d0 (Nat.le_refl _) (.int .i64 0) (.int .i64 0)
    clear k0 k1 d0
    go_wp2_with fail
    exact bodyPost_ret (v := .tuple #[.agg #[.int .i64 0, .int .i64 0], .bool false]) (by simp [results, Try.results19, go_sem, at_cell HS.out.1]) rfl ⟨by rw [HV.out]; rfl, HS.out.2⟩
  · have HS : Hid _ := set_rep k0 d0 (Nat.le_refl _) (.int .i64 c) (.int .i64 v)
    have r0 := at_cell k1 0
    have r1 := at_cell k1 1
    clear k0 k1 d0
    go_wp2_with fail
    exact bodyPost_ret (v := .tuple #[.agg #[.int .i64 c, .int .i64 v], .bool true]) (by simp [results, Try.results19, go_sem, at_cell HS.out.1]) rfl ⟨by rw [HV.out]; rfl, HS.out.2⟩

end Go.Proofs.Ytdkciaeibkhbgaa
