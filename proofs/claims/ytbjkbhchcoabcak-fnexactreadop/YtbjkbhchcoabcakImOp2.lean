/-
  Chapter 7: the program's ShowOp and ReadOp, at every argument.
-/
import Derived.Test.YtbjkbhchcoabcakOp2
import Derived.Test.YtbjkbhchcoabcakImOp1
import Derived.Test.YtbjkbhchcoabcakImFrame
namespace Go.Proofs.Ytbjkbhchcoabcak
open Go.RowKit
set_option linter.unusedVariables false
set_option maxRecDepth 100000

set_option maxHeartbeats 3200000 in
theorem implShowOp_any (k : Int) (nm ot : ByteArray) (at_ va ep : Int) (w : World) (hn : nm.size ≤ maxLen) (ho : ot.size ≤ maxLen) (fk : I64 k) (fa : I64 at_) (fv : I64 va) (fe : I64 ep) :
    Calls Try.prog 19 #[.agg #[.int .i64 k, .string nm, .string ot, .int .i64 at_, .int .i64 va, .int .i64 ep]] w fun e w' => e = .returned (.string (showOp ⟨k, nm, ot, at_, va, ep⟩)) ∧ Below w.heap.size w w' := by
  obtain ⟨W0, hW0, k0, d0, z0⟩ := box1 w #[.int .i64 k, .string nm, .string ot, .int .i64 at_, .int .i64 va, .int .i64 ep] 33
  have HW0 : Hid (W0 = _) := hW0
  have s0 := heap_lt k0
  clear hW0 z0
  go_enter Try.func19, Try.ntmps19
  go_wp2_with fail
  rw [← HW0.out]
  clear HW0
  refine (implOpOk_any k nm ot at_ va ep _ hn ho fk fa fv fe).mono ?_
  rintro e w1 ⟨rfl, b1⟩
  replace k0 := (b1.block _ s0).trans k0
  replace d0 := bw_call d0 b1
  have t0 := heap_lt k0
  cases h : opOk ⟨k, nm, ot, at_, va, ep⟩
  · have HV : Hid (showOp ⟨k, nm, ot, at_, va, ep⟩ = ByteArray.empty) := by rw [Hid, showOp, if_neg (by rw [h]; decide)]
    clear h
    go_wp2_with fail
    go_ret
    exact ⟨by rw [HV.out]; rfl, d0⟩
  have HE : Hid (showOp ⟨k, nm, ot, at_, va, ep⟩ = ((((Nums.showS k 1 ++ (Nums.showS (nm.size : Int) 1 ++ nm)) ++ (Nums.showS (ot.size : Int) 1 ++ ot)) ++ Nums.showS at_ 1) ++ Nums.showS va 2) ++ Nums.showS ep 2) := by
    rw [Hid, showOp, if_pos h]
    unfold opShow
    simp only [ByteArray.append_assoc]
  obtain ⟨hk, hzn, hzo, ha, hv, he⟩ := opOk_bd _ h
  simp only at hk hzn hzo ha hv he
  have q0 := BelowOf.cell (v := .int .i64 k) (at_cell k0 0) t0
  have q1 := BelowOf.cell (v := .string nm) (at_cell k0 1) t0
  have q2 := BelowOf.cell (v := .string ot) (at_cell k0 2) t0
  have q3 := BelowOf.cell (v := .int .i64 at_) (at_cell k0 3) t0
  have q4 := BelowOf.cell (v := .int .i64 va) (at_cell k0 4) t0
  have q5 := BelowOf.cell (v := .int .i64 ep) (at_cell k0 5) t0
  have hne := BelowOf.any w1
  have H1 : ∀ q : BelowOf w1, Calls Try.prog 42 #[.int .i64 k, .int .i64 1] q.w' fun e w' => e = .returned (.string (Nums.showS k 1)) ∧ Below q.w'.heap.size q.w' w' := fun q => implShow_any k 1 q.w' (by omega)
  have H2 : ∀ q : BelowOf w1, Calls Try.prog 43 #[.string nm] q.w' fun e w' => e = .returned (.string (Nums.showS (nm.size : Int) 1 ++ nm)) ∧ Below q.w'.heap.size q.w' w' := fun q => measured_any nm q.w' (by omega)
  have H3 : ∀ q : BelowOf w1, Calls Try.prog 43 #[.string ot] q.w' fun e w' => e = .returned (.string (Nums.showS (ot.size : Int) 1 ++ ot)) ∧ Below q.w'.heap.size q.w' w' := fun q => measured_any ot q.w' (by omega)
  have H4 : ∀ q : BelowOf w1, Calls Try.prog 42 #[.int .i64 at_, .int .i64 1] q.w' fun e w' => e = .returned (.string (Nums.showS at_ 1)) ∧ Below q.w'.heap.size q.w' w' := fun q => implShow_any _ 1 q.w' (by omega)
  have H5 : ∀ q : BelowOf w1, Calls Try.prog 42 #[.int .i64 va, .int .i64 2] q.w' fun e w' => e = .returned (.string (Nums.showS va 2)) ∧ Below q.w'.heap.size q.w' w' := fun q => implShow_any _ 2 q.w' (by omega)
  have H6 : ∀ q : BelowOf w1, Calls Try.prog 42 #[.int .i64 ep, .int .i64 2] q.w' fun e w' => e = .returned (.string (Nums.showS ep 2)) ∧ Below q.w'.heap.size q.w' w' := fun q => implShow_any _ 2 q.w' (by omega)
  have l1 := showS_len _ _ (ok1 k (by omega))
  have l2 := showS_len _ _ (ok1 (nm.size : Int) (by omega))
  have l3 := showS_len _ _ (ok1 (ot.size : Int) (by omega))
  have l4 := showS_len _ _ (ok1 at_ (by omega))
  have l5 := showS_len _ _ (ok2 va (by omega))
  have l6 := showS_len _ _ (ok2 ep (by omega))
  have m2 : (Nums.showS (nm.size : Int) 1 ++ nm).size ≤ 8 := by rw [app_size]; omega
  have m3 : (Nums.showS (ot.size : Int) 1 ++ ot).size ≤ 8 := by rw [app_size]; omega
  clear l2 l3
  generalize Nums.showS k 1 = s1 at *
  generalize Nums.showS (nm.size : Int) 1 ++ nm = s2 at *
  generalize Nums.showS (ot.size : Int) 1 ++ ot = s3 at *
  generalize Nums.showS at_ 1 = s4 at *
  generalize Nums.showS va 2 = s5 at *
  generalize Nums.showS ep 2 = s6 at *
  clear k0 h s0 b1
  go_wp2_with fail
  refine wp_region_of (by kernel_rfl) (by kernel_rfl) ?_
  repeat (go_big_quiet_step ((first | (go_at_call 42; with_reducible exact calls_of (H1 _)) | (go_at_call 43; with_reducible exact calls_of (H2 _)) | (go_at_call 43; with_reducible exact calls_of (H3 _)) | (go_at_call 42; with_reducible exact calls_of (H4 _)) | (go_at_call 42; with_reducible exact calls_of (H5 _)) | (go_at_call 42; with_reducible exact calls_of (H6 _)) | rfl)))
  refine wpQuiet_nil ?_
  intro w5 hw5
  obtain ⟨⟨wx, cx⟩, hwx⟩ := hw5
  have b5 : Below w1.heap.size w1 w5 := by rw [hwx]; exact cx
  clear hwx cx wx hne q0 q1 q2 q3 q4 q5 H1 H2 H3 H4 H5 H6
  replace d0 := bw_call d0 b5
  go_wp2_with fail
  go_ret
  exact ⟨by rw [HE.out]; rfl, d0⟩

theorem takenNumber_any (s : ByteArray) (k : Int) (w : World) (hs : s.size ≤ 1099511627776) (hk : 1 ≤ k ∧ k ≤ 4) :
    Calls Try.prog 46 #[.string s, .int .i64 k] w fun e w' => e = .returned (.tuple #[.int .i64 (tNum s k).1, .string (tNum s k).2]) ∧ Below w.heap.size w w' := by
  have hs2 : s.size ≤ maxLen := by unfold maxLen; omega
  obtain ⟨K, rfl⟩ := Int.eq_ofNat_of_zero_le (show 0 ≤ k by omega)
  cases h : Nums.okRead s 0 K
  · have HV : Hid (tNum s K = (0, ByteArray.empty)) := by rw [Hid, tNum, if_neg (by rw [h]; decide)]
    go_enter Try.func46, Try.ntmps46
    go_wp2_with fail
    refine (implRead_any s 0 K _ hs2 (by omega)).mono ?_
    rintro e w1 ⟨rfl, rfl⟩
    rw [h]
    clear h
    go_wp2_with fail
    exact bodyPost_ret (v := .tuple #[.int .i64 0, .string ⟨#[]⟩]) (by simp [results, Try.results46, go_sem]) rfl ⟨by rw [HV.out]; rfl, Below.refl _ _⟩
  · have hb := (Nums.okRead_iff _ _ _).1 h
    have hle : K ≤ s.size := by omega
    have HV : Hid (tNum s K = (Nums.readN s 0 K, s.extract K s.size)) := by rw [Hid, tNum, if_pos h, Int.toNat_natCast]
    go_enter Try.func46, Try.ntmps46
    go_wp2_with fail
    refine (implRead_any s 0 K _ hs2 (by omega)).mono ?_
    rintro e w1 ⟨rfl, rfl⟩
    rw [h]
    generalize Nums.readN s 0 K = n at *
    clear h
    go_wp2_with fail
    go_quiet (fail)
    go_wp2_with fail
    exact bodyPost_ret (v := .tuple #[.int .i64 n, .string (s.extract K s.size)]) (by simp [results, Try.results46, go_sem]) rfl ⟨by rw [HV.out], (let d := Below.refl w1.heap.size w1; ⟨d.os, d.tape, d.output, d.size, d.block⟩)⟩

theorem takenText_any (s : ByteArray) (w : World) (hs : s.size ≤ 1099511627776) :
    Calls Try.prog 47 #[.string s] w fun e w' => e = .returned (.tuple #[.string (tText s).1, .string (tText s).2]) ∧ Below w.heap.size w w' := by
  have hr : 0 ≤ (tNum s 1).1 := by
    unfold tNum
    split
    · exact (Nums.readN_range s 0 1).1
    · exact Int.le_refl _
  have hz := tNum_size s 1
  obtain ⟨n, b, hnb⟩ : ∃ n b, tNum s 1 = (n, b) := ⟨_, _, rfl⟩
  have HT : Hid (tText s = tCut n b) := by rw [Hid, tText, hnb]
  have HN : Hid _ := hnb
  rw [hnb] at hr hz
  simp only at hr hz
  clear hnb
  obtain ⟨m, hm⟩ := Int.eq_ofNat_of_zero_le hr
  subst hm
  obtain ⟨e, he⟩ : ∃ e : Nat, min (m : Int) (b.size : Int) = e := ⟨min m b.size, by omega⟩
  have hle : e ≤ b.size := by omega
  have HC : Hid (tCut m b = (b.extract 0 e, b.extract e b.size)) := by rw [Hid, tCut, he, Int.toNat_natCast]
  go_enter Try.func47, Try.ntmps47
  go_wp2_with fail
  refine (takenNumber_any s 1 _ hs (by omega)).mono ?_
  rw [HN.out]
  rintro e' w1 ⟨rfl, d0⟩
  simp only
  have hne := BelowOf.any w1
  have H1 : ∀ q : BelowOf w1, Calls Try.prog 63 #[.string (b.extract 0 e)] q.w' fun e' w' => e' = .returned (.string (b.extract 0 e)) ∧ Below q.w'.heap.size q.w' w' := fun q => clone_any _ q.w' (by rw [ByteArray.size_extract]; omega)
  go_wp2_with fail
  refine wp_region_of (by kernel_rfl) (by kernel_rfl) ?_
  repeat (go_big_quiet_step ((first | (go_at_call 63; with_reducible exact calls_of (H1 _)) | rfl)))
  refine wpQuiet_nil ?_
  intro w5 hw5
  obtain ⟨⟨wx, cx⟩, hwx⟩ := hw5
  have b5 : Below w1.heap.size w1 w5 := by rw [hwx]; exact cx
  clear hwx cx wx hne H1
  replace d0 := bw_call d0 b5
  go_wp2_with fail
  exact bodyPost_ret (v := .tuple #[.string (b.extract 0 e), .string (b.extract e b.size)]) (by simp [results, Try.results47, go_sem]) rfl ⟨by rw [HT.out, HC.out], d0⟩

theorem set6_0 (a b c d e f y : Value) : (#[a, b, c, d, e, f] : Array Value).setIfInBounds 0 y = #[y, b, c, d, e, f] := rfl
theorem set6_1 (a b c d e f y : Value) : (#[a, b, c, d, e, f] : Array Value).setIfInBounds 1 y = #[a, y, c, d, e, f] := rfl
theorem set6_2 (a b c d e f y : Value) : (#[a, b, c, d, e, f] : Array Value).setIfInBounds 2 y = #[a, b, y, d, e, f] := rfl
theorem set6_3 (a b c d e f y : Value) : (#[a, b, c, d, e, f] : Array Value).setIfInBounds 3 y = #[a, b, c, y, e, f] := rfl
theorem set6_4 (a b c d e f y : Value) : (#[a, b, c, d, e, f] : Array Value).setIfInBounds 4 y = #[a, b, c, d, y, f] := rfl
theorem set6_5 (a b c d e f y : Value) : (#[a, b, c, d, e, f] : Array Value).setIfInBounds 5 y = #[a, b, c, d, e, y] := rfl
theorem tNum_i64 (s : ByteArray) (k : Int) : I64 (tNum s k).1 := by
  unfold tNum I64
  split
  · have := Nums.readN_range s 0 k
    simp only
    omega
  · simp

set_option maxHeartbeats 3200000 in
theorem implReadOp_any (s : ByteArray) (w : World) (hs : s.size ≤ 1099511627776) :
    Calls Try.prog 21 #[.string s] w fun e w' => e = .returned (.tuple #[.agg #[.int .i64 (readOp s).1.k, .string (readOp s).1.nm, .string (readOp s).1.ot, .int .i64 (readOp s).1.at_, .int .i64 (readOp s).1.va, .int .i64 (readOp s).1.ep], .bool (readOp s).2]) ∧ Below w.heap.size w w' := by
  have z1 := tNum_size s 1
  have z2 := tText_size (tNum s 1).2
  have z3 := tText_size (tB s).2
  have z4 := tNum_size (tC s).2 1
  have z5 := tNum_size (tD s).2 2
  have i1 := tNum_i64 s 1
  have i4 := tNum_i64 (tC s).2 1
  have i5 := tNum_i64 (tD s).2 2
  have i6 := tNum_i64 (tE s).2 2
  have HO : Hid (tOp s = ⟨(tNum s 1).1, (tB s).1, (tC s).1, (tD s).1, (tE s).1, (tF s).1⟩) := rfl
  have HY : Hid _ := readOp_yes s
  have HN : Hid _ := readOp_no s
  obtain ⟨k, s1, h1⟩ : ∃ n b, tNum s 1 = (n, b) := ⟨_, _, rfl⟩
  have h2 : tB s = tText s1 := by rw [tB, h1]
  obtain ⟨nm, s2, h2'⟩ : ∃ n b, tText s1 = (n, b) := ⟨_, _, rfl⟩
  rw [h2'] at h2
  have h3 : tC s = tText s2 := by rw [tC, h2]
  obtain ⟨ot, s3, h3'⟩ : ∃ n b, tText s2 = (n, b) := ⟨_, _, rfl⟩
  rw [h3'] at h3
  have h4 : tD s = tNum s3 1 := by rw [tD, h3]
  obtain ⟨at_, s4, h4'⟩ : ∃ n b, tNum s3 1 = (n, b) := ⟨_, _, rfl⟩
  rw [h4'] at h4
  have h5 : tE s = tNum s4 2 := by rw [tE, h4]
  obtain ⟨va, s5, h5'⟩ : ∃ n b, tNum s4 2 = (n, b) := ⟨_, _, rfl⟩
  rw [h5'] at h5
  have h6 : tF s = tNum s5 2 := by rw [tF, h5]
  obtain ⟨ep, s6, h6'⟩ : ∃ n b, tNum s5 2 = (n, b) := ⟨_, _, rfl⟩
  rw [h6'] at h6
  rw [h1] at z1 z2 i1
  rw [h1, h2, h3, h4, h5, h6] at HO
  rw [h2] at z3
  rw [h2'] at z2
  simp only at z1 z2 z3 i1
  rw [h3'] at z3
  rw [h3] at z4 i4
  rw [h4] at z5 i5
  rw [h5] at i6
  simp only at z3 z4 z5 i4 i5 i6
  rw [h4'] at z4 i4
  rw [h5'] at z5 i5
  rw [h6'] at i6
  simp only at z4 z5 i4 i5 i6
  have H1 : Hid _ := h1
  have H2 : Hid _ := h2'
  have H3 : Hid _ := h3'
  have H4 : Hid _ := h4'
  have H5 : Hid _ := h5'
  have H6 : Hid _ := h6'
  rw [HO.out] at HY HN
  clear h1 h2 h3 h4 h5 h6 h2' h3' h4' h5' h6' HO
  obtain ⟨W0, hW0, k0, k1, d0, q0⟩ := box2 w #[.int .i64 0, .string ⟨#[]⟩, .string ⟨#[]⟩, .int .i64 0, .int .i64 0, .int .i64 0] #[.int .i64 0, .string ⟨#[]⟩, .string ⟨#[]⟩, .int .i64 0, .int .i64 0, .int .i64 0] 33 33
  have HW0 : Hid (W0 = _) := hW0
  clear hW0
  go_enter Try.func21, Try.ntmps21
  go_wp2_with fail
  rw [← HW0.out]
  clear HW0
  refine (takenNumber_any s 1 _ hs (by omega)).mono ?_
  rw [H1.out]
  rintro e w1 ⟨rfl, b1⟩
  simp only
  replace k0 := (b1.block _ (heap_lt k0)).trans k0
  replace k1 := (b1.block _ (heap_lt k1)).trans k1
  replace d0 := bw_call d0 b1
  have o1 := at_open k1 0
  have p1 := at_cell k1 0
  clear b1
  go_wp2_with fail
  clear o1 p1
  replace k0 := (Below.heap_setCell w1 ⟨w.heap.size + 1, 0, none⟩ (.int .i64 k) _ (by show w.heap.size ≠ w.heap.size + 1; omega)).trans k0
  replace k1 := set_at k1 0 (.int .i64 k)
  replace d0 := bw_set d0 (p := ⟨w.heap.size + 1, 0, none⟩) (by show w.heap.size ≤ w.heap.size + 1; omega) (.int .i64 k)
  simp only [set6_0] at k1
  generalize w1.setCell ⟨w.heap.size + 1, 0, none⟩ (.int .i64 k) = vw1 at *
  refine (takenText_any s1 _ (by omega)).mono ?_
  rw [H2.out]
  rintro e w2 ⟨rfl, b1⟩
  simp only
  replace k0 := (b1.block _ (heap_lt k0)).trans k0
  replace k1 := (b1.block _ (heap_lt k1)).trans k1
  replace d0 := bw_call d0 b1
  have o1 := at_open k1 1
  have p1 := at_cell k1 1
  clear b1
  go_wp2_with fail
  clear o1 p1
  replace k0 := (Below.heap_setCell w2 ⟨w.heap.size + 1, 1, none⟩ (.string nm) _ (by show w.heap.size ≠ w.heap.size + 1; omega)).trans k0
  replace k1 := set_at k1 1 (.string nm)
  replace d0 := bw_set d0 (p := ⟨w.heap.size + 1, 1, none⟩) (by show w.heap.size ≤ w.heap.size + 1; omega) (.string nm)
  simp only [set6_1] at k1
  generalize w2.setCell ⟨w.heap.size + 1, 1, none⟩ (.string nm) = vw2 at *
  refine (takenText_any s2 _ (by omega)).mono ?_
  rw [H3.out]
  rintro e w3 ⟨rfl, b1⟩
  simp only
  replace k0 := (b1.block _ (heap_lt k0)).trans k0
  replace k1 := (b1.block _ (heap_lt k1)).trans k1
  replace d0 := bw_call d0 b1
  have o1 := at_open k1 2
  have p1 := at_cell k1 2
  clear b1
  go_wp2_with fail
  clear o1 p1
  replace k0 := (Below.heap_setCell w3 ⟨w.heap.size + 1, 2, none⟩ (.string ot) _ (by show w.heap.size ≠ w.heap.size + 1; omega)).trans k0
  replace k1 := set_at k1 2 (.string ot)
  replace d0 := bw_set d0 (p := ⟨w.heap.size + 1, 2, none⟩) (by show w.heap.size ≤ w.heap.size + 1; omega) (.string ot)
  simp only [set6_2] at k1
  generalize w3.setCell ⟨w.heap.size + 1, 2, none⟩ (.string ot) = vw3 at *
  refine (takenNumber_any s3 1 _ (by omega) (by omega)).mono ?_
  rw [H4.out]
  rintro e w4 ⟨rfl, b1⟩
  simp only
  replace k0 := (b1.block _ (heap_lt k0)).trans k0
  replace k1 := (b1.block _ (heap_lt k1)).trans k1
  replace d0 := bw_call d0 b1
  have o1 := at_open k1 3
  have p1 := at_cell k1 3
  clear b1
  go_wp2_with fail
  clear o1 p1
  replace k0 := (Below.heap_setCell w4 ⟨w.heap.size + 1, 3, none⟩ (.int .i64 at_) _ (by show w.heap.size ≠ w.heap.size + 1; omega)).trans k0
  replace k1 := set_at k1 3 (.int .i64 at_)
  replace d0 := bw_set d0 (p := ⟨w.heap.size + 1, 3, none⟩) (by show w.heap.size ≤ w.heap.size + 1; omega) (.int .i64 at_)
  simp only [set6_3] at k1
  generalize w4.setCell ⟨w.heap.size + 1, 3, none⟩ (.int .i64 at_) = vw4 at *
  refine (takenNumber_any s4 2 _ (by omega) (by omega)).mono ?_
  rw [H5.out]
  rintro e w5 ⟨rfl, b1⟩
  simp only
  replace k0 := (b1.block _ (heap_lt k0)).trans k0
  replace k1 := (b1.block _ (heap_lt k1)).trans k1
  replace d0 := bw_call d0 b1
  have o1 := at_open k1 4
  have p1 := at_cell k1 4
  clear b1
  go_wp2_with fail
  clear o1 p1
  replace k0 := (Below.heap_setCell w5 ⟨w.heap.size + 1, 4, none⟩ (.int .i64 va) _ (by show w.heap.size ≠ w.heap.size + 1; omega)).trans k0
  replace k1 := set_at k1 4 (.int .i64 va)
  replace d0 := bw_set d0 (p := ⟨w.heap.size + 1, 4, none⟩) (by show w.heap.size ≤ w.heap.size + 1; omega) (.int .i64 va)
  simp only [set6_4] at k1
  generalize w5.setCell ⟨w.heap.size + 1, 4, none⟩ (.int .i64 va) = vw5 at *
  refine (takenNumber_any s5 2 _ (by omega) (by omega)).mono ?_
  rw [H6.out]
  rintro e w6 ⟨rfl, b1⟩
  simp only
  replace k0 := (b1.block _ (heap_lt k0)).trans k0
  replace k1 := (b1.block _ (heap_lt k1)).trans k1
  replace d0 := bw_call d0 b1
  have o1 := at_open k1 5
  have p0 := at_cell k1 0
  have p1 := at_cell k1 1
  have p2 := at_cell k1 2
  have p3 := at_cell k1 3
  have p4 := at_cell k1 4
  have p5 := at_cell k1 5
  clear b1
  go_wp2_with fail
  clear o1 p0 p1 p2 p3 p4 p5
  replace k0 := (Below.heap_setCell w6 ⟨w.heap.size + 1, 5, none⟩ (.int .i64 ep) _ (by show w.heap.size ≠ w.heap.size + 1; omega)).trans k0
  replace k1 := set_at k1 5 (.int .i64 ep)
  replace d0 := bw_set d0 (p := ⟨w.heap.size + 1, 5, none⟩) (by show w.heap.size ≤ w.heap.size + 1; omega) (.int .i64 ep)
  simp only [set6_5] at k1
  generalize w6.setCell ⟨w.heap.size + 1, 5, none⟩ (.int .i64 ep) = vw6 at *
  have hnm : nm.size ≤ maxLen := by unfold maxLen; omega
  have hot : ot.size ≤ maxLen := by unfold maxLen; omega
  refine (implOpOk_any k nm ot at_ va ep _ hnm hot i1 i4 i5 i6).mono ?_
  rintro e w7 ⟨rfl, b1⟩
  replace k0 := (b1.block _ (heap_lt k0)).trans k0
  replace k1 := (b1.block _ (heap_lt k1)).trans k1
  replace d0 := bw_call d0 b1
  clear b1
  cases hok : opOk ⟨k, nm, ot, at_, va, ep⟩
  · have HV2 : Hid (readOp s = (Oq.zero, false)) := HN.out (fun h => by rw [hok] at h; cases h)
    have f0 := at_open k0 0
    have f1 := at_open k0 1
    have f2 := at_open k0 2
    have f3 := at_open k0 3
    have f4 := at_open k0 4
    have f5 := at_open k0 5
    have p0 := at_cell k0 0
    have p1 := at_cell k0 1
    have p2 := at_cell k0 2
    have p3 := at_cell k0 3
    have p4 := at_cell k0 4
    have p5 := at_cell k0 5
    have HS : Hid _ := And.intro (set_six k0 (.int .i64 0) (.string ⟨#[]⟩) (.string ⟨#[]⟩) (.int .i64 0) (.int .i64 0) (.int .i64 0)) (bw_six d0 (Nat.le_refl _) (.int .i64 0) (.string ⟨#[]⟩) (.string ⟨#[]⟩) (.int .i64 0) (.int .i64 0) (.int .i64 0))
    clear HN HY k0 k1 d0
    go_wp2_with fail
    exact bodyPost_ret (v := .tuple #[.agg #[.int .i64 0, .string ⟨#[]⟩, .string ⟨#[]⟩, .int .i64 0, .int .i64 0, .int .i64 0], .bool false]) (by simp [results, Try.results21, go_sem, at_cell HS.out.1]) rfl ⟨by rw [HV2.out]; exact congrArg _ zero_op.symm, HS.out.2⟩
  have r0 := at_cell k1 0
  have r1 := at_cell k1 1
  have r2 := at_cell k1 2
  have r3 := at_cell k1 3
  have r4 := at_cell k1 4
  have r5 := at_cell k1 5
  go_wp2_with fail
  clear r0 r1 r2 r3 r4 r5
  refine (implShowOp_any k nm ot at_ va ep _ hnm hot i1 i4 i5 i6).mono ?_
  rintro e w8 ⟨rfl, b1⟩
  replace k0 := (b1.block _ (heap_lt k0)).trans k0
  replace k1 := (b1.block _ (heap_lt k1)).trans k1
  replace d0 := bw_call d0 b1
  clear b1
  have f0 := at_open k0 0
  have f1 := at_open k0 1
  have f2 := at_open k0 2
  have f3 := at_open k0 3
  have f4 := at_open k0 4
  have f5 := at_open k0 5
  have p0 := at_cell k0 0
  have p1 := at_cell k0 1
  have p2 := at_cell k0 2
  have p3 := at_cell k0 3
  have p4 := at_cell k0 4
  have p5 := at_cell k0 5
  by_cases hsh : showOp ⟨k, nm, ot, at_, va, ep⟩ = s
  · have HV2 : Hid (readOp s = (⟨k, nm, ot, at_, va, ep⟩, true)) := HY.out hok hsh
    rw [hsh]
    have r0 := at_cell k1 0
    have r1 := at_cell k1 1
    have r2 := at_cell k1 2
    have r3 := at_cell k1 3
    have r4 := at_cell k1 4
    have r5 := at_cell k1 5
    have HS : Hid _ := And.intro (set_six k0 (.int .i64 k) (.string nm) (.string ot) (.int .i64 at_) (.int .i64 va) (.int .i64 ep)) (bw_six d0 (Nat.le_refl _) (.int .i64 k) (.string nm) (.string ot) (.int .i64 at_) (.int .i64 va) (.int .i64 ep))
    clear HN HY k0 k1 d0 hsh hok
    go_wp2_with fail
    exact bodyPost_ret (v := .tuple #[.agg #[.int .i64 k, .string nm, .string ot, .int .i64 at_, .int .i64 va, .int .i64 ep], .bool true]) (by simp [results, Try.results21, go_sem, at_cell HS.out.1]) rfl ⟨by rw [HV2.out], HS.out.2⟩
  · have HV2 : Hid (readOp s = (Oq.zero, false)) := HN.out (fun _ => hsh)
    have hne : ¬ (showOp ⟨k, nm, ot, at_, va, ep⟩).toList = s.toList := by
      intro h
      rw [ByteArray.toList_eq, ByteArray.toList_eq] at h
      exact hsh (ext_list h)
    have HS : Hid _ := And.intro (set_six k0 (.int .i64 0) (.string ⟨#[]⟩) (.string ⟨#[]⟩) (.int .i64 0) (.int .i64 0) (.int .i64 0)) (bw_six d0 (Nat.le_refl _) (.int .i64 0) (.string ⟨#[]⟩) (.string ⟨#[]⟩) (.int .i64 0) (.int .i64 0) (.int .i64 0))
    clear HN HY k0 k1 d0 hsh hok
    generalize showOp ⟨k, nm, ot, at_, va, ep⟩ = t at *
    have hb : (t.toList == s.toList) = false := by rw [beq_eq_false_iff_ne]; exact hne
    go_wp2_with fail
    exact bodyPost_ret (v := .tuple #[.agg #[.int .i64 0, .string ⟨#[]⟩, .string ⟨#[]⟩, .int .i64 0, .int .i64 0, .int .i64 0], .bool false]) (by simp [results, Try.results21, go_sem, at_cell HS.out.1]) rfl ⟨by rw [HV2.out]; exact congrArg _ zero_op.symm, HS.out.2⟩

end Go.Proofs.Ytbjkbhchcoabcak
