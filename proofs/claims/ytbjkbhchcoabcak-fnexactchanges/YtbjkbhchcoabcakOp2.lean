/-
  Chapter 7: the specification's ShowOp and ReadOp, at every argument.
-/
import Derived.Test.YtbjkbhchcoabcakOp1
import Derived.Test.YtbjkbhchcoabcakChap1
import Derived.Test.YtbjkbhchcoabcakSetAt
namespace Go.Proofs.Ytbjkbhchcoabcak
open Go.RowKit
set_option linter.unusedVariables false
set_option maxRecDepth 100000

set_option maxHeartbeats 3200000 in
theorem l7Show_any (k : Int) (nm ot : ByteArray) (at_ va ep : Int) (w : World) (h : opOk ⟨k, nm, ot, at_, va, ep⟩ = true) :
    Calls Try.prog 41 #[.agg #[.int .i64 k, .string nm, .string ot, .int .i64 at_, .int .i64 va, .int .i64 ep]] w fun e w' => e = .returned (.string (opShow ⟨k, nm, ot, at_, va, ep⟩)) ∧ Below w.heap.size w w' := by
  obtain ⟨hk, hn, ho, ha, hv, he⟩ := opOk_bd _ h
  simp only at hk hn ho ha hv he
  obtain ⟨W0, hW0, k0, d0, z0⟩ := box1 w #[.int .i64 k, .string nm, .string ot, .int .i64 at_, .int .i64 va, .int .i64 ep] 33
  have HW0 : Hid (W0 = _) := hW0
  have s0 := heap_lt k0
  have q0 := BelowOf.cell (v := .int .i64 k) (at_cell k0 0) s0
  have q1 := BelowOf.cell (v := .string nm) (at_cell k0 1) s0
  have q2 := BelowOf.cell (v := .string ot) (at_cell k0 2) s0
  have q3 := BelowOf.cell (v := .int .i64 at_) (at_cell k0 3) s0
  have q4 := BelowOf.cell (v := .int .i64 va) (at_cell k0 4) s0
  have q5 := BelowOf.cell (v := .int .i64 ep) (at_cell k0 5) s0
  have hne := BelowOf.any W0
  have H1 : ∀ q : BelowOf W0, Calls Try.prog 58 #[.int .i64 k, .int .i64 1] q.w' fun e w' => e = .returned (.string (Nums.showS k 1)) ∧ Below q.w'.heap.size q.w' w' := fun q => specShow_any k 1 q.w' (by omega)
  have H2 : ∀ q : BelowOf W0, Calls Try.prog 58 #[.int .i64 (nm.size : Int), .int .i64 1] q.w' fun e w' => e = .returned (.string (Nums.showS (nm.size : Int) 1)) ∧ Below q.w'.heap.size q.w' w' := fun q => specShow_any _ 1 q.w' (by omega)
  have H3 : ∀ q : BelowOf W0, Calls Try.prog 58 #[.int .i64 (ot.size : Int), .int .i64 1] q.w' fun e w' => e = .returned (.string (Nums.showS (ot.size : Int) 1)) ∧ Below q.w'.heap.size q.w' w' := fun q => specShow_any _ 1 q.w' (by omega)
  have H4 : ∀ q : BelowOf W0, Calls Try.prog 58 #[.int .i64 at_, .int .i64 1] q.w' fun e w' => e = .returned (.string (Nums.showS at_ 1)) ∧ Below q.w'.heap.size q.w' w' := fun q => specShow_any _ 1 q.w' (by omega)
  have H5 : ∀ q : BelowOf W0, Calls Try.prog 58 #[.int .i64 va, .int .i64 2] q.w' fun e w' => e = .returned (.string (Nums.showS va 2)) ∧ Below q.w'.heap.size q.w' w' := fun q => specShow_any _ 2 q.w' (by omega)
  have H6 : ∀ q : BelowOf W0, Calls Try.prog 58 #[.int .i64 ep, .int .i64 2] q.w' fun e w' => e = .returned (.string (Nums.showS ep 2)) ∧ Below q.w'.heap.size q.w' w' := fun q => specShow_any _ 2 q.w' (by omega)
  have l1 := showS_len _ _ (ok1 k (by omega))
  have l2 := showS_len _ _ (ok1 (nm.size : Int) (by omega))
  have l3 := showS_len _ _ (ok1 (ot.size : Int) (by omega))
  have l4 := showS_len _ _ (ok1 at_ (by omega))
  have l5 := showS_len _ _ (ok2 va (by omega))
  have l6 := showS_len _ _ (ok2 ep (by omega))
  have HE : Hid (opShow ⟨k, nm, ot, at_, va, ep⟩ = ((((((Nums.showS k 1 ++ Nums.showS (nm.size : Int) 1) ++ nm) ++ Nums.showS (ot.size : Int) 1) ++ ot) ++ Nums.showS at_ 1) ++ Nums.showS va 2) ++ Nums.showS ep 2) := rfl
  generalize Nums.showS k 1 = s1 at *
  generalize Nums.showS (nm.size : Int) 1 = s2 at *
  generalize Nums.showS (ot.size : Int) 1 = s3 at *
  generalize Nums.showS at_ 1 = s4 at *
  generalize Nums.showS va 2 = s5 at *
  generalize Nums.showS ep 2 = s6 at *
  clear hW0 k0 h
  go_enter Try.func41, Try.ntmps41
  go_wp2_with fail
  rw [← HW0.out]
  clear HW0
  refine wp_region_of (by kernel_rfl) (by kernel_rfl) ?_
  repeat (go_big_quiet_step ((first | (go_at_call 58; with_reducible exact calls_of (H1 _)) | (go_at_call 58; with_reducible exact calls_of (H2 _)) | (go_at_call 58; with_reducible exact calls_of (H3 _)) | (go_at_call 58; with_reducible exact calls_of (H4 _)) | (go_at_call 58; with_reducible exact calls_of (H5 _)) | (go_at_call 58; with_reducible exact calls_of (H6 _)) | rfl)))
  refine wpQuiet_nil ?_
  intro w5 hw5
  obtain ⟨⟨wx, cx⟩, hwx⟩ := hw5
  have b5 : Below W0.heap.size W0 w5 := by rw [hwx]; exact cx
  clear hwx cx wx hne q0 q1 q2 q3 q4 q5 H1 H2 H3 H4 H5 H6
  replace d0 := bw_call d0 b5
  go_wp2_with fail
  go_ret
  exact ⟨by rw [HE.out]; rfl, d0⟩

theorem specShowOp_any (k : Int) (nm ot : ByteArray) (at_ va ep : Int) (w : World) (hn : nm.size ≤ maxLen) (ho : ot.size ≤ maxLen) :
    Calls Try.prog 18 #[.agg #[.int .i64 k, .string nm, .string ot, .int .i64 at_, .int .i64 va, .int .i64 ep]] w fun e w' => e = .returned (.string (showOp ⟨k, nm, ot, at_, va, ep⟩)) ∧ Below w.heap.size w w' := by
  obtain ⟨W0, hW0, k0, d0, z0⟩ := box1 w #[.int .i64 k, .string nm, .string ot, .int .i64 at_, .int .i64 va, .int .i64 ep] 33
  have HW0 : Hid (W0 = _) := hW0
  have s0 := heap_lt k0
  clear hW0 z0
  go_enter Try.func18, Try.ntmps18
  go_wp2_with fail
  rw [← HW0.out]
  clear HW0
  refine (specOpOk_any k nm ot at_ va ep _ hn ho).mono ?_
  rintro e w1 ⟨rfl, b1⟩
  replace k0 := (b1.block _ s0).trans k0
  replace d0 := bw_call d0 b1
  have p0 := at_cell k0 0
  have p1 := at_cell k0 1
  have p2 := at_cell k0 2
  have p3 := at_cell k0 3
  have p4 := at_cell k0 4
  have p5 := at_cell k0 5
  clear b1 k0
  cases h : opOk ⟨k, nm, ot, at_, va, ep⟩
  · have HV : Hid (showOp ⟨k, nm, ot, at_, va, ep⟩ = ByteArray.empty) := by rw [Hid, showOp, if_neg (by rw [h]; decide)]
    clear h
    go_wp2_with fail
    go_ret
    exact ⟨by rw [HV.out]; rfl, d0⟩
  · have HV : Hid (showOp ⟨k, nm, ot, at_, va, ep⟩ = opShow ⟨k, nm, ot, at_, va, ep⟩) := by rw [Hid, showOp, if_pos h]
    have HH : Hid _ := h
    clear h
    go_wp2_with fail
    refine (l7Show_any k nm ot at_ va ep _ HH.out).mono ?_
    rintro e w2 ⟨rfl, b2⟩
    replace d0 := bw_call d0 b2
    clear p0 p1 p2 p3 p4 p5 b2
    go_wp2_with fail
    go_ret
    exact ⟨by rw [HV.out]; rfl, d0⟩

theorem l7Text_any (s : ByteArray) (a : Int) (w : World) (hs : s.size ≤ 1099511627776) (ha : 0 ≤ a ∧ a ≤ 1099511627776) :
    Calls Try.prog 45 #[.string s, .int .i64 a] w fun e w' => e = .returned (.tuple #[.string (textN s a).1, .int .i64 (textN s a).2]) ∧ w' = w := by
  have hs2 : s.size ≤ maxLen := by unfold maxLen; omega
  have hr := Nums.readN_range s a 1
  by_cases h : Nums.okRead s a 1 = true
  · have hb := (Nums.okRead_iff _ _ _).1 h
    by_cases h2 : Nums.readN s a 1 ≤ (s.size : Int) - a - 1
    · have HV : Hid (textN s a = (s.extract (a + 1).toNat (a + 1 + Nums.readN s a 1).toNat, a + 1 + Nums.readN s a 1)) := by rw [Hid, textN, if_pos ⟨h, h2⟩]
      go_enter Try.func45, Try.ntmps45
      go_wp2_with fail
      refine (specRead_any s a 1 _ hs2 (by omega)).mono ?_
      rw [h]
      generalize Nums.readN s a 1 = n at *
      rintro e w1 ⟨rfl, rfl⟩
      clear h
      obtain ⟨A, rfl⟩ := Int.eq_ofNat_of_zero_le ha.1
      obtain ⟨M, rfl⟩ := Int.eq_ofNat_of_zero_le hr.1
      have t1 : ((A : Int) + 1).toNat = A + 1 := by omega
      have t2 : ((A : Int) + 1 + (M : Int)).toNat = A + 1 + M := by omega
      rw [t1, t2] at HV
      go_wp2_with fail
      go_ret2
      exact ⟨by rw [HV.out]; rfl, rfl⟩
    · have HV : Hid (textN s a = (ByteArray.empty, -1)) := by rw [Hid, textN, if_neg (fun q => h2 q.2)]
      go_enter Try.func45, Try.ntmps45
      go_wp2_with fail
      refine (specRead_any s a 1 _ hs2 (by omega)).mono ?_
      rw [h]
      generalize Nums.readN s a 1 = n at *
      rintro e w1 ⟨rfl, rfl⟩
      clear h
      go_wp2_with fail
      go_ret2
      exact ⟨by rw [HV.out]; rfl, rfl⟩
  · have HV : Hid (textN s a = (ByteArray.empty, -1)) := by rw [Hid, textN, if_neg (fun q => h q.1)]
    have h' : Nums.okRead s a 1 = false := by simpa using h
    go_enter Try.func45, Try.ntmps45
    go_wp2_with fail
    refine (specRead_any s a 1 _ hs2 (by omega)).mono ?_
    rw [h']
    generalize Nums.readN s a 1 = n at *
    rintro e w1 ⟨rfl, rfl⟩
    clear h h'
    go_wp2_with fail
    go_ret2
    exact ⟨by rw [HV.out]; rfl, rfl⟩

/-- An op's six cells, written. -/
theorem set_six {W : World} {b : Nat} {x0 x1 x2 x3 x4 x5 : Value} {t : TypeId} (h : W.heap[b]? = some (.cells #[x0, x1, x2, x3, x4, x5] t (0, 0))) (y0 y1 y2 y3 y4 y5 : Value) :
    ((((((W.setCell ⟨b, 0, none⟩ y0).setCell ⟨b, 1, none⟩ y1).setCell ⟨b, 2, none⟩ y2).setCell ⟨b, 3, none⟩ y3).setCell ⟨b, 4, none⟩ y4).setCell ⟨b, 5, none⟩ y5).heap[b]? = some (.cells #[y0, y1, y2, y3, y4, y5] t (0, 0)) :=
  set_at (set_at (set_at (set_at (set_at (set_at h 0 y0) 1 y1) 2 y2) 3 y3) 4 y4) 5 y5
theorem bw_six {w W : World} {b : Nat} (h : Below w.heap.size w W) (hb : w.heap.size ≤ b) (y0 y1 y2 y3 y4 y5 : Value) :
    Below w.heap.size w ((((((W.setCell ⟨b, 0, none⟩ y0).setCell ⟨b, 1, none⟩ y1).setCell ⟨b, 2, none⟩ y2).setCell ⟨b, 3, none⟩ y3).setCell ⟨b, 4, none⟩ y4).setCell ⟨b, 5, none⟩ y5) :=
  bw_set (bw_set (bw_set (bw_set (bw_set (bw_set h hb _) hb _) hb _) hb _) hb _) hb _
theorem text_small (s : ByteArray) (a : Int) (h : s.size ≤ 1099511627776) : (textN s a).1.size ≤ s.size := by
  unfold textN
  split
  · rw [ByteArray.size_extract]
    omega
  · exact Nat.zero_le _
theorem text_at (s : ByteArray) (a : Int) : (textN s a).2 = -1 ∨ (0 ≤ a ∧ a + 1 ≤ (textN s a).2 ∧ (textN s a).2 ≤ s.size) := by
  unfold textN
  split
  · rename_i h
    have := (Nums.okRead_iff _ _ _).1 h.1
    have := (Nums.readN_range s a 1).1
    right
    simp only
    omega
  · exact .inl rfl

/-- What ReadOp comes to, by what was read. -/
theorem readOp_by (s : ByteArray) (nm ot : ByteArray) (p q : Int) (h1 : textN s 1 = (nm, p)) (h2 : textN s p = (ot, q)) :
    readOp s = if Nums.okRead s 0 1 = true ∧ 0 ≤ p then (if 0 ≤ q ∧ q + 5 = (s.size : Int) then (if opOk ⟨Nums.readN s 0 1, nm, ot, Nums.readN s q 1, Nums.readN s (q + 1) 2, Nums.readN s (q + 3) 2⟩ = true then (⟨Nums.readN s 0 1, nm, ot, Nums.readN s q 1, Nums.readN s (q + 1) 2, Nums.readN s (q + 3) 2⟩, true) else (Oq.zero, false)) else (Oq.zero, false)) else (Oq.zero, false) := by
  unfold readOp readAt
  rw [h1]
  simp only
  rw [h2]
theorem zero_op : (Value.tuple #[.agg #[.int .i64 Oq.zero.k, .string Oq.zero.nm, .string Oq.zero.ot, .int .i64 Oq.zero.at_, .int .i64 Oq.zero.va, .int .i64 Oq.zero.ep], .bool false]) = .tuple #[.agg #[.int .i64 0, .string ⟨#[]⟩, .string ⟨#[]⟩, .int .i64 0, .int .i64 0, .int .i64 0], .bool false] := rfl

set_option maxHeartbeats 3200000 in
theorem specReadOp_any (s : ByteArray) (w : World) (hs : s.size ≤ 1099511627776) :
    Calls Try.prog 20 #[.string s] w fun e w' => e = .returned (.tuple #[.agg #[.int .i64 (readOp s).1.k, .string (readOp s).1.nm, .string (readOp s).1.ot, .int .i64 (readOp s).1.at_, .int .i64 (readOp s).1.va, .int .i64 (readOp s).1.ep], .bool (readOp s).2]) ∧ Below w.heap.size w w' := by
  have HS2 : Hid (s.size ≤ maxLen) := by rw [Hid]; unfold maxLen; omega
  obtain ⟨nm, p, hT1⟩ : ∃ nm p, textN s 1 = (nm, p) := ⟨_, _, rfl⟩
  obtain ⟨ot, q, hT2⟩ : ∃ ot q, textN s p = (ot, q) := ⟨_, _, rfl⟩
  have ht1 := text_at s 1
  have ht2 := text_at s p
  have z1 := text_small s 1 hs
  have z2 := text_small s p hs
  rw [hT1] at ht1 z1
  rw [hT2] at ht2 z2
  simp only at ht1 ht2 z1 z2
  have HR : Hid _ := readOp_by s nm ot p q hT1 hT2
  have HT1 : Hid _ := hT1
  have HT2 : Hid _ := hT2
  obtain ⟨kd, hkd⟩ : ∃ x, Nums.readN s 0 1 = x := ⟨_, rfl⟩
  obtain ⟨ok, hok⟩ : ∃ x, Nums.okRead s 0 1 = x := ⟨_, rfl⟩
  have HK : Hid (Nums.readN s 0 1 = kd ∧ Nums.okRead s 0 1 = ok) := ⟨hkd, hok⟩
  rw [hkd, hok] at HR
  clear hT1 hT2 hkd hok
  go_enter Try.func20, Try.ntmps20
  go_wp2_with fail
  refine (specRead_any s 0 1 _ HS2.out (by omega)).mono ?_
  rw [HK.out.1, HK.out.2]
  rintro e w1 ⟨rfl, rfl⟩
  go_wp2_with fail
  refine (l7Text_any s 1 _ hs (by omega)).mono ?_
  rw [HT1.out]
  rintro e w1 ⟨rfl, rfl⟩
  simp only
  cases ok
  · have HV : Hid (readOp s = (Oq.zero, false)) := by rw [Hid, HR.out, if_neg (fun h => by cases h.1)]
    clear HR
    go_wp2_with fail
    exact bodyPost_ret (v := .tuple #[.agg #[.int .i64 0, .string ⟨#[]⟩, .string ⟨#[]⟩, .int .i64 0, .int .i64 0, .int .i64 0], .bool false]) (by simp [results, Try.results20, go_sem]) rfl ⟨by rw [HV.out]; exact congrArg _ zero_op.symm, by go_grown⟩
  by_cases h1 : p < 0
  · have HV : Hid (readOp s = (Oq.zero, false)) := by rw [Hid, HR.out, if_neg (fun h => by omega)]
    clear HR
    go_wp2_with fail
    exact bodyPost_ret (v := .tuple #[.agg #[.int .i64 0, .string ⟨#[]⟩, .string ⟨#[]⟩, .int .i64 0, .int .i64 0, .int .i64 0], .bool false]) (by simp [results, Try.results20, go_sem]) rfl ⟨by rw [HV.out]; exact congrArg _ zero_op.symm, by go_grown⟩
  go_wp2_with fail
  refine (l7Text_any s p _ hs (by omega)).mono ?_
  rw [HT2.out]
  rintro e w1 ⟨rfl, rfl⟩
  simp only
  by_cases h2 : q < 0
  · have HV : Hid (readOp s = (Oq.zero, false)) := by rw [Hid, HR.out, if_pos ⟨by first | rfl | trivial, by omega⟩, if_neg (fun h => by omega)]
    clear HR
    go_wp2_with fail
    exact bodyPost_ret (v := .tuple #[.agg #[.int .i64 0, .string ⟨#[]⟩, .string ⟨#[]⟩, .int .i64 0, .int .i64 0, .int .i64 0], .bool false]) (by simp [results, Try.results20, go_sem]) rfl ⟨by rw [HV.out]; exact congrArg _ zero_op.symm, by go_grown⟩
  by_cases h3 : ¬ q + 5 = (s.size : Int)
  · have HV : Hid (readOp s = (Oq.zero, false)) := by rw [Hid, HR.out, if_pos ⟨by first | rfl | trivial, by omega⟩, if_neg (fun h => h3 h.2)]
    have hq : (q + 5 != (s.size : Int)) = true := by rw [bne_iff_ne]; exact h3
    clear HR
    go_wp2_with fail
    exact bodyPost_ret (v := .tuple #[.agg #[.int .i64 0, .string ⟨#[]⟩, .string ⟨#[]⟩, .int .i64 0, .int .i64 0, .int .i64 0], .bool false]) (by simp [results, Try.results20, go_sem]) rfl ⟨by rw [HV.out]; exact congrArg _ zero_op.symm, by go_grown⟩
  have h3' : q + 5 = (s.size : Int) := by omega
  have HV : Hid (readOp s = if opOk ⟨kd, nm, ot, Nums.readN s q 1, Nums.readN s (q + 1) 2, Nums.readN s (q + 3) 2⟩ = true then (⟨kd, nm, ot, Nums.readN s q 1, Nums.readN s (q + 1) 2, Nums.readN s (q + 3) 2⟩, true) else (Oq.zero, false)) := by rw [Hid, HR.out, if_pos ⟨by first | rfl | trivial, by omega⟩, if_pos ⟨by omega, h3'⟩]
  have hq : (q + 5 != (s.size : Int)) = false := by rw [bne_eq_false_iff_eq]; exact h3'
  obtain ⟨av, hav⟩ : ∃ x, Nums.readN s q 1 = x := ⟨_, rfl⟩
  obtain ⟨vv, hvv⟩ : ∃ x, Nums.readN s (q + 1) 2 = x := ⟨_, rfl⟩
  obtain ⟨ev, hev⟩ : ∃ x, Nums.readN s (q + 3) 2 = x := ⟨_, rfl⟩
  have HN : Hid (Nums.readN s q 1 = av ∧ Nums.readN s (q + 1) 2 = vv ∧ Nums.readN s (q + 3) 2 = ev) := ⟨hav, hvv, hev⟩
  rw [hav, hvv, hev] at HV
  have hw1 : IntKind.i64.wrap (q + 1) = q + 1 := by rw [IntKind.wrap_i64]; omega
  have hw3 : IntKind.i64.wrap (q + 3) = q + 3 := by rw [IntKind.wrap_i64]; omega
  have hw5 : IntKind.i64.wrap (q + 5) = q + 5 := by rw [IntKind.wrap_i64]; omega
  clear HR hav hvv hev h3 h3'
  go_wp2_with fail
  refine (specRead_any s q 1 _ HS2.out (by omega)).mono ?_
  rw [HN.out.1]
  rintro e w1 ⟨rfl, rfl⟩
  go_wp2_with fail
  refine (specRead_any s (q + 1) 2 _ HS2.out (by omega)).mono ?_
  rw [HN.out.2.1]
  rintro e w1 ⟨rfl, rfl⟩
  go_wp2_with fail
  refine (specRead_any s (q + 3) 2 _ HS2.out (by omega)).mono ?_
  rw [HN.out.2.2]
  rintro e w1 ⟨rfl, rfl⟩
  obtain ⟨W0, hW0, k0, k1, d0, z0⟩ := box2 w #[.int .i64 0, .string ⟨#[]⟩, .string ⟨#[]⟩, .int .i64 0, .int .i64 0, .int .i64 0] #[.int .i64 kd, .string nm, .string ot, .int .i64 av, .int .i64 vv, .int .i64 ev] 33 33
  have HW0 : Hid (W0 = _) := hW0
  have s0 := heap_lt k0
  have s1 := heap_lt k1
  clear hW0 z0
  go_wp2_with fail
  rw [← HW0.out]
  clear HW0
  refine (specOpOk_any kd nm ot av vv ev _ (Nat.le_trans z1 HS2.out) (Nat.le_trans z2 HS2.out)).mono ?_
  rintro e w1 ⟨rfl, b1⟩
  replace k0 := (b1.block _ s0).trans k0
  replace k1 := (b1.block _ s1).trans k1
  replace d0 := bw_call d0 b1
  have q0 := at_cell k0 0
  have q1 := at_cell k0 1
  have q2 := at_cell k0 2
  have q3 := at_cell k0 3
  have q4 := at_cell k0 4
  have q5 := at_cell k0 5
  have f0 := at_open k0 0
  have f1 := at_open k0 1
  have f2 := at_open k0 2
  have f3 := at_open k0 3
  have f4 := at_open k0 4
  have f5 := at_open k0 5
  cases h : opOk ⟨kd, nm, ot, av, vv, ev⟩
  · have HV2 : Hid (readOp s = (Oq.zero, false)) := by rw [Hid, HV.out, if_neg (by rw [h]; decide)]
    have HS : Hid _ := And.intro (set_six k0 (.int .i64 0) (.string ⟨#[]⟩) (.string ⟨#[]⟩) (.int .i64 0) (.int .i64 0) (.int .i64 0)) (bw_six d0 (Nat.le_refl _) (.int .i64 0) (.string ⟨#[]⟩) (.string ⟨#[]⟩) (.int .i64 0) (.int .i64 0) (.int .i64 0))
    clear HV k0 k1 d0 h b1
    go_wp2_with fail
    exact bodyPost_ret (v := .tuple #[.agg #[.int .i64 0, .string ⟨#[]⟩, .string ⟨#[]⟩, .int .i64 0, .int .i64 0, .int .i64 0], .bool false]) (by simp [results, Try.results20, go_sem, at_cell HS.out.1]) rfl ⟨by rw [HV2.out]; exact congrArg _ zero_op.symm, HS.out.2⟩
  · have HV2 : Hid (readOp s = (⟨kd, nm, ot, av, vv, ev⟩, true)) := by rw [Hid, HV.out, if_pos h]
    have HS : Hid _ := And.intro (set_six k0 (.int .i64 kd) (.string nm) (.string ot) (.int .i64 av) (.int .i64 vv) (.int .i64 ev)) (bw_six d0 (Nat.le_refl _) (.int .i64 kd) (.string nm) (.string ot) (.int .i64 av) (.int .i64 vv) (.int .i64 ev))
    have p0 := at_cell k1 0
    have p1 := at_cell k1 1
    have p2 := at_cell k1 2
    have p3 := at_cell k1 3
    have p4 := at_cell k1 4
    have p5 := at_cell k1 5
    clear HV k0 k1 d0 h b1
    go_wp2_with fail
    exact bodyPost_ret (v := .tuple #[.agg #[.int .i64 kd, .string nm, .string ot, .int .i64 av, .int .i64 vv, .int .i64 ev], .bool true]) (by simp [results, Try.results20, go_sem, at_cell HS.out.1]) rfl ⟨by rw [HV2.out], HS.out.2⟩

end Go.Proofs.Ytbjkbhchcoabcak
