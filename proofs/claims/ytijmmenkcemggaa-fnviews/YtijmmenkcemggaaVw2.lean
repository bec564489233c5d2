/-
  Chapter 14: the specification's HeadOf, TailOf, NextOf, PrevOf, at every argument.
-/
import Derived.Test.YtijmmenkcemggaaVw1
namespace Go.Proofs.Ytijmmenkcemggaa
open Go.RowKit Nums
set_option linter.unusedVariables false
set_option maxRecDepth 100000

theorem headOf_no {n : Int} {ms : List Int} (h : viewOk n ms = false) : headOf n ms = -1 ∧ tailOf n ms = -1 := ⟨by rw [headOf, if_neg (by rw [h]; decide)], by rw [tailOf, if_neg (by rw [h]; decide)]⟩
theorem headOf_yes {n : Int} {ms : List Int} (h : viewOk n ms = true) : ∃ hl : 0 < ms.length, headOf n ms = ms[0] ∧ tailOf n ms = ms[ms.length - 1] := by
  have hl : 0 < ms.length := by have := (viewOk_parts h).2.2.2.1; omega
  refine ⟨hl, ?_, ?_⟩
  · rw [headOf, if_pos h, List.getD_eq_getElem?_getD, List.getElem?_eq_getElem hl]; rfl
  · rw [tailOf, if_pos h, List.getD_eq_getElem?_getD, List.getElem?_eq_getElem (show ms.length - 1 < ms.length by omega)]; rfl

set_option maxHeartbeats 1600000 in
theorem specHeadOf_any (n : Int) (v : Value) (ms : List Int) (w : World) (r : Reads w.heap.size w v (ms.map (Value.int .i64))) :
    Calls Try.prog 32 #[.agg #[.int .i64 n, v]] w fun e w' => e = .returned (.int .i64 (headOf n ms)) ∧ Below w.heap.size w w' := by
  obtain ⟨W0, hW0, k0, d0, z0⟩ := box1 w #[.int .i64 n, v] 26
  have r0 := (r.below d0).mono d0.size
  have HW0 : Hid (W0 = _) := hW0
  have p0 := at_cell k0 0
  have p1 := at_cell k0 1
  clear hW0 r
  go_enter Try.func32, Try.ntmps32
  go_wp2_with fail
  rw [← HW0.out]
  clear HW0
  refine (specViewOk_any n v ms _ r0).mono ?_
  rintro e w1 ⟨rfl, b1⟩
  replace k0 := (b1.block _ (by omega)).trans k0
  replace d0 := bw_call d0 b1
  replace r0 := r0.below b1
  clear p0 p1
  have p0 := at_cell k0 0
  have p1 := at_cell k0 1
  cases hok : viewOk n ms
  · have HV : Hid _ := headOf_no hok
    clear hok k0 r0
    go_wp2_with fail
    go_ret
    exact ⟨ret_int HV.out.1.symm, d0⟩
  · obtain ⟨hl, hh, ht⟩ := headOf_yes hok
    have HV : Hid (headOf n ms = ms[0]) := hh
    obtain ⟨o1, cap1, rfl, m1, c1, -⟩ := r0
    obtain ⟨g1, of1, rfl, q1, cc1⟩ := cellsI_of c1 0 hl
    simp only [List.length_map, Nat.add_zero] at p1 cc1
    generalize ms[0] = x at HV cc1
    have hl' : (0 : Int) < (ms.length : Int) := by omega
    clear hok k0 c1 m1 hh ht
    go_wp2_with fail
    go_ret
    exact ⟨ret_int HV.out.symm, d0⟩

set_option maxHeartbeats 1600000 in
theorem specTailOf_any (n : Int) (v : Value) (ms : List Int) (w : World) (r : Reads w.heap.size w v (ms.map (Value.int .i64))) :
    Calls Try.prog 33 #[.agg #[.int .i64 n, v]] w fun e w' => e = .returned (.int .i64 (tailOf n ms)) ∧ Below w.heap.size w w' := by
  obtain ⟨W0, hW0, k0, d0, z0⟩ := box1 w #[.int .i64 n, v] 26
  have r0 := (r.below d0).mono d0.size
  have HW0 : Hid (W0 = _) := hW0
  have p0 := at_cell k0 0
  have p1 := at_cell k0 1
  clear hW0 r
  go_enter Try.func33, Try.ntmps33
  go_wp2_with fail
  rw [← HW0.out]
  clear HW0
  refine (specViewOk_any n v ms _ r0).mono ?_
  rintro e w1 ⟨rfl, b1⟩
  replace k0 := (b1.block _ (by omega)).trans k0
  replace d0 := bw_call d0 b1
  replace r0 := r0.below b1
  clear p0 p1
  have p0 := at_cell k0 0
  have p1 := at_cell k0 1
  cases hok : viewOk n ms
  · have HV : Hid _ := headOf_no hok
    clear hok k0 r0
    go_wp2_with fail
    go_ret
    exact ⟨ret_int HV.out.2.symm, d0⟩
  · obtain ⟨hl, hh, ht⟩ := headOf_yes hok
    have hle := (viewOk_parts hok).2.2.2.2
    have HV : Hid (tailOf n ms = ms[ms.length - 1]) := ht
    obtain ⟨o1, cap1, rfl, m1, c1, -⟩ := r0
    obtain ⟨g1, of1, rfl, q1, cc1⟩ := cellsI_of c1 (ms.length - 1) (by omega)
    simp only [List.length_map] at p1
    generalize ms[ms.length - 1] = x at HV cc1
    obtain ⟨k, hk⟩ : ∃ k, ms.length = k + 1 := ⟨ms.length - 1, by omega⟩
    rw [hk] at p1 cc1
    simp only [Nat.add_sub_cancel] at cc1
    have hw1 : IntKind.i64.wrap ((k : Int) + 1 - 1) = k := by rw [IntKind.wrap_i64]; omega
    have hw2 : (k : Int) + 1 - 1 = k := by omega
    have hw4 : IntKind.i64.wrap (k : Int) = k := by rw [IntKind.wrap_i64]; omega
    have hi0 : (0 : Int) ≤ (k : Int) := by omega
    have hi1 : (k : Int) < (k : Int) + 1 := by omega
    clear hok k0 c1 m1 hh ht hl hle hk
    go_wp2_with fail
    go_ret
    exact ⟨ret_int HV.out.symm, d0⟩

theorem vAt_bd (ms : List Int) (h : Int) : -1 ≤ vAt ms h ∧ vAt ms h < ms.length := by
  rcases vAt_range ms h with ⟨q, -⟩ | ⟨i, hi, q, -⟩ <;> omega

theorem nextOf_no {n : Int} {ms : List Int} {h : Int} (q : viewOk n ms = false ∨ vAt ms h < 0) : nextOf n ms h = -1 := by
  rw [nextOf, if_neg]
  rintro ⟨q1, q2⟩
  rcases q with q | q
  · rw [q] at q1; cases q1
  · omega
theorem nextOf_yes {n : Int} {ms : List Int} {h : Int} (q1 : viewOk n ms = true) (q2 : 0 ≤ vAt ms h) : nextOf n ms h = vMem ms (vAt ms h + 1) := by rw [nextOf, if_pos ⟨q1, q2⟩]

set_option maxHeartbeats 3200000 in
theorem specNextOf_any (n : Int) (v : Value) (ms : List Int) (h : Int) (w : World) (r : Reads w.heap.size w v (ms.map (Value.int .i64))) :
    Calls Try.prog 29 #[.agg #[.int .i64 n, v], .int .i64 h] w fun e w' => e = .returned (.int .i64 (nextOf n ms h)) ∧ Below w.heap.size w w' := by
  obtain ⟨W0, hW0, k0, d0, z0⟩ := box1 w #[.int .i64 n, v] 26
  have r0 := (r.below d0).mono d0.size
  have HW0 : Hid (W0 = _) := hW0
  have p0 := at_cell k0 0
  have p1 := at_cell k0 1
  clear hW0 r
  go_enter Try.func29, Try.ntmps29
  go_wp2_with fail
  rw [← HW0.out]
  clear HW0
  refine (specViewOk_any n v ms _ r0).mono ?_
  rintro e w1 ⟨rfl, b1⟩
  replace k0 := (b1.block _ (by omega)).trans k0
  replace d0 := bw_call d0 b1
  replace r0 := (r0.below b1).mono b1.size
  have s1 := b1.size
  clear p0 p1 b1
  have p0 := at_cell k0 0
  have p1 := at_cell k0 1
  cases hok : viewOk n ms
  · have HV : Hid _ := nextOf_no (h := h) (.inl hok)
    clear hok k0 r0
    go_wp2_with fail
    go_ret
    exact ⟨ret_int HV.out.symm, d0⟩
  · go_wp2_with fail
    refine (l14At_any n v ms h _ r0).mono ?_
    rintro e w2 ⟨rfl, b2⟩
    replace k0 := (b2.block _ (by omega)).trans k0
    replace d0 := bw_call d0 b2
    replace r0 := (r0.below b2).mono b2.size
    have s2 := b2.size
    clear p0 p1 b2
    by_cases ha : vAt ms h < 0
    · have HV : Hid _ := nextOf_no (n := n) (.inr ha)
      generalize vAt ms h = a at ha HV
      clear hok k0 r0
      go_wp2_with fail
      go_ret
      exact ⟨ret_int HV.out.symm, d0⟩
    · have HV : Hid _ := nextOf_yes hok (show 0 ≤ vAt ms h by omega)
      have hbd := vAt_bd ms h
      have hle := (viewOk_parts hok).2.2.2.2
      have HA := fun (W : World) (q : Reads W.heap.size W v (ms.map (Value.int .i64))) => l14At_any n v ms h W q
      generalize vAt ms h = a at ha HV hbd HA
      have hw : IntKind.i64.wrap (a + 1) = a + 1 := by rw [IntKind.wrap_i64]; omega
      have rD : Reads w2.drew.heap.size w2.drew v (ms.map (Value.int .i64)) := r0.below ((Below.refl _ _).drew)
      have S0 := at_cell (W := w2.drew) k0 0
      have S1 := at_cell (W := w2.drew) k0 1
      go_wp2_with fail
      go_region_law (first
        | (have q25 := r3; clear q25; go_simp; go_at_call 59; refine (l14Member_any n v ms (a + 1) _ r3).mono ?_; rintro e w4 ⟨rfl, b4⟩; dsimp only)
        | (go_simp; go_at_call 52; refine (HA _ rD).mono ?_; rintro e w3 ⟨rfl, b3⟩; have k3 := (b3.block _ (show w.heap.size < w2.heap.size by omega)).trans k0; have S30 := at_cell k3 0; have S31 := at_cell k3 1; have r3 := (rD.below b3).mono b3.size; dsimp only))
      all_goals
        have D4 : Below w.heap.size w w4 := bw_call (bw_call (bw_drew d0) b3) b4
        clear k3 r3 b3 b4 S30 S31 rD HA hok k0 r0
        go_wp2_with fail
        go_ret
        exact ⟨ret_int HV.out.symm, D4⟩

theorem prevOf_no {n : Int} {ms : List Int} {h : Int} (q : viewOk n ms = false ∨ vAt ms h < 0) : prevOf n ms h = -1 := by
  rw [prevOf, if_neg]
  rintro ⟨q1, q2⟩
  rcases q with q | q
  · rw [q] at q1; cases q1
  · omega
theorem prevOf_yes {n : Int} {ms : List Int} {h : Int} (q1 : viewOk n ms = true) (q2 : 0 ≤ vAt ms h) : prevOf n ms h = vMem ms (vAt ms h - 1) := by rw [prevOf, if_pos ⟨q1, q2⟩]

set_option maxHeartbeats 3200000 in
theorem specPrevOf_any (n : Int) (v : Value) (ms : List Int) (h : Int) (w : World) (r : Reads w.heap.size w v (ms.map (Value.int .i64))) :
    Calls Try.prog 30 #[.agg #[.int .i64 n, v], .int .i64 h] w fun e w' => e = .returned (.int .i64 (prevOf n ms h)) ∧ Below w.heap.size w w' := by
  obtain ⟨W0, hW0, k0, d0, z0⟩ := box1 w #[.int .i64 n, v] 26
  have r0 := (r.below d0).mono d0.size
  have HW0 : Hid (W0 = _) := hW0
  have p0 := at_cell k0 0
  have p1 := at_cell k0 1
  clear hW0 r
  go_enter Try.func30, Try.ntmps30
  go_wp2_with fail
  rw [← HW0.out]
  clear HW0
  refine (specViewOk_any n v ms _ r0).mono ?_
  rintro e w1 ⟨rfl, b1⟩
  replace k0 := (b1.block _ (by omega)).trans k0
  replace d0 := bw_call d0 b1
  replace r0 := (r0.below b1).mono b1.size
  have s1 := b1.size
  clear p0 p1 b1
  have p0 := at_cell k0 0
  have p1 := at_cell k0 1
  cases hok : viewOk n ms
  · have HV : Hid _ := prevOf_no (h := h) (.inl hok)
    clear hok k0 r0
    go_wp2_with fail
    go_ret
    exact ⟨ret_int HV.out.symm, d0⟩
  · go_wp2_with fail
    refine (l14At_any n v ms h _ r0).mono ?_
    rintro e w2 ⟨rfl, b2⟩
    replace k0 := (b2.block _ (by omega)).trans k0
    replace d0 := bw_call d0 b2
    replace r0 := (r0.below b2).mono b2.size
    have s2 := b2.size
    clear p0 p1 b2
    by_cases ha : vAt ms h < 0
    · have HV : Hid _ := prevOf_no (n := n) (.inr ha)
      generalize vAt ms h = a at ha HV
      clear hok k0 r0
      go_wp2_with fail
      go_ret
      exact ⟨ret_int HV.out.symm, d0⟩
    · have HV : Hid _ := prevOf_yes hok (show 0 ≤ vAt ms h by omega)
      have hbd := vAt_bd ms h
      have hle := (viewOk_parts hok).2.2.2.2
      have HA := fun (W : World) (q : Reads W.heap.size W v (ms.map (Value.int .i64))) => l14At_any n v ms h W q
      generalize vAt ms h = a at ha HV hbd HA
      have hw : IntKind.i64.wrap (a - 1) = a - 1 := by rw [IntKind.wrap_i64]; omega
      have rD : Reads w2.drew.heap.size w2.drew v (ms.map (Value.int .i64)) := r0.below ((Below.refl _ _).drew)
      have S0 := at_cell (W := w2.drew) k0 0
      have S1 := at_cell (W := w2.drew) k0 1
      go_wp2_with fail
      go_region_law (first
        | (have q25 := r3; clear q25; go_simp; go_at_call 59; refine (l14Member_any n v ms (a - 1) _ r3).mono ?_; rintro e w4 ⟨rfl, b4⟩; dsimp only)
        | (go_simp; go_at_call 52; refine (HA _ rD).mono ?_; rintro e w3 ⟨rfl, b3⟩; have k3 := (b3.block _ (show w.heap.size < w2.heap.size by omega)).trans k0; have S30 := at_cell k3 0; have S31 := at_cell k3 1; have r3 := (rD.below b3).mono b3.size; dsimp only))
      all_goals
        have D4 : Below w.heap.size w w4 := bw_call (bw_call (bw_drew d0) b3) b4
        clear k3 r3 b3 b4 S30 S31 rD HA hok k0 r0
        go_wp2_with fail
        go_ret
        exact ⟨ret_int HV.out.symm, D4⟩

end Go.Proofs.Ytijmmenkcemggaa
