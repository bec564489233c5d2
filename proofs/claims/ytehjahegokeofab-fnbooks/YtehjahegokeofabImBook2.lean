/-
  Chapter 6: slices.Equal over runs, the program's Alike.
-/
import Derived.Test.YtehjahegokeofabImBook1
namespace Go.Proofs.Ytehjahegokeofab
open Go.RowKit
set_option linter.unusedVariables false

set_option maxHeartbeats 1600000 in
theorem slicesEqual_any (v1 v2 : Value) (xs ys : List (Int × Int × Int)) (w : World) (h1 : ReadsR 3 runC w.heap.size w v1 xs) (h2 : ReadsR 3 runC w.heap.size w v2 ys) :
    Calls Try.prog 77 #[v1, v2] w fun e w' => e = .returned (.bool (decide (xs = ys))) ∧ Below w.heap.size w w' := by
  obtain ⟨o1, cap1, rfl, m1, c1, -⟩ := h1
  obtain ⟨o2, cap2, rfl, m2, c2, -⟩ := h2
  by_cases hlen : xs.length = ys.length
  · rw [← hlen]
    have C1 : Hid _ := three_cells c1
    have C2 : Hid _ := three_cells c2
    have HL : Hid (xs.length = ys.length) := hlen
    have hle : ys.length ≤ xs.length := by omega
    have hge : xs.length ≤ ys.length := by omega
    unfold maxLen at m1
    clear c1 c2 m2 hlen
    go_enter Try.func77, Try.ntmps77
    go_wp2
    go_loopw [13] (fun i wr => ∃ k : Nat, k ≤ xs.length ∧ i = .int .i64 k ∧ xs.take k = ys.take k ∧ Below w.heap.size w wr) (fun i _ => xs.length - (intOf i).toNat)
    case atStart => exact ⟨0, Nat.zero_le _, rfl, rfl, Below.refl _ _⟩
    case round =>
      obtain ⟨k, hk, rfl, htk, hb⟩ := hrel
      have HT : Hid (xs.take k = ys.take k) := htk
      clear htk
      by_cases hlt : k < xs.length
      · have hlt2 : k < ys.length := by omega
        obtain ⟨g1, of1, rfl, q1, a0, a1, a2⟩ := C1.out k hlt
        obtain ⟨g2, of2, rfl, q2, b0, b1, b2⟩ := C2.out k hlt2
        have HE : Hid (xs[k] = ys[k] → xs.take (k + 1) = ys.take (k + 1)) := fun e => take_more xs ys k hlt hlt2 HT.out e
        have HNE : Hid (xs[k] ≠ ys[k] → ¬ xs = ys) := fun e => ne_at xs ys k hlt hlt2 e
        generalize xs[k] = x at a0 a1 a2 HE HNE
        generalize ys[k] = y at b0 b1 b2 HE HNE
        obtain ⟨f, c, p⟩ := x
        obtain ⟨f', c', p'⟩ := y
        simp only at a0 a1 a2 b0 b1 b2
        have l1 : g1 < wr.heap.size := Nat.lt_of_lt_of_le q1 hb.size
        have l2 : g2 < wr.heap.size := Nat.lt_of_lt_of_le q2 hb.size
        have d0 := (hb.cell (p := ⟨g1, of1 + k * 3, none⟩) q1).trans a0
        have d1 := (hb.cell (p := ⟨g1, of1 + k * 3 + 1, none⟩) q1).trans a1
        have d2 := (hb.cell (p := ⟨g1, of1 + k * 3 + 2, none⟩) q1).trans a2
        have f0 := (hb.cell (p := ⟨g2, of2 + k * 3, none⟩) q2).trans b0
        have f1 := (hb.cell (p := ⟨g2, of2 + k * 3 + 1, none⟩) q2).trans b1
        have f2 := (hb.cell (p := ⟨g2, of2 + k * 3 + 2, none⟩) q2).trans b2
        clear a0 a1 a2 b0 b1 b2 C1 C2
        by_cases hx : (f, c, p) = (f', c', p')
        · have HT2 : Hid _ := HE.out hx
          simp only [Prod.mk.injEq] at hx
          obtain ⟨rfl, rfl, rfl⟩ := hx
          clear HE HNE
          go_wp2
          go_quiet (fail)
          go_wp2
          go_roundw
          case rel => exact ⟨k + 1, by omega, by go_num, HT2.out, ⟨hb.os, hb.tape, hb.output, hb.size, hb.block⟩⟩
          case measure => simp [intOf]; omega
        · have HN : Hid _ := HNE.out hx
          clear HE HNE
          by_cases e1 : f = f'
          · subst e1
            by_cases e2 : c = c'
            · subst e2
              have e3 : ¬ p = p' := fun e => hx (by rw [e])
              have h1 : (p == p') = false := by simpa using e3
              clear hx
              go_wp2
              go_quiet (fail)
              go_wp2
              go_ret
              exact ⟨ret_bool (decide_eq_false HN.out).symm, ⟨hb.os, hb.tape, hb.output, hb.size, hb.block⟩⟩
            · have h1 : (c == c') = false := by simpa using e2
              clear hx
              go_wp2
              go_quiet (fail)
              go_wp2
              go_ret
              exact ⟨ret_bool (decide_eq_false HN.out).symm, ⟨hb.os, hb.tape, hb.output, hb.size, hb.block⟩⟩
          · have h1 : (f == f') = false := by simpa using e1
            clear hx
            go_wp2
            go_quiet (fail)
            go_wp2
            go_ret
            exact ⟨ret_bool (decide_eq_false HN.out).symm, ⟨hb.os, hb.tape, hb.output, hb.size, hb.block⟩⟩
      · go_wp2
        go_ret
        exact ⟨ret_bool (by simp [all_taken xs ys k hlt HL.out HT.out]), hb⟩
  · have hn : ((xs.length : Int) != (ys.length : Int)) = true := by rw [bne_iff_ne]; omega
    have HX : Hid (decide (xs = ys) = false) := by rw [Hid, decide_eq_false_iff_not]; intro e; rw [e] at hlen; exact hlen rfl
    unfold maxLen at m1 m2
    clear hlen c1 c2
    go_enter Try.func77, Try.ntmps77
    go_wp2
    go_ret
    exact ⟨ret_bool HX.out.symm, Below.refl _ _⟩

set_option maxHeartbeats 1600000 in
theorem implAlike_any (nm : ByteArray) (sz : Int) (m : Value) (rs : List (Int × Int × Int)) (fx : Bool) (ep : Int) (nm' : ByteArray) (sz' : Int) (m' : Value) (rs' : List (Int × Int × Int)) (fx' : Bool) (ep' : Int) (w : World) (hn : nm.size ≤ maxLen) (hn' : nm'.size ≤ maxLen) (hfit : FitRuns rs) (hfit' : FitRuns rs') (r : ReadsR 3 runC w.heap.size w m rs) (r' : ReadsR 3 runC w.heap.size w m' rs') :
    Calls Try.prog 40 #[.agg #[.string nm, .int .i64 sz, m, .bool fx, .int .i64 ep], .agg #[.string nm', .int .i64 sz', m', .bool fx', .int .i64 ep']] w fun e w' => e = .returned (.bool (alike nm sz rs ep nm' sz' rs' ep')) ∧ Below w.heap.size w w' := by
  obtain ⟨o, cap, rfl⟩ := r.form
  obtain ⟨o', cap', rfl⟩ := r'.form
  obtain ⟨W0, hW0, k0, k1, d0, z0⟩ := box2 w #[.string nm, .int .i64 sz, .slice o rs.length cap, .bool fx, .int .i64 ep] #[.string nm', .int .i64 sz', .slice o' rs'.length cap', .bool fx', .int .i64 ep'] 50 50
  have r0 := (r.below d0).mono d0.size
  have r1 := (r'.below d0).mono d0.size
  have HW0 : Hid (W0 = _) := hW0
  have p0 := at_cell k0 0
  have p1 := at_cell k0 1
  have p2 := at_cell k0 2
  have p3 := at_cell k0 3
  have p4 := at_cell k0 4
  clear hW0 r r'
  go_enter Try.func40, Try.ntmps40
  go_wp2_with fail
  rw [← HW0.out]
  clear HW0 p0 p1 p2 p3 p4
  refine (implBookOk_any nm sz _ rs fx ep _ hn hfit r0).mono ?_
  rintro e w1 ⟨rfl, b1⟩
  replace k0 := (b1.block _ (by omega)).trans k0
  replace k1 := (b1.block _ (by omega)).trans k1
  replace d0 := bw_call d0 b1
  replace r0 := (r0.below b1).mono b1.size
  replace r1 := (r1.below b1).mono b1.size
  have z1 := b1.size
  clear b1
  cases h1 : bookOk nm sz rs ep
  · have HV : Hid (alike nm sz rs ep nm' sz' rs' ep' = false) := by simp [Hid, alike, h1]
    clear h1 k0 k1 r0 r1
    go_wp2_with fail
    go_ret
    exact ⟨ret_bool HV.out.symm, d0⟩
  have H1 : Hid _ := h1
  have p0 := at_cell k1 0
  have p1 := at_cell k1 1
  have p2 := at_cell k1 2
  have p3 := at_cell k1 3
  have p4 := at_cell k1 4
  clear h1
  go_wp2_with fail
  clear p0 p1 p2 p3 p4
  refine (implBookOk_any nm' sz' _ rs' fx' ep' _ hn' hfit' r1).mono ?_
  rintro e w2 ⟨rfl, b1⟩
  replace k0 := (b1.block _ (by omega)).trans k0
  replace k1 := (b1.block _ (by omega)).trans k1
  replace d0 := bw_call d0 b1
  replace r0 := (r0.below b1).mono b1.size
  replace r1 := (r1.below b1).mono b1.size
  clear b1
  cases h2 : bookOk nm' sz' rs' ep'
  · have HV : Hid (alike nm sz rs ep nm' sz' rs' ep' = false) := by simp [Hid, alike, h2]
    clear h2 k0 k1 r0 r1
    go_wp2_with fail
    go_ret
    exact ⟨ret_bool HV.out.symm, d0⟩
  have H2 : Hid _ := h2
  clear h2
  have p1 := at_cell k0 1
  have p2 := at_cell k0 2
  have q1 := at_cell k1 1
  have q2 := at_cell k1 2
  by_cases h3 : sz = sz'
  · subst h3
    have HV : Hid (alike nm sz rs ep nm' sz rs' ep' = decide (rs = rs')) := by rw [Hid, alike, H1.out, H2.out]; simp
    clear H1 H2 k0 k1
    go_wp2_with fail
    refine (slicesEqual_any _ _ rs rs' _ r0 r1).mono ?_
    rintro e w3 ⟨rfl, b1⟩
    replace d0 := bw_call d0 b1
    generalize decide (rs = rs') = dd at HV ⊢
    clear p1 p2 q1 q2 r0 r1 b1
    go_wp2_with fail
    go_ret
    exact ⟨ret_bool HV.out.symm, d0⟩
  · have HV : Hid (alike nm sz rs ep nm' sz' rs' ep' = false) := by simp [Hid, alike, h3]
    have hq2 : (sz == sz') = false := by rw [beq_eq_false_iff_ne]; exact h3
    clear k0 k1 r0 r1 h3
    go_wp2_with fail
    go_ret
    exact ⟨ret_bool HV.out.symm, d0⟩

end Go.Proofs.Ytehjahegokeofab
