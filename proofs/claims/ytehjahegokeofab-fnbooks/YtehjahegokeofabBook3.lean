/-
  Chapter 6: the specification's Alike, at every argument.
-/
import Derived.Test.YtehjahegokeofabBook2
namespace Go.Proofs.Ytehjahegokeofab
open Go.RowKit
set_option linter.unusedVariables false

set_option maxHeartbeats 3200000 in
theorem specAlike_any (nm : ByteArray) (sz : Int) (m : Value) (rs : List (Int × Int × Int)) (fx : Bool) (ep : Int) (nm' : ByteArray) (sz' : Int) (m' : Value) (rs' : List (Int × Int × Int)) (fx' : Bool) (ep' : Int) (w : World) (hn : nm.size ≤ maxLen) (hn' : nm'.size ≤ maxLen) (r : ReadsR 3 runC w.heap.size w m rs) (r' : ReadsR 3 runC w.heap.size w m' rs') :
    Calls Try.prog 41 #[.agg #[.string nm, .int .i64 sz, m, .bool fx, .int .i64 ep], .agg #[.string nm', .int .i64 sz', m', .bool fx', .int .i64 ep']] w fun e w' => e = .returned (.bool (alike nm sz rs ep nm' sz' rs' ep')) ∧ Below w.heap.size w w' := by
  obtain ⟨o, cap, rfl⟩ := r.form
  obtain ⟨o', cap', rfl⟩ := r'.form
  obtain ⟨W0, hW0, k0, k1, d0, z0⟩ := box2 w #[.string nm, .int .i64 sz, .slice o rs.length cap, .bool fx, .int .i64 ep] #[.string nm', .int .i64 sz', .slice o' rs'.length cap', .bool fx', .int .i64 ep'] 50 50
  have r0 := (r.below d0).mono d0.size
  have r1 := (r'.below d0).mono d0.size
  have HW0 : Hid (W0 = _) := hW0
  have p0 := at_cell k0 0
  have p1 := at_cell k0 1
  have p2 := at_cell k0 2
  have p3 := at_cell k0 3
  have p4 := at_cell k0 4
  clear hW0 r r'
  go_enter Try.func41, Try.ntmps41
  go_wp2_with fail
  rw [← HW0.out]
  clear HW0 p0 p1 p2 p3 p4
  refine (specBookOk_any nm sz _ rs fx ep _ hn r0).mono ?_
  rintro e w1 ⟨rfl, b1⟩
  replace k0 := (b1.block _ (by omega)).trans k0
  replace k1 := (b1.block _ (by omega)).trans k1
  replace d0 := bw_call d0 b1
  replace r0 := (r0.below b1).mono b1.size
  replace r1 := (r1.below b1).mono b1.size
  have z1 := b1.size
  clear b1
  cases h1 : bookOk nm sz rs ep
  · have HV : Hid (alike nm sz rs ep nm' sz' rs' ep' = false) := by simp [Hid, alike, h1]
    clear h1 k0 k1 r0 r1
    go_wp2_with fail
    go_ret
    exact ⟨ret_bool HV.out.symm, d0⟩
  have H1 : Hid _ := h1
  have p0 := at_cell k1 0
  have p1 := at_cell k1 1
  have p2 := at_cell k1 2
  have p3 := at_cell k1 3
  have p4 := at_cell k1 4
  clear h1
  go_wp2_with fail
  clear p0 p1 p2 p3 p4
  refine (specBookOk_any nm' sz' _ rs' fx' ep' _ hn' r1).mono ?_
  rintro e w2 ⟨rfl, b1⟩
  replace k0 := (b1.block _ (by omega)).trans k0
  replace k1 := (b1.block _ (by omega)).trans k1
  replace d0 := bw_call d0 b1
  replace r0 := (r0.below b1).mono b1.size
  replace r1 := (r1.below b1).mono b1.size
  replace z1 := Nat.le_trans z1 b1.size
  clear b1
  cases h2 : bookOk nm' sz' rs' ep'
  · have HV : Hid (alike nm sz rs ep nm' sz' rs' ep' = false) := by simp [Hid, alike, h2]
    clear h2 k0 k1 r0 r1
    go_wp2_with fail
    go_ret
    exact ⟨ret_bool HV.out.symm, d0⟩
  have H2 : Hid _ := h2
  clear h2
  have p1 := at_cell k0 1
  have p2 := at_cell k0 2
  have q1 := at_cell k1 1
  have q2 := at_cell k1 2
  by_cases h3 : sz = sz'
  · subst h3
    have HV : Hid (alike nm sz rs ep nm' sz rs' ep' = decide (rs = rs')) := by rw [Hid, alike, H1.out, H2.out]; simp
    clear H1 H2
    obtain ⟨_, _, e1, m1, c1, -⟩ := r0
    cases e1
    obtain ⟨_, _, e2, m2, c2, -⟩ := r1
    cases e2
    by_cases hlen : rs.length = rs'.length
    · have C1 : Hid _ := three_cells c1
      have C2 : Hid _ := three_cells c2
      have HL : Hid (rs.length = rs'.length) := hlen
      have HK : Hid _ := And.intro k0 (And.intro k1 z1)
      rw [← hlen] at q2 ⊢
      have hle : rs'.length ≤ rs.length := by omega
      have hge : rs.length ≤ rs'.length := by omega
      unfold maxLen at m1
      clear c1 c2 m2 hlen k0 k1
      go_wp2_with fail
      clear p1 p2 q1 q2
      go_loopw [5] (fun i wr => ∃ k : Nat, k ≤ rs.length ∧ i = .int .i64 k ∧ rs.take k = rs'.take k ∧ Below w2.heap.size w2 wr) (fun i _ => rs.length - (intOf i).toNat)
      case atStart => exact ⟨0, Nat.zero_le _, rfl, rfl, Below.refl _ _⟩
      case round =>
        obtain ⟨k, hk, rfl, htk, hb⟩ := hrel
        have HT : Hid (rs.take k = rs'.take k) := htk
        have k0 := (hb.block _ (by have := HK.out.2.2; omega)).trans HK.out.1
        have k1 := (hb.block _ (by have := HK.out.2.2; omega)).trans HK.out.2.1
        have p2 := at_cell k0 2
        have q2 := at_cell k1 2
        have hbw := bw_call d0 hb
        clear htk k0 k1
        rw [← HL.out] at q2
        by_cases hlt : k < rs.length
        · have hlt2 : k < rs'.length := by omega
          obtain ⟨g1, of1, rfl, y1, a0, a1, a2⟩ := C1.out k hlt
          obtain ⟨g2, of2, rfl, y2, b0, b1, b2⟩ := C2.out k hlt2
          have HE : Hid (rs[k] = rs'[k] → rs.take (k + 1) = rs'.take (k + 1)) := fun e => take_more rs rs' k hlt hlt2 HT.out e
          have HNE : Hid (rs[k] ≠ rs'[k] → ¬ rs = rs') := fun e => ne_at rs rs' k hlt hlt2 e
          generalize rs[k] = x at a0 a1 a2 HE HNE
          generalize rs'[k] = y at b0 b1 b2 HE HNE
          obtain ⟨f, c, p⟩ := x
          obtain ⟨f', c', p'⟩ := y
          simp only at a0 a1 a2 b0 b1 b2
          replace a0 := (hb.cell (p := ⟨g1, of1 + k * 3, none⟩) y1).trans a0
          replace a1 := (hb.cell (p := ⟨g1, of1 + k * 3 + 1, none⟩) y1).trans a1
          replace a2 := (hb.cell (p := ⟨g1, of1 + k * 3 + 2, none⟩) y1).trans a2
          replace b0 := (hb.cell (p := ⟨g2, of2 + k * 3, none⟩) y2).trans b0
          replace b1 := (hb.cell (p := ⟨g2, of2 + k * 3 + 1, none⟩) y2).trans b1
          replace b2 := (hb.cell (p := ⟨g2, of2 + k * 3 + 2, none⟩) y2).trans b2
          clear C1 C2
          by_cases hx : (f, c, p) = (f', c', p')
          · have HT2 : Hid _ := HE.out hx
            simp only [Prod.mk.injEq] at hx
            obtain ⟨rfl, rfl, rfl⟩ := hx
            clear HE HNE
            go_wp2_with fail
            go_quiet (fail)
            go_wp2_with fail
            go_roundw
            case rel => exact ⟨k + 1, by omega, by go_num, HT2.out, ⟨hb.os, hb.tape, hb.output, hb.size, hb.block⟩⟩
            case measure => simp [intOf]; omega
          · have HN : Hid _ := HNE.out hx
            clear HE HNE
            by_cases e1 : f = f'
            · subst e1
              by_cases e2 : c = c'
              · subst e2
                have e3 : ¬ p = p' := fun e => hx (by rw [e])
                have h1 : (p == p') = false := by simpa using e3
                clear hx
                go_wp2_with fail
                go_quiet (fail)
                go_wp2_with fail
                go_ret
                exact ⟨ret_bool (by rw [HV.out, decide_eq_false HN.out]), ⟨hbw.os, hbw.tape, hbw.output, hbw.size, hbw.block⟩⟩
              · have h1 : (c == c') = false := by simpa using e2
                clear hx
                go_wp2_with fail
                go_quiet (fail)
                go_wp2_with fail
                go_ret
                exact ⟨ret_bool (by rw [HV.out, decide_eq_false HN.out]), ⟨hbw.os, hbw.tape, hbw.output, hbw.size, hbw.block⟩⟩
            · have h1 : (f == f') = false := by simpa using e1
              clear hx
              go_wp2_with fail
              go_quiet (fail)
              go_wp2_with fail
              go_ret
              exact ⟨ret_bool (by rw [HV.out, decide_eq_false HN.out]), ⟨hbw.os, hbw.tape, hbw.output, hbw.size, hbw.block⟩⟩
        · have HQ : Hid (rs = rs') := all_taken rs rs' k hlt HL.out HT.out
          go_wp2_with fail
          go_ret
          exact ⟨ret_bool (by rw [HV.out, decide_eq_true HQ.out]), hbw⟩
    · have hx : ((rs.length : Int) != (rs'.length : Int)) = true := by rw [bne_iff_ne]; omega
      have HX : Hid (decide (rs = rs') = false) := by rw [Hid, decide_eq_false_iff_not]; intro e; rw [e] at hlen; exact hlen rfl
      unfold maxLen at m1 m2
      clear hlen c1 c2 k0 k1
      go_wp2_with fail
      go_ret
      exact ⟨ret_bool (by rw [HV.out, HX.out]), d0⟩
  · have HV : Hid (alike nm sz rs ep nm' sz' rs' ep' = false) := by simp [Hid, alike, h3]
    have hq : (sz != sz') = true := by rw [bne_iff_ne]; exact h3
    have hq2 : (sz == sz') = false := by rw [beq_eq_false_iff_ne]; exact h3
    clear k0 k1 r0 r1 h3
    go_wp2_with fail
    go_ret
    exact ⟨ret_bool HV.out.symm, d0⟩

end Go.Proofs.Ytehjahegokeofab
