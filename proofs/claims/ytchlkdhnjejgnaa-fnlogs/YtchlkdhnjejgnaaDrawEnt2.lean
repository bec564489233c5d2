/-
  Chapter 11's draws for the laws: a log that may be wrong (l11DrawAny), DrawEntryOk, DrawBegins, DrawSeqOf.
-/
import Derived.Test.YtchlkdhnjejgnaaDrawEnt
import Derived.BigQuiet
namespace Go.Proofs.Ytchlkdhnjejgnaa
open Go.RowKit
set_option linter.unusedVariables false
set_option maxRecDepth 100000

theorem LgSt.cells {c g cp : Nat} {x : Option Addr} {len cap : Nat} {w W : World} {l : List Ent} (h : LgSt c x len cap w W g cp l) (i : Nat) (hi : i < l.length) (j : Nat) (hj : j < 9) : W.cell? ⟨g, i * 9 + j, none⟩ = (entC l[i])[j]? ∧ W.frozen? ⟨g, i * 9 + j, none⟩ = false := own_cell entC_len h.own i j _ (List.getElem?_eq_getElem hi) hj

theorem LgSt.putOp {c g cp : Nat} {x : Option Addr} {len cap : Nat} {w W : World} {l : List Ent} (h : LgSt c x len cap w W g cp l) (i : Nat) (hi : i < l.length) (o : Oq) (fo : OpFit o) : LgSt c x len cap w ((((((W.setCell ⟨g, i * 9 + 3, none⟩ (.int .i64 o.k)).setCell ⟨g, i * 9 + 3 + 1, none⟩ (.string o.nm)).setCell ⟨g, i * 9 + 3 + 2, none⟩ (.string o.ot)).setCell ⟨g, i * 9 + 3 + 3, none⟩ (.int .i64 o.at_)).setCell ⟨g, i * 9 + 3 + 4, none⟩ (.int .i64 o.va)).setCell ⟨g, i * 9 + 3 + 5, none⟩ (.int .i64 o.ep)) g cp (l.set i ⟨l[i].sq, l[i].cl, l[i].tg, o⟩) := by
  have fe := h.fit l[i] (List.getElem_mem hi)
  have s0 := h.put i 3 hi ⟨l[i].sq, l[i].cl, l[i].tg, ⟨o.k, l[i].o.nm, l[i].o.ot, l[i].o.at_, l[i].o.va, l[i].o.ep⟩⟩ (.int .i64 o.k) (by omega) (by first | rfl | (rw [List.getElem_set_self]; rfl)) ⟨fe.sq, fe.cl, fe.tg, ⟨fo.k, fe.o.nm, fe.o.ot, fe.o.at_, fe.o.va, fe.o.ep⟩⟩
  have s1 := s0.put i 4 (by simpa using hi) ⟨l[i].sq, l[i].cl, l[i].tg, ⟨o.k, o.nm, l[i].o.ot, l[i].o.at_, l[i].o.va, l[i].o.ep⟩⟩ (.string o.nm) (by omega) (by first | rfl | (rw [List.getElem_set_self]; rfl)) ⟨fe.sq, fe.cl, fe.tg, ⟨fo.k, fo.nm, fe.o.ot, fe.o.at_, fe.o.va, fe.o.ep⟩⟩
  rw [List.set_set] at s1
  have s2 := s1.put i 5 (by simpa using hi) ⟨l[i].sq, l[i].cl, l[i].tg, ⟨o.k, o.nm, o.ot, l[i].o.at_, l[i].o.va, l[i].o.ep⟩⟩ (.string o.ot) (by omega) (by first | rfl | (rw [List.getElem_set_self]; rfl)) ⟨fe.sq, fe.cl, fe.tg, ⟨fo.k, fo.nm, fo.ot, fe.o.at_, fe.o.va, fe.o.ep⟩⟩
  rw [List.set_set] at s2
  have s3 := s2.put i 6 (by simpa using hi) ⟨l[i].sq, l[i].cl, l[i].tg, ⟨o.k, o.nm, o.ot, o.at_, l[i].o.va, l[i].o.ep⟩⟩ (.int .i64 o.at_) (by omega) (by first | rfl | (rw [List.getElem_set_self]; rfl)) ⟨fe.sq, fe.cl, fe.tg, ⟨fo.k, fo.nm, fo.ot, fo.at_, fe.o.va, fe.o.ep⟩⟩
  rw [List.set_set] at s3
  have s4 := s3.put i 7 (by simpa using hi) ⟨l[i].sq, l[i].cl, l[i].tg, ⟨o.k, o.nm, o.ot, o.at_, o.va, l[i].o.ep⟩⟩ (.int .i64 o.va) (by omega) (by first | rfl | (rw [List.getElem_set_self]; rfl)) ⟨fe.sq, fe.cl, fe.tg, ⟨fo.k, fo.nm, fo.ot, fo.at_, fo.va, fe.o.ep⟩⟩
  rw [List.set_set] at s4
  have s5 := s4.put i 8 (by simpa using hi) ⟨l[i].sq, l[i].cl, l[i].tg, o⟩ (.int .i64 o.ep) (by omega) (by first | rfl | (rw [List.getElem_set_self]; rfl)) ⟨fe.sq, fe.cl, fe.tg, ⟨fo.k, fo.nm, fo.ot, fo.at_, fo.va, fo.ep⟩⟩
  rw [List.set_set] at s5
  exact s5

set_option maxHeartbeats 6400000 in
theorem draw11Any_any (c : Nat) (x : Option Addr) (len cap : Nat) (w : World) (hc : Cur w c x len cap) :
    Calls Try.prog 42 #[.pointer (some ⟨c, 0, none⟩)] w fun e w' => ∃ (g cp : Nat) (l : List Ent), e = .returned (.slice (some ⟨g, 0, none⟩) l.length cp) ∧ LgSt c x len cap w w' g cp l := by
  go_enter Try.func42, Try.ntmps42
  go_wp2_with fail
  refine (draw11_any c x len cap _ hc).mono ?_
  rintro e w1 ⟨g, cp, l, rfl, st⟩
  clear hc
  have hfew := st.few
  by_cases hpos : 0 < l.length
  · have hp1 : (0 : Int) < (l.length : Int) := by omega
    go_wp2_with fail
    refine (once_any c x len cap 8 _ (by omega) st.kc).mono ?_
    rintro e w2 ⟨y, rfl, u2, k2⟩
    replace st := st.step u2 k2
    clear u2 k2
    cases y
    · go_wp2_with fail
      go_ret
      exact ⟨g, cp, l, rfl, st⟩
    · go_wp2_with fail
      refine (below_any c x len cap (l.length : Int) _ (by omega) st.kc).mono ?_
      rintro e w3 ⟨I0, rfl, hI, u3, k3⟩
      have hI1 := hI.2.1 (by omega)
      obtain ⟨I, rfl⟩ := Int.eq_ofNat_of_zero_le hI.1
      have hi : I < l.length := by omega
      replace st := st.step u3 k3
      clear u3 k3 hI
      have i0 : (0 : Int) ≤ (I : Int) := by omega
      go_wp2_with fail
      refine (below_any c x len cap 4 _ (by omega) st.kc).mono ?_
      rintro e w4 ⟨m, rfl, hm, u4, k4⟩
      have hm4 := hm.2.1 (by omega)
      have hmm : m = 0 ∨ m = 1 ∨ m = 2 ∨ m = 3 := by have := hm.1; omega
      replace st := st.step u4 k4
      clear u4 k4 hm hm4
      have hfe := st.fit l[I] (List.getElem_mem hi)
      rcases hmm with rfl | rfl | rfl | rfl
      · go_wp2_with fail
        refine (from_any c x len cap (-1) 9 _ (by omega) (by omega) (by omega) st.kc).mono ?_
        rintro e w5 ⟨z, rfl, hz, u5, k5⟩
        replace st := st.step u5 k5
        clear u5 k5
        have q0 := st.cells I hi 0 (by omega)
        have HS : Hid _ := st.put I 0 hi ⟨z, l[I].cl, l[I].tg, l[I].o⟩ (.int .i64 z) (by omega) rfl ⟨by simp only; omega, hfe.cl, hfe.tg, hfe.o⟩
        have q1 := q0.1
        have q2 := q0.2
        rw [Nat.add_zero] at q1 q2 HS
        clear q0 st hfe
        go_wp2_with fail
        go_ret
        exact ⟨g, cp, _, by simp, HS.out⟩
      · have HL : Hid (∀ jn : Nat, jn < 4 → ∃ z : Int, (#[.int .i64 0, .int .i64 1, .int .i64 1000, .int .i64 1001] : Array Value)[jn]? = some (.int .i64 z) ∧ (-1 ≤ z ∧ z ≤ 1001)) := fun jn h => by
          have h5 : jn = 0 ∨ jn = 1 ∨ jn = 2 ∨ jn = 3 := by omega
          rcases h5 with rfl | rfl | rfl | rfl
          · exact ⟨0, rfl, by omega⟩
          · exact ⟨1, rfl, by omega⟩
          · exact ⟨1000, rfl, by omega⟩
          · exact ⟨1001, rfl, by omega⟩
        go_wp2_with fail
        refine (below_any c x len cap 4 _ (by omega) (st.kc.alloc _)).mono ?_
        rintro e w5 ⟨z0, rfl, hz, u5, k5⟩
        have hz4 := hz.2.1 (by omega)
        obtain ⟨jn, rfl⟩ := Int.eq_ofNat_of_zero_le hz.1
        obtain ⟨z, hzz, hzf⟩ := HL.out jn (by omega)
        have hy6 : (0 : Int) ≤ (jn : Int) := by omega
        have hzp : w5.cell? ⟨w4.heap.size, jn, none⟩ = some (.int .i64 z) := (pick_cell u5 st.kc.lt jn).trans hzz
        replace st := st.step (((Upto.refl c w4).alloc _).trans u5) k5
        clear u5 k5 hz HL hzz
        have q0 := st.cells I hi 2 (by omega)
        have HS : Hid _ := st.put I 2 hi ⟨l[I].sq, l[I].cl, z, l[I].o⟩ (.int .i64 z) (by omega) rfl ⟨hfe.sq, hfe.cl, hzf, hfe.o⟩
        have q1 := q0.1
        have q2 := q0.2
        clear q0 st hfe
        go_wp2_with fail
        go_ret
        exact ⟨g, cp, _, by simp, HS.out⟩
      · go_wp2_with fail
        refine (from_any c x len cap (-1) 4 _ (by omega) (by omega) (by omega) st.kc).mono ?_
        rintro e w5 ⟨z, rfl, hz, u5, k5⟩
        replace st := st.step u5 k5
        clear u5 k5
        have q0 := st.cells I hi 1 (by omega)
        have HS : Hid _ := st.put I 1 hi ⟨l[I].sq, z, l[I].tg, l[I].o⟩ (.int .i64 z) (by omega) rfl ⟨hfe.sq, by simp only; omega, hfe.tg, hfe.o⟩
        have q1 := q0.1
        have q2 := q0.2
        clear q0 st hfe
        go_wp2_with fail
        go_ret
        exact ⟨g, cp, _, by simp, HS.out⟩
      · go_wp2_with fail
        refine (draw7Any_any c x len cap _ st.kc).mono ?_
        rintro e w5 ⟨⟨ko, nm, ot, at_, va, ep⟩, rfl, fo, u5, k5⟩
        simp only
        replace st := st.step u5 k5
        clear u5 k5
        have HS : Hid _ := st.putOp I hi ⟨ko, nm, ot, at_, va, ep⟩ fo
        have q3 : w5.cell? ⟨g, I * 9 + 3, none⟩ = some (.int .i64 l[I].o.k) := (st.cells I hi 3 (by omega)).1
        have r3 := (st.cells I hi 3 (by omega)).2
        have q4 : w5.cell? ⟨g, I * 9 + 3 + 1, none⟩ = some (.string l[I].o.nm) := (st.cells I hi 4 (by omega)).1
        have r4 : w5.frozen? ⟨g, I * 9 + 3 + 1, none⟩ = false := (st.cells I hi 4 (by omega)).2
        have q5 : w5.cell? ⟨g, I * 9 + 3 + 2, none⟩ = some (.string l[I].o.ot) := (st.cells I hi 5 (by omega)).1
        have r5 : w5.frozen? ⟨g, I * 9 + 3 + 2, none⟩ = false := (st.cells I hi 5 (by omega)).2
        have q6 : w5.cell? ⟨g, I * 9 + 3 + 3, none⟩ = some (.int .i64 l[I].o.at_) := (st.cells I hi 6 (by omega)).1
        have r6 : w5.frozen? ⟨g, I * 9 + 3 + 3, none⟩ = false := (st.cells I hi 6 (by omega)).2
        have q7 : w5.cell? ⟨g, I * 9 + 3 + 4, none⟩ = some (.int .i64 l[I].o.va) := (st.cells I hi 7 (by omega)).1
        have r7 : w5.frozen? ⟨g, I * 9 + 3 + 4, none⟩ = false := (st.cells I hi 7 (by omega)).2
        have q8 : w5.cell? ⟨g, I * 9 + 3 + 5, none⟩ = some (.int .i64 l[I].o.ep) := (st.cells I hi 8 (by omega)).1
        have r8 : w5.frozen? ⟨g, I * 9 + 3 + 5, none⟩ = false := (st.cells I hi 8 (by omega)).2
        generalize l[I].o.k = v3 at q3
        generalize l[I].o.nm = v4 at q4
        generalize l[I].o.ot = v5 at q5
        generalize l[I].o.at_ = v6 at q6
        generalize l[I].o.va = v7 at q7
        generalize l[I].o.ep = v8 at q8
        clear st hfe fo
        go_wp2_with fail
        go_ret
        exact ⟨g, cp, _, by simp, HS.out⟩
  · have hp1 : ¬ (0 : Int) < (l.length : Int) := by omega
    go_wp2_with fail
    go_ret
    exact ⟨g, cp, l, rfl, st⟩

set_option maxHeartbeats 6400000 in
theorem drawEntryOk_any (x : Option Addr) (len cap : Nat) (w : World) (hs : Src w w.heap.size x len) :
    Calls Try.prog 20 #[.slice x len cap] w fun r w' => ∃ e : Ent, r = .returned (.agg #[.int .i64 e.sq, .int .i64 e.cl, .int .i64 e.tg, .int .i64 e.o.k, .string e.o.nm, .string e.o.ot, .int .i64 e.o.at_, .int .i64 e.o.va, .int .i64 e.o.ep]) ∧ EntFit e ∧ Below w.heap.size w w' := by
  obtain ⟨W0, hW0, kR, d0, z0⟩ := box1 w #[.int .i64 0, .int .i64 0, .int .i64 0, .int .i64 0, .string ⟨#[]⟩, .string ⟨#[]⟩, .int .i64 0, .int .i64 0, .int .i64 0] 56
  have HW0 : Hid (W0 = _) := hW0
  have hs0 := (hs.below d0).mono d0.size
  have sR : w.heap.size < W0.heap.size := by omega
  clear hW0 z0 hs
  go_enter Try.func20, Try.ntmps20
  go_wp2_with fail
  rw [← HW0.out]
  clear HW0
  refine (new_any x len cap _ hs0).mono ?_
  rintro e w1 ⟨rfl, b1, kc⟩
  replace kR := (b1.block _ sR).trans kR
  replace d0 := bw_call d0 b1
  have z1 := b1.size
  have kl := kc.lt
  clear b1 hs0
  go_wp2_with fail
  refine (draw11Any_any _ x len cap _ kc).mono ?_
  rintro e w2 ⟨g, cp, l, rfl, st⟩
  replace kR := (st.u.block _ (Nat.lt_of_lt_of_le sR z1) (Nat.ne_of_lt sR)).trans kR
  replace d0 := d0.trans (st.u.toBelow (by omega) (by omega))
  have sR2 : w.heap.size < w2.heap.size := heap_lt kR
  have hfew := st.few
  clear kc
  by_cases hpos : 0 < l.length
  · have hp1 : (0 : Int) < (l.length : Int) := by omega
    go_wp2_with fail
    refine (below_any _ x len cap (l.length : Int) _ (by omega) st.kc).mono ?_
    rintro e w3 ⟨I0, rfl, hI, u3, k3⟩
    have hI1 := hI.2.1 (by omega)
    obtain ⟨I, rfl⟩ := Int.eq_ofNat_of_zero_le hI.1
    have hi : I < l.length := by omega
    replace st := st.step u3 k3
    replace kR := (u3.block _ sR2 (by omega)).trans kR
    replace d0 := d0.trans (u3.toBelow (by omega) (by omega))
    have i0 : (0 : Int) ≤ (I : Int) := by omega
    have fe := st.fit l[I] (List.getElem_mem hi)
    have ce := (own_nine st.own I hi).1
    clear u3 k3 hI st
    generalize l[I] = e at fe ce
    obtain ⟨sq, cl, tg, ⟨k, nm, ot, at_, va, ep⟩⟩ := e
    simp only at ce
    obtain ⟨a0, a1, a2, a3, a4, a5, a6, a7, a8⟩ := ce
    have q0 := at_cell kR 0
    have g0 := at_open kR 0
    have q1 := at_cell kR 1
    have g1 := at_open kR 1
    have q2 := at_cell kR 2
    have g2 := at_open kR 2
    have q3 := at_cell kR 3
    have g3 := at_open kR 3
    have q4 := at_cell kR 4
    have g4 := at_open kR 4
    have q5 := at_cell kR 5
    have g5 := at_open kR 5
    have q6 := at_cell kR 6
    have g6 := at_open kR 6
    have q7 := at_cell kR 7
    have g7 := at_open kR 7
    have q8 := at_cell kR 8
    have g8 := at_open kR 8
    have HS : Hid _ := put_nine (b := w.heap.size) (Nat.le_refl _) kR d0 (.int .i64 sq) (.int .i64 cl) (.int .i64 tg) (.int .i64 k) (.string nm) (.string ot) (.int .i64 at_) (.int .i64 va) (.int .i64 ep)
    have HF : Hid _ := fe
    clear kR d0 fe
    go_wp2_with fail
    exact bodyPost_ret (v := .agg #[.int .i64 sq, .int .i64 cl, .int .i64 tg, .int .i64 k, .string nm, .string ot, .int .i64 at_, .int .i64 va, .int .i64 ep]) (by simp [results, Try.results20, go_sem, at_cell HS.out.1]) rfl ⟨⟨sq, cl, tg, ⟨k, nm, ot, at_, va, ep⟩⟩, rfl, HF.out, HS.out.2⟩
  · have hp1 : ¬ (0 : Int) < (l.length : Int) := by omega
    have q0 := at_cell kR 0
    have g0 := at_open kR 0
    have q1 := at_cell kR 1
    have g1 := at_open kR 1
    have q2 := at_cell kR 2
    have g2 := at_open kR 2
    have q3 := at_cell kR 3
    have g3 := at_open kR 3
    have q4 := at_cell kR 4
    have g4 := at_open kR 4
    have q5 := at_cell kR 5
    have g5 := at_open kR 5
    have q6 := at_cell kR 6
    have g6 := at_open kR 6
    have q7 := at_cell kR 7
    have g7 := at_open kR 7
    have q8 := at_cell kR 8
    have g8 := at_open kR 8
    have HS : Hid _ := put_nine (b := w.heap.size) (Nat.le_refl _) kR d0 (.int .i64 0) (.int .i64 0) (.int .i64 0) (.int .i64 0) (.string ⟨#[]⟩) (.string ⟨#[]⟩) (.int .i64 0) (.int .i64 0) (.int .i64 0)
    clear kR d0 st
    go_wp2_with fail
    exact bodyPost_ret (v := .agg #[.int .i64 0, .int .i64 0, .int .i64 0, .int .i64 0, .string ⟨#[]⟩, .string ⟨#[]⟩, .int .i64 0, .int .i64 0, .int .i64 0]) (by simp [results, Try.results20, go_sem, at_cell HS.out.1]) rfl ⟨⟨0, 0, 0, ⟨0, ⟨#[]⟩, ⟨#[]⟩, 0, 0, 0⟩⟩, rfl, ⟨by simp, by simp, by simp, ⟨by simp, sz0, sz0, by simp, by simp, by simp⟩⟩, HS.out.2⟩

set_option maxHeartbeats 6400000 in
theorem drawSeqOf_any (x : Option Addr) (len cap : Nat) (w : World) (hs : Src w w.heap.size x len) :
    Calls Try.prog 18 #[.slice x len cap] w fun r w' => ∃ (v : Value) (l : List Ent) (c t : Int), r = .returned (.tuple #[v, .int .i64 c, .int .i64 t]) ∧ ReadsR 9 entC w'.heap.size w' v l ∧ FitLog l ∧ l.length ≤ 16 ∧ Below w.heap.size w w' := by
  go_enter Try.func18, Try.ntmps18
  go_wp2_with fail
  refine (new_any x len cap _ hs).mono ?_
  rintro e w1 ⟨rfl, d0, kc⟩
  have kl := kc.lt
  go_wp2_with fail
  refine (draw11Any_any _ x len cap _ kc).mono ?_
  rintro e w2 ⟨g, cp, l, rfl, st⟩
  replace d0 := d0.trans (st.u.toBelow (by omega) (by omega))
  have hfew := st.few
  have s2 := d0.size
  clear kc
  by_cases hpos : 0 < l.length
  · have hp1 : (0 : Int) < (l.length : Int) := by omega
    go_wp2_with fail
    refine (once_any _ x len cap 2 _ (by omega) st.kc).mono ?_
    rintro e w3 ⟨y, rfl, u3, k3⟩
    replace d0 := d0.trans (u3.toBelow (by omega) (by omega))
    replace st := st.step u3 k3
    have s3 := d0.size
    clear u3 k3
    cases y
    · go_wp2_with fail
      refine (from_any _ x len cap (-1) 4 _ (by omega) (by omega) (by omega) st.kc).mono ?_
      rintro e w4 ⟨c1, rfl, hc1, u4, k4⟩
      replace d0 := d0.trans (u4.toBelow (by omega) (by omega))
      replace st := st.step u4 k4
      have s4 := d0.size
      clear u4 k4
      go_wp2_with fail
      refine (from_any _ x len cap 0 9 _ (by omega) (by omega) (by omega) st.kc).mono ?_
      rintro e w5 ⟨t1, rfl, ht1, u5, k5⟩
      replace d0 := d0.trans (u5.toBelow (by omega) (by omega))
      replace st := st.step u5 k5
      clear u5 k5
      go_wp2_with fail
      exact bodyPost_ret (v := .tuple #[.slice (some ⟨g, 0, none⟩) l.length cp, .int .i64 c1, .int .i64 t1]) (by simp [results, Try.results18, go_sem]) rfl ⟨_, l, c1, t1, rfl, st.reads, st.fits, hfew, d0⟩
    · go_wp2_with fail
      refine (below_any _ x len cap (l.length : Int) _ (by omega) st.kc).mono ?_
      rintro e w4 ⟨I0, rfl, hI, u4, k4⟩
      have hI1 := hI.2.1 (by omega)
      obtain ⟨I, rfl⟩ := Int.eq_ofNat_of_zero_le hI.1
      have hi : I < l.length := by omega
      replace st := st.step u4 k4
      replace d0 := d0.trans (u4.toBelow (by omega) (by omega))
      have i0 : (0 : Int) ≤ (I : Int) := by omega
      have ce := (own_nine st.own I hi).1
      clear u4 k4 hI
      generalize l[I] = e at ce
      obtain ⟨sq, cl, tg, ⟨k, nm, ot, at_, va, ep⟩⟩ := e
      simp only at ce
      obtain ⟨a0, a1, a2, a3, a4, a5, a6, a7, a8⟩ := ce
      obtain ⟨W5, hW5, k5, d5, z5⟩ := box1 w4 #[.int .i64 sq, .int .i64 cl, .int .i64 tg, .int .i64 k, .string nm, .string ot, .int .i64 at_, .int .i64 va, .int .i64 ep] 56
      have HW5 : Hid (W5 = _) := hW5
      have p1 := at_cell k5 1
      have p2 := at_cell k5 2
      have st5 := st.below d5
      have d6 := bw_call d0 d5
      clear hW5 z5 k5 d5 st d0
      go_upto_region 6 with fail
      rw [← HW5.out]
      clear HW5 a0 a1 a2 a3 a4 a5 a6 a7 a8
      go_quiet (fail)
      generalize hw7 : W5.drewN _ = W7
      have b7 : Below W5.heap.size W5 W7 := by rw [← hw7]; exact ⟨rfl, rfl, rfl, Nat.le_refl _, fun _ _ => rfl⟩
      clear hw7
      have st7 := st5.below b7
      have d7 := bw_call d6 b7
      clear st5 b7 d6 p1 p2
      go_wp2_with fail
      exact bodyPost_ret (v := .tuple #[.slice (some ⟨g, 0, none⟩) l.length cp, .int .i64 cl, .int .i64 tg]) (by simp [results, Try.results18, go_sem]) rfl ⟨_, l, cl, tg, rfl, st7.reads, st7.fits, hfew, d7⟩
  · have hp1 : ¬ (0 : Int) < (l.length : Int) := by omega
    go_wp2_with fail
    refine (from_any _ x len cap (-1) 4 _ (by omega) (by omega) (by omega) st.kc).mono ?_
    rintro e w4 ⟨c1, rfl, hc1, u4, k4⟩
    replace d0 := d0.trans (u4.toBelow (by omega) (by omega))
    replace st := st.step u4 k4
    have s4 := d0.size
    clear u4 k4
    go_wp2_with fail
    refine (from_any _ x len cap 0 9 _ (by omega) (by omega) (by omega) st.kc).mono ?_
    rintro e w5 ⟨t1, rfl, ht1, u5, k5⟩
    replace d0 := d0.trans (u5.toBelow (by omega) (by omega))
    replace st := st.step u5 k5
    clear u5 k5
    go_wp2_with fail
    exact bodyPost_ret (v := .tuple #[.slice (some ⟨g, 0, none⟩) l.length cp, .int .i64 c1, .int .i64 t1]) (by simp [results, Try.results18, go_sem]) rfl ⟨_, l, c1, t1, rfl, st.reads, st.fits, hfew, d0⟩

end Go.Proofs.Ytchlkdhnjejgnaa
