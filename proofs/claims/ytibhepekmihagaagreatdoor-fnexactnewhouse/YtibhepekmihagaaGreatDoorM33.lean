/-
  Contracts and plain laws, one chapter behind the other.
-/
import Derived.Test.YtibhepekmihagaaGreatDoorM32
namespace Go.Proofs.YtibhepekmihagaaGreatDoor
open Go.RowKit Nums

set_option linter.unusedVariables false

set_option maxRecDepth 100000


set_option maxHeartbeats 6400000 in
theorem l13Replayed_nil (n : Int) (v : Value) (l : List Ent) (hl0 : l = []) (w : World) (hf : FitLog l) (hok : rpOk n l = true) (r : ReadsR 9 entC w.heap.size w v l) :
    Calls Tryz.prog 40 #[.int .i64 n, v] w fun e w' => ∃ u1 u2 ub t1 t2 : Value, e = .returned (.tuple #[.agg #[u1, u2, ub], .agg #[t1, t2]]) ∧ OwnD w.heap.size w' u1 u2 ub (rpFrom (rpNew n) l).s ∧ OwnM w.heap.size w' t1 t2 (rpFrom (rpNew n) l).ts (rpFrom (rpNew n) l).rs ∧ Below w.heap.size w w' := by
  obtain ⟨hn, hl120, hio⟩ := rpOk_parts hok
  obtain ⟨o, cap, rfl, hm, hc, -⟩ := r
  have HC : Hid _ := nine_cells hc
  have HF : Hid _ := hf
  have HL0 : Hid (l = []) := hl0
  clear hl0
  have HRD : Hid _ := fun k (hk : k ≤ l.length) => replay_round hn hio k hk
  have HSP : Hid _ := fun k (hk : k < l.length) => replay_step hn hio k hk
  obtain ⟨⟨⟨cs0, ps0⟩, made⟩, hnp⟩ : ∃ x, newPool n = x := ⟨_, rfl⟩
  have HS0 : Hid (rpNew n = ⟨⟨cs0, ps0, []⟩, newM.1, newM.2⟩) := by rw [Hid, rpNew, hnp]; rfl
  obtain ⟨W0, hW0, k0, k1, d0, z0⟩ := box2 w #[.slice none 0 0, .slice none 0 0, .slice none 0 0] #[.slice none 0 0, .slice none 0 0] 28 31
  have HW0 : Hid (W0 = _) := hW0
  clear hW0 hc hm hok hf hio
  go_enter Tryz.func40, Tryz.ntmps40
  go_upto_region 1 with fail
  rw [← HW0.out]
  clear HW0
  go_upto_region 2 with (go_at_call 92; refine (specNewShelf_any n _).mono ?_; rw [hnp]; rintro e w1 ⟨u1, u2, rfl, ownP, b1⟩; dsimp only at ownP ⊢; obtain ⟨o1, c1, hf1⟩ := own_slice ownP.c; obtain ⟨o2, c2, hf2⟩ := own_slice ownP.p; subst hf1 hf2)
  have kS := heap_alloc_new w1 (.cells #[.slice o1 cs0.length c1, .slice o2 ps0.length c2, .slice none 0 0] 28)
  have dS : Below w1.heap.size w1 (w1.alloc (.cells #[.slice o1 cs0.length c1, .slice o2 ps0.length c2, .slice none 0 0] 28)) := bw_alloc (Below.refl _ _)
  have sS : (w1.alloc (.cells #[.slice o1 cs0.length c1, .slice o2 ps0.length c2, .slice none 0 0] 28)).heap.size = w1.heap.size + 1 := by simp
  have ownS := ownP.below dS
  have k0S := (dS.block _ (by have := b1.size; omega)).trans ((b1.block _ (by omega)).trans k0)
  have k1S := (dS.block _ (by have := b1.size; omega)).trans ((b1.block _ (by omega)).trans k1)
  have d1S := bw_call (bw_call d0 b1) dS
  have hb1 := b1.size
  clear ownP k0 k1 d0 dS b1 hnp
  generalize w1.alloc (.cells #[.slice o1 cs0.length c1, .slice o2 ps0.length c2, .slice none 0 0] 28) = w2 at *
  go_upto_region 3 with (go_at_call 93; refine (specNewMemoM_any _).mono ?_; rintro e w3 ⟨m1, m2, rfl, ownM, b3⟩; obtain ⟨o3, c3, o4, c4, hf3, hf4⟩ := ownM.forms; subst hf3 hf4)
  have kM := heap_alloc_new w3 (.cells #[.slice o3 newM.1.length c3, .slice o4 newM.2.length c4] 31)
  have dM : Below w3.heap.size w3 (w3.alloc (.cells #[.slice o3 newM.1.length c3, .slice o4 newM.2.length c4] 31)) := bw_alloc (Below.refl _ _)
  have sM : (w3.alloc (.cells #[.slice o3 newM.1.length c3, .slice o4 newM.2.length c4] 31)).heap.size = w3.heap.size + 1 := by simp
  have hb3 := b3.size
  have rs0 : RpSt w (w3.alloc (.cells #[.slice o3 newM.1.length c3, .slice o4 newM.2.length c4] 31)) W0.heap.size w1.heap.size w3.heap.size w2.heap.size (w3.heap.size + 1) (.slice o1 cs0.length c1) (.slice o2 ps0.length c2) (.slice none 0 0) (.slice o3 newM.1.length c3) (.slice o4 newM.2.length c4) [] (rpFrom (rpNew n) (l.take 0)) := by
    rw [List.take_zero, rpFrom, List.foldl_nil, HS0.out]
    have pl := ownS.below b3
    have pl2 := pl.below dM
    refine ⟨⟨(dM.block _ (by omega)).trans ((b3.block _ (by omega)).trans kS), holds_shelf, rfl, rfl, by simp, by omega, pl2, ⟨World.ownsRow_nil _ _ _ _, fun b hb => by cases hb⟩, rfl, fun i hi hG => ?_, fun k hk => by rw [sM]; exact hk.2⟩, kM, ownM.below dM, (dM.block _ (by omega)).trans ((b3.block _ (by omega)).trans k0S), (dM.block _ (by omega)).trans ((b3.block _ (by omega)).trans k1S), bw_call (bw_call d1S b3) dM, by omega, by omega, fun g hg => by have := (ownM.span g hg).2; omega⟩
    rcases hi with q | q | q | q
    · omega
    · have := (ownS.c.lt i q).2; omega
    · have := (ownS.p.lt i q).2; omega
    · cases q
  have hbo : W0.heap.size = w.heap.size + 1 + 1 := z0
  clear kS ownS k0S k1S d1S ownM b3 kM dM sM sS hb3 hb1
  generalize w3.alloc (.cells #[.slice o3 newM.1.length c3, .slice o4 newM.2.length c4] 31) = w4 at *
  generalize w3.heap.size + 1 = hi at *
  generalize w3.heap.size = bm at *
  generalize w2.heap.size = lo at *
  generalize w1.heap.size = bs at *
  generalize W0.heap.size = base at *
  generalize cs0.length = N1 at *
  generalize ps0.length = N2 at *
  have q3 : newM.1.length ≤ 4 ∧ 4 ≤ newM.1.length := by decide
  have q4 : newM.2.length ≤ 4 ∧ 4 ≤ newM.2.length := by decide
  generalize newM.1.length = N3 at *
  generalize newM.2.length = N4 at *
  go_wp2_with fail
  go_loopw [9] (fun i wr => ∃ (k : Nat) (vb : Value) (bks : List Bk), k ≤ l.length ∧ i = .int .i64 k ∧ RpSt w wr base bs bm lo hi (.slice o1 N1 c1) (.slice o2 N2 c2) vb (.slice o3 N3 c3) (.slice o4 N4 c4) bks (rpFrom (rpNew n) (l.take k))) (fun i _ => l.length - (intOf i).toNat)
  case atStart => exact ⟨0, _, [], Nat.zero_le _, rfl, rs0⟩
  case round =>
    clear rs0
    obtain ⟨k, vb, bks, hk, rfl, rp⟩ := hrel
    by_cases hlt : k < l.length
    · exact absurd hlt (by rw [HL0.out]; exact Nat.not_lt_zero _)
    · have htk : l.take k = l := List.take_of_length_le (by omega)
      rw [htk] at rp
      have hbk := rp.st.books.row
      obtain ⟨oB, cB, eB⟩ := own_slice hbk
      subst eB
      have rpD := rp.below ((Below.refl _ _).drew)
      have s0 : wr.drew.cell? ⟨bs, 0, none⟩ = some (.slice o1 N1 c1) := rp.st.c0
      have s1 : wr.drew.cell? ⟨bs, 1, none⟩ = some (.slice o2 N2 c2) := rp.st.c1
      have s2 : wr.drew.cell? ⟨bs, 2, none⟩ = some (.slice oB bks.length cB) := rp.st.c2
      have m0 : wr.drew.cell? ⟨bm, 0, none⟩ = some (.slice o3 N3 c3) := at_cell rp.kM 0
      have m1 : wr.drew.cell? ⟨bm, 1, none⟩ = some (.slice o4 N4 c4) := at_cell rp.kM 1
      have kR : wr.drew.heap[w.heap.size]? = _ := rp.kR
      have kQ : wr.drew.heap[w.heap.size + 1]? = _ := rp.kQ
      have q0 := at_cell kR 0
      have q1 := at_cell kR 1
      have q2 := at_cell kR 2
      have f0 := at_open kR 0
      have f1 := at_open kR 1
      have f2 := at_open kR 2
      have p0 := at_cell kQ 0
      have p1 := at_cell kQ 1
      have e0 := at_open kQ 0
      have e1 := at_open kQ 1
      have q0' : wr.cell? ⟨w.heap.size, 0, none⟩ = _ := q0
      have q1' : wr.cell? ⟨w.heap.size, 1, none⟩ = _ := q1
      have q2' : wr.cell? ⟨w.heap.size, 2, none⟩ = _ := q2
      have f0' : wr.frozen? ⟨w.heap.size, 0, none⟩ = _ := f0
      have f1' : wr.frozen? ⟨w.heap.size, 1, none⟩ = _ := f1
      have f2' : wr.frozen? ⟨w.heap.size, 2, none⟩ = _ := f2
      have p0' : wr.cell? ⟨w.heap.size + 1, 0, none⟩ = _ := p0
      have p1' : wr.cell? ⟨w.heap.size + 1, 1, none⟩ = _ := p1
      have e0' : wr.frozen? ⟨w.heap.size + 1, 0, none⟩ = _ := e0
      have e1' : wr.frozen? ⟨w.heap.size + 1, 1, none⟩ = _ := e1
      have s0' : wr.cell? ⟨bs, 0, none⟩ = _ := s0
      have s1' : wr.cell? ⟨bs, 1, none⟩ = _ := s1
      have s2' : wr.cell? ⟨bs, 2, none⟩ = _ := s2
      have m0' : wr.cell? ⟨bm, 0, none⟩ = _ := m0
      have m1' : wr.cell? ⟨bm, 1, none⟩ = _ := m1
      have hhb := rp.hb
      have hhm := rp.hbm
      have x1 : ¬ bm = w.heap.size := by omega
      have x2 : ¬ bm = w.heap.size + 1 := by omega
      have x3 : ¬ bs = w.heap.size := by omega
      have x4 : ¬ bs = w.heap.size + 1 := by omega
      have x5 : ¬ w.heap.size = bm := by omega
      have x6 : ¬ w.heap.size + 1 = bm := by omega
      have x7 : ¬ w.heap.size = bs := by omega
      have x8 : ¬ w.heap.size + 1 = bs := by omega
      clear hhb hhm
      have HFN : Hid _ := rp.fin
      clear rpD kR kQ htk hbk rp HC
      go_wp2_with fail
      go_region
      all_goals
        obtain ⟨h1, h2, h3, h4, h5⟩ := HFN.out _ (by first | exact .inl rfl | exact .inr rfl)
        have HE : Hid _ := And.intro h1 (And.intro h2 (And.intro h3 (And.intro h4 h5)))
        clear h1 h2 h3 h4 h5 HFN
        go_wp2_with fail
        exact bodyPost_ret (v := .tuple #[.agg #[.slice o1 N1 c1, .slice o2 N2 c2, .slice oB bks.length cB], .agg #[.slice o3 N3 c3, .slice o4 N4 c4]]) (by simp [results, Tryz.results40, go_sem, at_cell HE.out.1, at_cell HE.out.2.1]) rfl ⟨_, _, _, _, _, rfl, HE.out.2.2.1.below ((Below.refl _ _).drew), HE.out.2.2.2.1.below ((Below.refl _ _).drew), HE.out.2.2.2.2.drew⟩

set_option maxHeartbeats 6400000 in
theorem specReplayed_nil (n : Int) (v : Value) (l : List Ent) (hl0 : l = []) (w : World) (hf : FitLog l) (r : ReadsR 9 entC w.heap.size w v l) :
    Calls Tryz.prog 13 #[.int .i64 n, v] w fun e w' => ∃ u1 u2 ub t1 t2 : Value, e = .returned (.tuple #[.agg #[u1, u2, ub], .agg #[t1, t2], .bool (replay n l).2]) ∧ OwnD w.heap.size w' u1 u2 ub (replay n l).1.s ∧ OwnM w.heap.size w' t1 t2 (replay n l).1.ts (replay n l).1.rs ∧ Below w.heap.size w w' := by
  have HL0 : Hid (l = []) := hl0
  clear hl0
  obtain ⟨W0, hW0, k0, k1, d0, z0⟩ := box2 w #[.slice none 0 0, .slice none 0 0, .slice none 0 0] #[.slice none 0 0, .slice none 0 0] 28 31
  have HW0 : Hid (W0 = _) := hW0
  have r0 := (r.below d0).mono d0.size
  have HRO : Hid (rpOk n l = (inB n 1 24 && logOk l)) := rfl
  obtain ⟨o, cap, rfl, -⟩ := id r0
  clear hW0 r
  go_enter Tryz.func13, Tryz.ntmps13
  go_upto_region 1 with fail
  rw [← HW0.out]
  clear HW0
  cases h1 : inB n 1 24
  · have hq : (decide ((1 : Int) ≤ n) && decide (n ≤ 24)) = false := h1
    have HB : Hid (rpOk n l = false) := by rw [Hid, HRO.out, h1]; rfl
    go_upto_region 2 with (first | (go_at_call 38; refine (l1In_any n 1 24 _).mono ?_; rintro e w1 ⟨rfl, rfl⟩; rw [hq]) | (go_at_call 39; refine (specLogOk_any _ l _ hf r0).mono ?_; rintro e w2 ⟨rfl, b2⟩; rw [h2]))
    have kR := k0
    have kQ := k1
    have HE : Hid _ := two_end (w := w) (x := Rp.zero) (u1 := .slice none 0 0) (u2 := .slice none 0 0) (vb := .slice none 0 0) (m1 := .slice none 0 0) (m2 := .slice none 0 0) kR kQ (OwnD.nil _ _) (OwnM.nil _ _) d0 _ (.inl rfl)
    have q0 := at_cell kR 0
    have q1 := at_cell kR 1
    have q2 := at_cell kR 2
    have f0 := at_open kR 0
    have f1 := at_open kR 1
    have f2 := at_open kR 2
    have p0 := at_cell kQ 0
    have p1 := at_cell kQ 1
    have e0 := at_open kQ 0
    have e1 := at_open kQ 1
    have HV : Hid _ := replay_no HB.out
    clear kR kQ r0 k0 k1 d0 h1 hq
    go_wp2_with fail
    exact bodyPost_ret (v := .tuple #[.agg #[.slice none 0 0, .slice none 0 0, .slice none 0 0], .agg #[.slice none 0 0, .slice none 0 0], .bool false]) (by simp [results, Tryz.results13, go_sem, at_cell HE.out.1, at_cell HE.out.2.1]) rfl ⟨_, _, _, _, _, by rw [HV.out], by rw [HV.out]; exact HE.out.2.2.1, by rw [HV.out]; exact HE.out.2.2.2.1, HE.out.2.2.2.2⟩
  · have hq : (decide ((1 : Int) ≤ n) && decide (n ≤ 24)) = true := h1
    cases h2 : logOk l
    · have HB : Hid (rpOk n l = false) := by rw [Hid, HRO.out, h1, h2]; rfl
      go_upto_region 2 with (first | (go_at_call 38; refine (l1In_any n 1 24 _).mono ?_; rintro e w1 ⟨rfl, rfl⟩; rw [hq]) | (go_at_call 39; refine (specLogOk_any _ l _ hf r0).mono ?_; rintro e w2 ⟨rfl, b2⟩; rw [h2]))
      have kR := (b2.block _ (heap_lt k0)).trans k0
      have kQ := (b2.block _ (heap_lt k1)).trans k1
      have HE : Hid _ := two_end (w := w) (x := Rp.zero) (u1 := .slice none 0 0) (u2 := .slice none 0 0) (vb := .slice none 0 0) (m1 := .slice none 0 0) (m2 := .slice none 0 0) kR kQ (OwnD.nil _ _) (OwnM.nil _ _) (bw_call d0 b2) _ (.inl rfl)
      have q0 := at_cell kR 0
      have q1 := at_cell kR 1
      have q2 := at_cell kR 2
      have f0 := at_open kR 0
      have f1 := at_open kR 1
      have f2 := at_open kR 2
      have p0 := at_cell kQ 0
      have p1 := at_cell kQ 1
      have e0 := at_open kQ 0
      have e1 := at_open kQ 1
      have HV : Hid _ := replay_no HB.out
      clear kR kQ r0 k0 k1 d0 h1 hq
      go_wp2_with fail
      exact bodyPost_ret (v := .tuple #[.agg #[.slice none 0 0, .slice none 0 0, .slice none 0 0], .agg #[.slice none 0 0, .slice none 0 0], .bool false]) (by simp [results, Tryz.results13, go_sem, at_cell HE.out.1, at_cell HE.out.2.1]) rfl ⟨_, _, _, _, _, by rw [HV.out], by rw [HV.out]; exact HE.out.2.2.1, by rw [HV.out]; exact HE.out.2.2.2.1, HE.out.2.2.2.2⟩
    · have HB : Hid (rpOk n l = true) := by rw [Hid, HRO.out, h1, h2]; rfl
      go_upto_region 3 with (first | (go_at_call 38; refine (l1In_any n 1 24 _).mono ?_; rintro e w1 ⟨rfl, rfl⟩; rw [hq]) | (go_at_call 39; refine (specLogOk_any _ l _ hf r0).mono ?_; rintro e w2 ⟨rfl, b2⟩; rw [h2]))
      have r2 := (r0.below b2).mono b2.size
      have HV : Hid _ := replay_yes HB.out
      go_upto_region 4 with (go_at_call 40; refine (l13Replayed_nil n _ l HL0.out _ hf HB.out r2).mono ?_; rintro e w3 ⟨u1, u2, ub, t1, t2, rfl, od, om, b3⟩; obtain ⟨bks, ob, hbe⟩ := od.b; obtain ⟨x1, y1, f1⟩ := own_slice od.p.c; obtain ⟨x2, y2, f2⟩ := own_slice od.p.p; obtain ⟨x3, y3, f3⟩ := own_slice ob.row; obtain ⟨x4, y4, x5, y5, f4, f5⟩ := om.forms; subst f1 f2 f3 f4 f5)
      have bb := (bw_alloc (o := .cells #[.slice x1 (rpFrom (rpNew n) l).s.cs.length y1, .slice x2 (rpFrom (rpNew n) l).s.ps.length y2, .slice x3 bks.length y3] 28) (Below.refl w3.heap.size w3))
      have bb2 := bw_alloc (o := .cells #[.slice x4 (rpFrom (rpNew n) l).ts.length y4, .slice x5 (rpFrom (rpNew n) l).rs.length y5] 31) bb
      obtain ⟨W4, hW4, kS, kM, -, z4⟩ := box2 w3 #[.slice x1 (rpFrom (rpNew n) l).s.cs.length y1, .slice x2 (rpFrom (rpNew n) l).s.ps.length y2, .slice x3 bks.length y3] #[.slice x4 (rpFrom (rpNew n) l).ts.length y4, .slice x5 (rpFrom (rpNew n) l).rs.length y5] 28 31
      rw [← hW4] at bb2
      have HW4 : Hid (W4 = _) := hW4
      have od4 := od.below bb2
      have om4 := om.below bb2
      have s2 := b2.size
      have s3 := b3.size
      have kR := (bb2.block _ (by omega)).trans ((b3.block _ (by omega)).trans ((b2.block _ (by omega)).trans k0))
      have kQ := (bb2.block _ (by omega)).trans ((b3.block _ (by omega)).trans ((b2.block _ (by omega)).trans k1))
      have HFN : Hid _ := two_end (w := w) kR kQ (od4.mono (by omega)) (om4.mono (by omega)) (bw_call (bw_call (bw_call d0 b2) b3) bb2)
      have y1' : ¬ w3.heap.size = w.heap.size := by omega
      have y2' : ¬ w3.heap.size = w.heap.size + 1 := by omega
      have y3' : ¬ w3.heap.size + 1 = w.heap.size := by omega
      have y4' : ¬ w3.heap.size + 1 = w.heap.size + 1 := by omega
      have y5' : ¬ w.heap.size = w3.heap.size := by omega
      have y6' : ¬ w.heap.size + 1 = w3.heap.size := by omega
      have y7' : ¬ w.heap.size = w3.heap.size + 1 := by omega
      have y8' : ¬ w.heap.size + 1 = w3.heap.size + 1 := by omega
      rw [← HW4.out]
      clear hW4 HW4 bb bb2 od om od4 om4 s2 s3 b2 b3 r2 r0 k0 k1 d0 z0 z4 hbe ob
      generalize w3.heap.size = nb at *
      generalize (rpFrom (rpNew n) l).s.cs.length = N1 at *
      generalize (rpFrom (rpNew n) l).s.ps.length = N2 at *
      generalize (rpFrom (rpNew n) l).ts.length = N3 at *
      generalize (rpFrom (rpNew n) l).rs.length = N4 at *
      generalize bks.length = N5 at *
      have s0 := at_cell kS 0
      have s1 := at_cell kS 1
      have s2 := at_cell kS 2
      have m0 := at_cell kM 0
      have m1 := at_cell kM 1
      have q0 := at_cell kR 0
      have q1 := at_cell kR 1
      have q2 := at_cell kR 2
      have f0 := at_open kR 0
      have f1 := at_open kR 1
      have f2 := at_open kR 2
      have p0 := at_cell kQ 0
      have p1 := at_cell kQ 1
      have e0 := at_open kQ 0
      have e1 := at_open kQ 1
      have s0' : W4.drew.cell? ⟨nb, 0, none⟩ = _ := s0
      have s1' : W4.drew.cell? ⟨nb, 1, none⟩ = _ := s1
      have s2' : W4.drew.cell? ⟨nb, 2, none⟩ = _ := s2
      have m0' : W4.drew.cell? ⟨nb + 1, 0, none⟩ = _ := m0
      have m1' : W4.drew.cell? ⟨nb + 1, 1, none⟩ = _ := m1
      have q0' : W4.drew.cell? ⟨w.heap.size, 0, none⟩ = _ := q0
      have q1' : W4.drew.cell? ⟨w.heap.size, 1, none⟩ = _ := q1
      have q2' : W4.drew.cell? ⟨w.heap.size, 2, none⟩ = _ := q2
      have f0' : W4.drew.frozen? ⟨w.heap.size, 0, none⟩ = _ := f0
      have f1' : W4.drew.frozen? ⟨w.heap.size, 1, none⟩ = _ := f1
      have f2' : W4.drew.frozen? ⟨w.heap.size, 2, none⟩ = _ := f2
      have p0' : W4.drew.cell? ⟨w.heap.size + 1, 0, none⟩ = _ := p0
      have p1' : W4.drew.cell? ⟨w.heap.size + 1, 1, none⟩ = _ := p1
      have e0' : W4.drew.frozen? ⟨w.heap.size + 1, 0, none⟩ = _ := e0
      have e1' : W4.drew.frozen? ⟨w.heap.size + 1, 1, none⟩ = _ := e1
      clear kS kM kR kQ
      go_region
      all_goals
        obtain ⟨h1, h2, h3, h4, h5⟩ := HFN.out _ (by first | exact .inl rfl | exact .inr rfl)
        have HE : Hid _ := And.intro h1 (And.intro h2 (And.intro h3 (And.intro h4 h5)))
        clear h1 h2 h3 h4 h5 HFN
        go_wp2_with fail
        exact bodyPost_ret (v := .tuple #[.agg #[.slice x1 N1 y1, .slice x2 N2 y2, .slice x3 N5 y3], .agg #[.slice x4 N3 y4, .slice x5 N4 y5], .bool true]) (by simp [results, Tryz.results13, go_sem, at_cell HE.out.1, at_cell HE.out.2.1]) rfl ⟨_, _, _, _, _, by rw [HV.out], by rw [HV.out]; exact HE.out.2.2.1.below ((Below.refl _ _).drew), by rw [HV.out]; exact HE.out.2.2.2.1.below ((Below.refl _ _).drew), HE.out.2.2.2.2.drew⟩
end Go.Proofs.YtibhepekmihagaaGreatDoor

