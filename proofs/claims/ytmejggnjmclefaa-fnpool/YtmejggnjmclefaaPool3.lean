/-
  Chapter 4: the specification's TakenPage, Shared, Dropped, at every argument; l4Take and l4Drop at a pool of the call's own.
-/
import Derived.Test.YtmejggnjmclefaaPool2
namespace Go.Proofs.Ytmejggnjmclefaa
open Go.RowKit
set_option linter.unusedVariables false

theorem map_setI (cs : List Int) (k : Nat) (x : Int) : (cs.map (Value.int .i64)).set k (.int .i64 x) = (cs.set k x).map (Value.int .i64) := by rw [List.map_set]
/-- One cell of each row is written. -/
theorem OwnP.set1 {base : Nat} {w : World} {g1 c1 : Nat} {v2 : Value} {cs ps : List Int} (h : OwnP base w (.slice (some ⟨g1, 0, none⟩) cs.length c1) v2 cs ps) (k : Nat) (x : Int) :
    OwnP base (w.setCell ⟨g1, k, none⟩ (.int .i64 x)) (.slice (some ⟨g1, 0, none⟩) cs.length c1) v2 (cs.set k x) ps := by
  refine ⟨?_, own_only (S := fun b => b = g1) h.p ((Only.refl (fun b => b = g1) _).setCell ⟨g1, k, none⟩ rfl _) (fun g hg e => h.apart g1 rfl (by rw [hg, e])), h.apart⟩
  have := (h.c.stored k (.int .i64 x)).1
  rw [map_setI] at this
  rwa [List.length_set]
theorem OwnP.set2 {base : Nat} {w : World} {g2 c2 : Nat} {v1 : Value} {cs ps : List Int} (h : OwnP base w v1 (.slice (some ⟨g2, 0, none⟩) ps.length c2) cs ps) (k : Nat) (x : Int) :
    OwnP base (w.setCell ⟨g2, k, none⟩ (.int .i64 x)) v1 (.slice (some ⟨g2, 0, none⟩) ps.length c2) cs (ps.set k x) := by
  refine ⟨own_only (S := fun b => b = g2) h.c ((Only.refl (fun b => b = g2) _).setCell ⟨g2, k, none⟩ rfl _) (fun g hg e => h.apart g hg (by rw [e]; rfl)), ?_, h.apart⟩
  have := (h.p.stored k (.int .i64 x)).1
  rw [map_setI] at this
  rwa [List.length_set]
theorem own_form2 {w : World} {base : Nat} {v1 v2 : Value} {cs ps : List Int} (h : OwnP base w v1 v2 cs ps) (hc : 1 ≤ cs.length) (hp : ps.length = cs.length) :
    ∃ g1 c1 g2 c2, v1 = .slice (some ⟨g1, 0, none⟩) cs.length c1 ∧ v2 = .slice (some ⟨g2, 0, none⟩) ps.length c2 ∧ g1 ≠ g2 := by
  rcases h.c.2 with ⟨_, hn⟩ | ⟨g1, c1, cur, rfl, _⟩
  · omega
  rcases h.p.2 with ⟨_, hn⟩ | ⟨g2, c2, cur2, rfl, _⟩
  · omega
  exact ⟨g1, c1, g2, c2, rfl, rfl, fun e => h.apart g1 rfl (by rw [e]; rfl)⟩

set_option maxHeartbeats 1600000 in
theorem l4Take_any (b base : Nat) (v1 v2 : Value) (cs ps : List Int) (v : Int) (w : World) (k : w.heap[b]? = some (.cells #[v1, v2] 55 (0, 0))) (own : OwnP base w v1 v2 cs ps) (hc : 1 ≤ cs.length) (hc2 : cs.length ≤ 1048576) (hp : ps.length = cs.length) :
    Calls Try.prog 82 #[.pointer (some ⟨b, 0, none⟩), .int .i64 v] w fun e w' => e = .returned (.int .i64 (tookAt cs)) ∧ OwnP base w' v1 v2 (tookC cs) (tookP cs ps v) ∧ Only (fun i => v1.ownBlock = some i ∨ v2.ownBlock = some i) w w' := by
  obtain ⟨g1, c1, g2, c2, rfl, rfl, hne⟩ := own_form2 own hc hp
  have n1 := own_not_box own.c k (by decide)
  have n2 := own_not_box own.p k (by decide)
  have hn1 : ¬ b = g1 := fun e => n1 (by rw [e]; rfl)
  have hn2 : ¬ b = g2 := fun e => n2 (by rw [e]; rfl)
  have hn3 : ¬ g1 = b := fun e => hn1 e.symm
  have hn4 : ¬ g2 = b := fun e => hn2 e.symm
  have hne' : ¬ g2 = g1 := fun e => hne e.symm
  have p0 := at_cell k 0
  have p1 := at_cell k 1
  have hlc := own.c.cellAt
  have hlp := own.p.cellAt
  have hfc := own.c.frozenAt
  have hfp := own.p.frozenAt
  have HP : Hid (ps.length = cs.length) := hp
  have hp1 : cs.length ≤ ps.length := by omega
  have HLC : Hid (∀ j, j < cs.length * 1 → w.cell? ⟨g1, j, none⟩ = (cs.map (Value.int .i64))[j]?) := hlc
  have HLP : Hid (∀ j, j < ps.length * 1 → w.cell? ⟨g2, j, none⟩ = (ps.map (Value.int .i64))[j]?) := hlp
  clear hlc hlp hp n1 n2
  go_enter Try.func82, Try.ntmps82
  go_wp2_with fail
  go_loopw [5] (fun i wr => ∃ k : Nat, k ≤ cs.length ∧ i = .int .i64 k ∧ (∀ j, j < k → cs.getD j 0 ≠ 0) ∧ wr = w) (fun i _ => cs.length - (intOf i).toNat)
  case atStart => exact ⟨0, Nat.zero_le _, rfl, fun j hj => by omega, rfl⟩
  case round =>
    obtain ⟨q, hq, rfl, hall, rfl⟩ := hrel
    have HA : Hid (∀ j, j < q → cs.getD j 0 ≠ 0) := hall
    clear hall
    by_cases hlt : q < cs.length
    · have cc1 := (HLC.out q (by omega)).trans (getD_some cs q hlt)
      have cc2 := (HLP.out q (by omega)).trans (getD_some ps q (by omega))
      have hq2 : (q : Int) < (ps.length : Int) := by omega
      have HN : Hid (cs.getD q 0 ≠ 0 → ∀ j, j < q + 1 → cs.getD j 0 ≠ 0) := fun h j hj => by
        rcases Nat.lt_or_ge j q with r | r
        · exact HA.out j r
        · obtain rfl : j = q := by omega
          exact h
      have HF : Hid (cs.getD q 0 = 0 → firstFree cs = q) := fun h => firstFree_eq cs q hlt h HA.out
      by_cases hz : cs.getD q 0 = 0
      · have hf := HF.out hz
        have HR : Hid (tookAt cs = q ∧ tookC cs = cs.set q 1 ∧ tookP cs ps v = ps.set q v) := by
          rw [Hid, tookAt, tookC, tookP, hf, if_pos hlt, if_pos hlt, if_pos hlt]; exact ⟨rfl, rfl, rfl⟩
        have own1 := own.set1 q 1
        have own2 := own1.set2 q v
        have HO : Hid _ := own2
        rw [hz] at cc1
        clear HN HF HA own1 own2 own hf hz HLC HLP
        generalize ps.getD q 0 = y at cc2
        go_wp2_with fail
        go_ret
        refine ⟨ret_int HR.out.1.symm, ?_, ((Only.refl _ _).setCell _ (.inl rfl) _).setCell _ (.inr rfl) _⟩
        rw [HR.out.2.1, HR.out.2.2]
        exact HO.out
      · have HNN : Hid _ := HN.out hz
        have hz1 : (cs.getD q 0 == 0) = false := by simpa using hz
        clear HN HF HA HLC HLP cc2
        generalize cs.getD q 0 = x at cc1 hz1 hz
        go_wp2_with fail
        go_roundw
        case rel => exact ⟨q + 1, by omega, by go_num, HNN.out, by trivial⟩
        case measure => simp [intOf]; omega
    · have hf := firstFree_none cs (fun j hj => HA.out j (by omega))
      have HR : Hid (tookAt cs = -1 ∧ tookC cs = cs ∧ tookP cs ps v = ps) := by
        rw [Hid, tookAt, tookC, tookP, hf, if_neg (by omega), if_neg (by omega), if_neg (by omega)]; exact ⟨rfl, rfl, rfl⟩
      have HO : Hid _ := own
      clear own hf HA HLC HLP
      go_wp2_with fail
      go_ret
      refine ⟨ret_int HR.out.1.symm, ?_, Only.refl _ _⟩
      rw [HR.out.2.1, HR.out.2.2]
      exact HO.out

theorem pool_endD (w W : World) (u1 u2 x y : Value) (b : Nat) (cs ps : List Int) (hb : w.heap.size ≤ b) (k : W.heap[b]? = some (.cells #[x, y] 55 (0, 0))) (own : OwnP (b + 1) W u1 u2 cs ps) (d : Below w.heap.size w W) :
    (((W.setCell ⟨b, 0, none⟩ u1).setCell ⟨b, 1, none⟩ u2).drew).heap[b]? = some (.cells #[u1, u2] 55 (0, 0)) ∧ OwnP w.heap.size (((W.setCell ⟨b, 0, none⟩ u1).setCell ⟨b, 1, none⟩ u2).drew) u1 u2 cs ps ∧ Below w.heap.size w (((W.setCell ⟨b, 0, none⟩ u1).setCell ⟨b, 1, none⟩ u2).drew) := by
  obtain ⟨h1, h2, h3⟩ := pool_end w W u1 u2 x y b cs ps hb k own d
  exact ⟨h1, h2.below ((Below.refl _ _).drew), bw_drew h3⟩

/-- A call's own pool in a box of its own, written into by a callee: the answer's box stays. -/
theorem own_blocks {base : Nat} {w : World} {v1 v2 : Value} {cs ps : List Int} (h : OwnP base w v1 v2 cs ps) : ∀ i, (v1.ownBlock = some i ∨ v2.ownBlock = some i) → base ≤ i := by
  rintro i (h1 | h1)
  · exact (h.c.lt i h1).1
  · exact (h.p.lt i h1).1

set_option maxHeartbeats 3200000 in
theorem specTaken_any (v1 v2 : Value) (cs ps : List Int) (v : Int) (w : World) (h1 : Reads w.heap.size w v1 (cs.map (Value.int .i64))) (h2 : Reads w.heap.size w v2 (ps.map (Value.int .i64))) :
    Calls Try.prog 44 #[.agg #[v1, v2], .int .i64 v] w fun e w' => ∃ u1 u2 : Value, e = .returned (.tuple #[.agg #[u1, u2], .int .i64 (takenPage cs ps v).2]) ∧ OwnP w.heap.size w' u1 u2 (takenPage cs ps v).1.1 (takenPage cs ps v).1.2 ∧ Below w.heap.size w w' := by
  obtain ⟨W0, hW0, k0, k1, d0, z0⟩ := pool_start w v1 v2
  have r1 := (h1.below d0).mono d0.size
  have r2 := (h2.below d0).mono d0.size
  have p0 := at_cell k0 0
  have p1 := at_cell k0 1
  have HW0 : Hid (W0 = _) := hW0
  clear hW0 h1 h2
  go_enter Try.func44, Try.ntmps44
  go_wp2_with fail
  rw [← HW0.out]
  clear HW0
  refine (specPoolOk_any v1 v2 cs ps _ r1 r2).mono ?_
  rintro e w1 ⟨rfl, b1⟩
  replace k0 := (b1.block _ (by omega)).trans k0
  replace k1 := (b1.block _ (by omega)).trans k1
  replace r1 := (r1.below b1).mono b1.size
  replace r2 := (r2.below b1).mono b1.size
  replace d0 := bw_call d0 b1
  have z1 : w.heap.size + 1 + 1 ≤ w1.heap.size := by have := b1.size; omega
  clear p0 p1 b1 z0
  cases hok : poolOk cs ps
  · have HV : Hid (takenPage cs ps v = (([], []), -1)) := by simp [Hid, takenPage, hok]
    have q0 := at_cell k1 0
    have q1 := at_cell k1 1
    have f0 := at_open k1 0
    have f1 := at_open k1 1
    have HS : Hid _ := pool_end w w1 (.slice none 0 0) (.slice none 0 0) _ _ (w.heap.size + 1) [] [] (by omega) k1 (OwnP.nil _ _) d0
    clear k0 k1 r1 r2 hok
    go_wp2_with fail
    refine bodyPost_ret (v := .tuple #[.agg #[.slice none 0 0, .slice none 0 0], .int .i64 (-1)]) (by simp [results, Try.results44, go_sem, at_cell HS.out.1]) rfl ⟨.slice none 0 0, .slice none 0 0, ?_, ?_, HS.out.2.2⟩
    · rw [HV.out]
    · rw [HV.out]; exact HS.out.2.1
  · have hb := (poolOk_iff cs ps).1 hok
    have HP : Hid (ps.length = cs.length) := hb.2.2.1
    have hlc : cs.length ≤ 1048576 := by omega
    have hlp : ps.length ≤ 1048576 := by omega
    have hc1 : 1 ≤ cs.length := hb.1
    have HOK : Hid (poolOk cs ps = true) := hok
    have p0 := at_cell k0 0
    have p1 := at_cell k0 1
    clear hok hb
    go_wp2_with fail
    refine (l4Copy_any v1 v2 cs ps _ hlc hlp r1 r2).mono ?_
    rintro e w2 ⟨u1, u2, rfl, own, b2⟩
    replace k1 := (b2.block _ (by omega)).trans k1
    replace d0 := bw_call d0 b2
    have z2 := b2.size
    obtain ⟨o1, c1, rfl⟩ := own_slice own.c
    obtain ⟨o2, c2, rfl⟩ := own_slice own.p
    clear p0 p1 b2 k0 r1 r2
    -- the copy's box
    have dB : Below w2.heap.size w2 (w2.alloc (.cells #[.slice o1 cs.length c1, .slice o2 ps.length c2] 55)) := bw_alloc (Below.refl _ _)
    have kB := heap_alloc_new w2 (.cells #[.slice o1 cs.length c1, .slice o2 ps.length c2] 55)
    replace k1 := (dB.block _ (by omega)).trans k1
    replace own := own.below dB
    replace d0 := bw_call d0 dB
    have z3 := dB.size
    clear dB
    go_wp2_with fail
    generalize w2.alloc (.cells #[.slice o1 cs.length c1, .slice o2 ps.length c2] 55) = W3 at *
    refine (l1In_any _ _ _ _).mono ?_
    rintro e w' ⟨rfl, rfl⟩
    cases hv : (decide ((0 : Int) ≤ v) && decide (v ≤ 999))
    · have HV : Hid (takenPage cs ps v = ((cs, ps), -1)) := by
        rw [Hid, takenPage, if_pos HOK.out, if_neg]
        rintro ⟨_, h1, h2⟩
        simp [h1, h2] at hv
      have p0 := at_cell kB 0
      have p1 := at_cell kB 1
      have q0 := at_cell k1 0
      have q1 := at_cell k1 1
      have f0 := at_open k1 0
      have f1 := at_open k1 1
      have HS : Hid _ := pool_end w w' _ _ _ _ (w.heap.size + 1) cs ps (by omega) k1 (own.mono z1) d0
      clear k1 own kB
      go_wp2_with fail
      refine bodyPost_ret (v := .tuple #[.agg #[.slice o1 cs.length c1, .slice o2 ps.length c2], .int .i64 (-1)]) (by simp [results, Try.results44, go_sem, at_cell HS.out.1]) rfl ⟨.slice o1 cs.length c1, .slice o2 ps.length c2, by rw [HV.out], by rw [HV.out]; exact HS.out.2.1, HS.out.2.2⟩
    · have HV : Hid (takenPage cs ps v = ((tookC cs, tookP cs ps v), tookAt cs)) := by
        rw [Hid, takenPage, if_pos HOK.out, tookC, tookP, tookAt]
        have h2 : 0 ≤ v ∧ v ≤ 999 := by simpa using hv
        by_cases hf : firstFree cs < cs.length
        · rw [if_pos ⟨hf, h2⟩, if_pos hf, if_pos hf, if_pos hf]
        · rw [if_neg (fun q => hf q.1), if_neg hf, if_neg hf, if_neg hf]
      have hn1 := own_not_box own.c k1 (by decide)
      have hn2 := own_not_box own.p k1 (by decide)
      have HOB : Hid _ := own_blocks own
      have HN : Hid (¬ ((Value.slice o1 cs.length c1).ownBlock = some (w.heap.size + 1) ∨ (Value.slice o2 ps.length c2).ownBlock = some (w.heap.size + 1))) := fun h => h.elim hn1 hn2
      have hn3 := own_not_box own.c kB (by decide)
      have hn4 := own_not_box own.p kB (by decide)
      have HM : Hid (¬ ((Value.slice o1 cs.length c1).ownBlock = some w2.heap.size ∨ (Value.slice o2 ps.length c2).ownBlock = some w2.heap.size)) := fun h => h.elim hn3 hn4
      clear hn1 hn2 hn3 hn4
      go_wp2_with fail
      refine (l4Take_any _ _ _ _ cs ps v _ kB own hc1 hlc HP.out).mono ?_
      rintro e w4 ⟨rfl, own4, on4⟩
      have k14 := (on4.block _ (by omega) HN.out).trans k1
      have kB4 := (on4.block _ (heap_lt kB) HM.out).trans kB
      have d4 := d0.trans (on4.toBelow (by omega) (fun i hi => by have := HOB.out i hi; omega))
      have p0 := at_cell kB4 0
      have p1 := at_cell kB4 1
      have q0 := at_cell k14 0
      have q1 := at_cell k14 1
      have f0 := at_open k14 0
      have f1 := at_open k14 1
      have HS : Hid _ := pool_end w w4 _ _ _ _ (w.heap.size + 1) _ _ (by omega) k14 (own4.mono z1) d4
      clear k1 own kB k14 kB4 own4 on4 d4 d0
      go_wp2_with fail
      refine bodyPost_ret (v := .tuple #[.agg #[.slice o1 cs.length c1, .slice o2 ps.length c2], .int .i64 (tookAt cs)]) (by simp [results, Try.results44, go_sem, at_cell HS.out.1]) rfl ⟨.slice o1 cs.length c1, .slice o2 ps.length c2, by rw [HV.out], by rw [HV.out]; exact HS.out.2.1, HS.out.2.2⟩

end Go.Proofs.Ytmejggnjmclefaa
