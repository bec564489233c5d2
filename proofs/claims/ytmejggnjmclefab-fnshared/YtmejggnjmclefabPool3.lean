/-
  Chapter 4: the specification's TakenPage, Shared, Dropped, at every argument; l4Take and l4Drop at a pool of the call's own.
-/
import Derived.Test.YtmejggnjmclefabPool2
namespace Go.Proofs.Ytmejggnjmclefab
open Go.RowKit
set_option linter.unusedVariables false

theorem map_setI (cs : List Int) (k : Nat) (x : Int) : (cs.map (Value.int .i64)).set k (.int .i64 x) = (cs.set k x).map (Value.int .i64) := by rw [List.map_set]
/-- One cell of each row is written. -/
theorem OwnP.set1 {base : Nat} {w : World} {g1 c1 : Nat} {v2 : Value} {cs ps : List Int} (h : OwnP base w (.slice (some ⟨g1, 0, none⟩) cs.length c1) v2 cs ps) (k : Nat) (x : Int) :
    OwnP base (w.setCell ⟨g1, k, none⟩ (.int .i64 x)) (.slice (some ⟨g1, 0, none⟩) cs.length c1) v2 (cs.set k x) ps := by
  refine ⟨?_, own_only (S := fun b => b = g1) h.p ((Only.refl (fun b => b = g1) _).setCell ⟨g1, k, none⟩ rfl _) (fun g hg e => h.apart g1 rfl (by rw [hg, e])), h.apart⟩
  have := (h.c.stored k (.int .i64 x)).1
  rw [map_setI] at this
  rwa [List.length_set]
theorem OwnP.set2 {base : Nat} {w : World} {g2 c2 : Nat} {v1 : Value} {cs ps : List Int} (h : OwnP base w v1 (.slice (some ⟨g2, 0, none⟩) ps.length c2) cs ps) (k : Nat) (x : Int) :
    OwnP base (w.setCell ⟨g2, k, none⟩ (.int .i64 x)) v1 (.slice (some ⟨g2, 0, none⟩) ps.length c2) cs (ps.set k x) := by
  refine ⟨own_only (S := fun b => b = g2) h.c ((Only.refl (fun b => b = g2) _).setCell ⟨g2, k, none⟩ rfl _) (fun g hg e => h.apart g hg (by rw [e]; rfl)), ?_, h.apart⟩
  have := (h.p.stored k (.int .i64 x)).1
  rw [map_setI] at this
  rwa [List.length_set]
theorem own_form2 {w : World} {base : Nat} {v1 v2 : Value} {cs ps : List Int} (h : OwnP base w v1 v2 cs ps) (hc : 1 ≤ cs.length) (hp : ps.length = cs.length) :
    ∃ g1 c1 g2 c2, v1 = .slice (some ⟨g1, 0, none⟩) cs.length c1 ∧ v2 = .slice (some ⟨g2, 0, none⟩) ps.length c2 ∧ g1 ≠ g2 := by
  rcases h.c.2 with ⟨_, hn⟩ | ⟨g1, c1, cur, rfl, _⟩
  · omega
  rcases h.p.2 with ⟨_, hn⟩ | ⟨g2, c2, cur2, rfl, _⟩
  · omega
  exact ⟨g1, c1, g2, c2, rfl, rfl, fun e => h.apart g1 rfl (by rw [e]; rfl)⟩

set_option maxHeartbeats 1600000 in
theorem l4Drop_any (b base k : Nat) (v1 v2 : Value) (cs ps : List Int) (w : World) (hk : w.heap[b]? = some (.cells #[v1, v2] 26 (0, 0))) (own : OwnP base w v1 v2 cs ps) (hc : k < cs.length) (hc2 : cs.length ≤ 1048576) (hp : ps.length = cs.length) (hr : 1 ≤ cs.getD k 0 ∧ cs.getD k 0 ≤ 400) :
    Calls Try.prog 24 #[.pointer (some ⟨b, 0, none⟩), .int .i64 k] w fun e w' => e = .returned (.tuple #[]) ∧ OwnP base w' v1 v2 (cs.set k (cs.getD k 0 - 1)) (if cs.getD k 0 = 1 then ps.set k 0 else ps) ∧ Only (fun i => v1.ownBlock = some i ∨ v2.ownBlock = some i) w w' := by
  obtain ⟨g1, c1, g2, c2, rfl, rfl, hne⟩ := own_form2 own (by omega) hp
  have n1 := own_not_box own.c hk (by decide)
  have n2 := own_not_box own.p hk (by decide)
  have hn1 : ¬ b = g1 := fun e => n1 (by rw [e]; rfl)
  have hn2 : ¬ b = g2 := fun e => n2 (by rw [e]; rfl)
  have hn3 : ¬ g1 = b := fun e => hn1 e.symm
  have hn4 : ¬ g2 = b := fun e => hn2 e.symm
  have hne' : ¬ g2 = g1 := fun e => hne e.symm
  have p0 := at_cell hk 0
  have p1 := at_cell hk 1
  have cc1 := (own.c.cellAt k (by omega)).trans (getD_some cs k hc)
  have cc2 := (own.p.cellAt k (by omega)).trans (getD_some ps k (by omega))
  have fc := own.c.frozenAt k
  have fp := own.p.frozenAt k
  have own1 := own.set1 k (cs.getD k 0 - 1)
  have HO : Hid _ := And.intro own1 (own1.set2 k 0)
  have i0 : (0 : Int) ≤ (k : Int) := by omega
  have i1 : (k : Int) < (cs.length : Int) := by omega
  have i2 : (k : Int) < (ps.length : Int) := by omega
  clear own own1 n1 n2 hk hp
  generalize cs.getD k 0 = c at *
  generalize ps.getD k 0 = y at cc2
  by_cases hc1 : c = 1
  · subst hc1
    rw [if_pos rfl]
    go_enter Try.func24, Try.ntmps24
    go_wp2_with fail
    go_region
    go_wp2_with fail
    exact bodyPost_end (results_none rfl _ _ _) rfl ⟨rfl, HO.out.2.below ((Below.refl _ _).drew), (((Only.refl _ _).setCell _ (.inl rfl) _).setCell _ (.inr rfl) _).below ((Below.refl _ _).drew)⟩
  · rw [if_neg hc1]
    have hz : (c - 1 == 0) = false := by simp; omega
    go_enter Try.func24, Try.ntmps24
    go_wp2_with fail
    go_region
    go_wp2_with fail
    exact bodyPost_end (results_none rfl _ _ _) rfl ⟨rfl, HO.out.1.below ((Below.refl _ _).drew), ((Only.refl _ _).setCell _ (.inl rfl) _).below ((Below.refl _ _).drew)⟩

theorem pool_endD (w W : World) (u1 u2 x y : Value) (b : Nat) (cs ps : List Int) (hb : w.heap.size ≤ b) (k : W.heap[b]? = some (.cells #[x, y] 26 (0, 0))) (own : OwnP (b + 1) W u1 u2 cs ps) (d : Below w.heap.size w W) :
    (((W.setCell ⟨b, 0, none⟩ u1).setCell ⟨b, 1, none⟩ u2).drew).heap[b]? = some (.cells #[u1, u2] 26 (0, 0)) ∧ OwnP w.heap.size (((W.setCell ⟨b, 0, none⟩ u1).setCell ⟨b, 1, none⟩ u2).drew) u1 u2 cs ps ∧ Below w.heap.size w (((W.setCell ⟨b, 0, none⟩ u1).setCell ⟨b, 1, none⟩ u2).drew) := by
  obtain ⟨h1, h2, h3⟩ := pool_end w W u1 u2 x y b cs ps hb k own d
  exact ⟨h1, h2.below ((Below.refl _ _).drew), bw_drew h3⟩

/-- A call's own pool in a box of its own, written into by a callee: the answer's box stays. -/
theorem own_blocks {base : Nat} {w : World} {v1 v2 : Value} {cs ps : List Int} (h : OwnP base w v1 v2 cs ps) : ∀ i, (v1.ownBlock = some i ∨ v2.ownBlock = some i) → base ≤ i := by
  rintro i (h1 | h1)
  · exact (h.c.lt i h1).1
  · exact (h.p.lt i h1).1

set_option maxHeartbeats 3200000 in
theorem specShared_any (v1 v2 : Value) (cs ps : List Int) (at_ : Int) (w : World) (h1 : Reads w.heap.size w v1 (cs.map (Value.int .i64))) (h2 : Reads w.heap.size w v2 (ps.map (Value.int .i64))) :
    Calls Try.prog 9 #[.agg #[v1, v2], .int .i64 at_] w fun e w' => ∃ u1 u2 : Value, e = .returned (.tuple #[.agg #[u1, u2], .bool (shared cs ps at_).2]) ∧ OwnP w.heap.size w' u1 u2 (shared cs ps at_).1.1 (shared cs ps at_).1.2 ∧ Below w.heap.size w w' := by
  obtain ⟨W0, hW0, k0, k1, d0, z0⟩ := pool_start w v1 v2
  have r1 := (h1.below d0).mono d0.size
  have r2 := (h2.below d0).mono d0.size
  have p0 := at_cell k0 0
  have p1 := at_cell k0 1
  have HW0 : Hid (W0 = _) := hW0
  clear hW0 h1 h2
  go_enter Try.func9, Try.ntmps9
  go_wp2_with fail
  rw [← HW0.out]
  clear HW0
  refine (specPoolOk_any v1 v2 cs ps _ r1 r2).mono ?_
  rintro e w1 ⟨rfl, b1⟩
  replace k0 := (b1.block _ (by omega)).trans k0
  replace k1 := (b1.block _ (by omega)).trans k1
  replace r1 := (r1.below b1).mono b1.size
  replace r2 := (r2.below b1).mono b1.size
  replace d0 := bw_call d0 b1
  have z1 : w.heap.size + 1 + 1 ≤ w1.heap.size := by have := b1.size; omega
  clear p0 p1 b1 z0
  cases hok : poolOk cs ps
  · have HV : Hid (shared cs ps at_ = (([], []), false)) := by simp [Hid, shared, hok]
    have q0 := at_cell k1 0
    have q1 := at_cell k1 1
    have f0 := at_open k1 0
    have f1 := at_open k1 1
    have HS : Hid _ := pool_end w w1 (.slice none 0 0) (.slice none 0 0) _ _ (w.heap.size + 1) [] [] (by omega) k1 (OwnP.nil _ _) d0
    clear k0 k1 r1 r2 hok
    go_wp2_with fail
    refine bodyPost_ret (v := .tuple #[.agg #[.slice none 0 0, .slice none 0 0], .bool false]) (by simp [results, Try.results9, go_sem, at_cell HS.out.1]) rfl ⟨.slice none 0 0, .slice none 0 0, by rw [HV.out], by rw [HV.out]; exact HS.out.2.1, HS.out.2.2⟩
  · have hb := (poolOk_iff cs ps).1 hok
    have HP : Hid (ps.length = cs.length) := hb.2.2.1
    have hlc : cs.length ≤ 1048576 := by omega
    have hlp : ps.length ≤ 1048576 := by omega
    have hc1 : 1 ≤ cs.length := hb.1
    have HOK : Hid (poolOk cs ps = true) := hok
    have HB : Hid (∀ j, j < cs.length → cellOk (cs.getD j 0) (ps.getD j 0) = true) := hb.2.2.2
    have p0 := at_cell k0 0
    have p1 := at_cell k0 1
    clear hok hb
    go_wp2_with fail
    refine (l4Copy_any v1 v2 cs ps _ hlc hlp r1 r2).mono ?_
    rintro e w2 ⟨u1, u2, rfl, own, b2⟩
    replace k0 := (b2.block _ (by omega)).trans k0
    replace k1 := (b2.block _ (by omega)).trans k1
    replace r1 := (r1.below b2)
    have y1 := b2.size
    replace d0 := bw_call d0 b2
    have z2 := b2.size
    obtain ⟨g1, c1, g2, c2, rfl, rfl, hne⟩ := own_form2 own hc1 HP.out
    clear p0 p1 b2 r2
    -- the copy's box
    have dB : Below w2.heap.size w2 (w2.alloc (.cells #[.slice (some ⟨g1, 0, none⟩) cs.length c1, .slice (some ⟨g2, 0, none⟩) ps.length c2] 26)) := bw_alloc (Below.refl _ _)
    have kB := heap_alloc_new w2 (.cells #[.slice (some ⟨g1, 0, none⟩) cs.length c1, .slice (some ⟨g2, 0, none⟩) ps.length c2] 26)
    replace k0 := (dB.block _ (by omega)).trans k0
    replace k1 := (dB.block _ (by omega)).trans k1
    replace own := own.below dB
    replace r1 := r1.below (dB.mono y1)
    replace y1 := Nat.le_trans y1 dB.size
    replace d0 := bw_call d0 dB
    have z3 := dB.size
    have p0 := at_cell k0 0
    have p1 := at_cell k0 1
    clear dB
    go_wp2_with fail
    generalize w2.alloc (.cells #[.slice (some ⟨g1, 0, none⟩) cs.length c1, .slice (some ⟨g2, 0, none⟩) ps.length c2] 26) = W3 at *
    refine (l4Has_any v1 v2 cs at_ _ (r1.mono y1)).mono ?_
    rintro e w3 ⟨rfl, b3⟩
    replace k0 := (b3.block _ (heap_lt k0)).trans k0
    replace k1 := (b3.block _ (heap_lt k1)).trans k1
    replace kB := (b3.block _ (heap_lt kB)).trans kB
    replace own := own.below b3
    replace r1 := r1.below (b3.mono y1)
    replace y1 := Nat.le_trans y1 b3.size
    replace d0 := bw_call d0 b3
    have z4 := b3.size
    clear b3 p0 p1
    -- the answer is the copy as it was
    have HS : Hid _ := pool_end w w3 _ _ _ _ (w.heap.size + 1) cs ps (by omega) k1 (own.mono z1) d0
    have s0 := at_cell kB 0
    have s1 := at_cell kB 1
    have q0 := at_cell k1 0
    have q1 := at_cell k1 1
    have f0 := at_open k1 0
    have f1 := at_open k1 1
    by_cases hcnt : 1 ≤ countAt cs at_
    · obtain ⟨k, rfl, hk, hce⟩ := countAt_pos cs at_ hcnt
      have hd : decide (0 < countAt cs (k : Int)) = true := by simp; omega
      rw [hd]
      obtain ⟨o1, cap1, rfl, m1, c1', -⟩ := r1
      obtain ⟨gg, off, rfl, hgg, cc0⟩ := c1' k _ (getD_some cs k hk)
      have hl0 : (cs.map (Value.int .i64)).length = cs.length := by simp
      rw [hl0] at k0
      have p0 := at_cell k0 0
      have cck := (cellOk_iff _ _).1 (HB.out k hk)
      have i0 : (0 : Int) ≤ (k : Int) := by omega
      have i1 : (k : Int) < (cs.length : Int) := by omega
      by_cases h4 : cs.getD k 0 = 400
      · have HV : Hid (shared cs ps (k : Int) = ((cs, ps), false)) := by
          rw [Hid, shared, if_pos HOK.out, if_neg (by omega)]
        rw [h4] at cc0
        clear k1 own kB k0 hd m1 c1' hce h4 hcnt
        go_wp2_with fail
        exact bodyPost_ret (v := .tuple #[.agg #[.slice (some ⟨g1, 0, none⟩) cs.length c1, .slice (some ⟨g2, 0, none⟩) ps.length c2], .bool false]) (by simp [results, Try.results9, go_sem, at_cell HS.out.1]) rfl ⟨.slice (some ⟨g1, 0, none⟩) cs.length c1, .slice (some ⟨g2, 0, none⟩) ps.length c2, by rw [HV.out], by rw [HV.out]; exact HS.out.2.1, HS.out.2.2⟩
      · have HV : Hid (shared cs ps (k : Int) = ((cs.set k (cs.getD k 0 + 1), ps), true)) := by
          rw [Hid, shared, if_pos HOK.out, if_pos (by omega), hce, Int.toNat_natCast]
        have n1 := own_not_box own.c k1 (by decide)
        have n2 := own_not_box own.c kB (by decide)
        have hn1 : ¬ w.heap.size + 1 = g1 := fun e => n1 (by rw [e]; rfl)
        have hn2 : ¬ w2.heap.size = g1 := fun e => n2 (by rw [e]; rfl)
        have hn3 : ¬ g1 = w.heap.size + 1 := fun e => hn1 e.symm
        have hn4 : ¬ g1 = w2.heap.size := fun e => hn2 e.symm
        have t0 := (own.c.cellAt k (by omega)).trans (getD_some cs k hk)
        have t1 := own.c.frozenAt k
        have hg1 := (own.c.lt g1 rfl).1
        have u : Upto g1 w3 (w3.setCell ⟨g1, k, none⟩ (.int .i64 (cs.getD k 0 + 1))) := (Upto.refl _ _).setCell ⟨g1, k, none⟩ (.inl rfl) _
        have HS2 : Hid _ := pool_endD w (w3.setCell ⟨g1, k, none⟩ (.int .i64 (cs.getD k 0 + 1))) _ _ _ _ (w.heap.size + 1) _ _ (by omega) ((u.block _ (by omega) hn1).trans k1) ((own.set1 k (cs.getD k 0 + 1)).mono z1) (d0.trans (u.toBelow (by omega) (by omega)))
        have h5 : (cs.getD k 0 == 400) = false := by simpa using h4
        clear HS k1 own kB k0 hd m1 c1' hce h4 hcnt n1 n2 u
        generalize cs.getD k 0 = c at *
        go_wp2_with fail
        go_region
        go_wp2_with fail
        exact bodyPost_ret (v := .tuple #[.agg #[.slice (some ⟨g1, 0, none⟩) cs.length c1, .slice (some ⟨g2, 0, none⟩) ps.length c2], .bool true]) (by simp [results, Try.results9, go_sem, at_cell HS2.out.1]) rfl ⟨.slice (some ⟨g1, 0, none⟩) cs.length c1, .slice (some ⟨g2, 0, none⟩) ps.length c2, by rw [HV.out], by rw [HV.out]; exact HS2.out.2.1, HS2.out.2.2⟩
    · have HV : Hid (shared cs ps at_ = ((cs, ps), false)) := by
        rw [Hid, shared, if_pos HOK.out, if_neg (by omega)]
      have hd : decide (0 < countAt cs at_) = false := by simp; omega
      rw [hd]
      clear k1 own kB k0 hd r1 hcnt
      go_wp2_with fail
      exact bodyPost_ret (v := .tuple #[.agg #[.slice (some ⟨g1, 0, none⟩) cs.length c1, .slice (some ⟨g2, 0, none⟩) ps.length c2], .bool false]) (by simp [results, Try.results9, go_sem, at_cell HS.out.1]) rfl ⟨.slice (some ⟨g1, 0, none⟩) cs.length c1, .slice (some ⟨g2, 0, none⟩) ps.length c2, by rw [HV.out], by rw [HV.out]; exact HS.out.2.1, HS.out.2.2⟩

set_option maxHeartbeats 3200000 in
theorem specDropped_any (v1 v2 : Value) (cs ps : List Int) (at_ : Int) (w : World) (h1 : Reads w.heap.size w v1 (cs.map (Value.int .i64))) (h2 : Reads w.heap.size w v2 (ps.map (Value.int .i64))) :
    Calls Try.prog 11 #[.agg #[v1, v2], .int .i64 at_] w fun e w' => ∃ u1 u2 : Value, e = .returned (.tuple #[.agg #[u1, u2], .bool (dropped cs ps at_).2]) ∧ OwnP w.heap.size w' u1 u2 (dropped cs ps at_).1.1 (dropped cs ps at_).1.2 ∧ Below w.heap.size w w' := by
  obtain ⟨W0, hW0, k0, k1, d0, z0⟩ := pool_start w v1 v2
  have r1 := (h1.below d0).mono d0.size
  have r2 := (h2.below d0).mono d0.size
  have p0 := at_cell k0 0
  have p1 := at_cell k0 1
  have HW0 : Hid (W0 = _) := hW0
  clear hW0 h1 h2
  go_enter Try.func11, Try.ntmps11
  go_wp2_with fail
  rw [← HW0.out]
  clear HW0
  refine (specPoolOk_any v1 v2 cs ps _ r1 r2).mono ?_
  rintro e w1 ⟨rfl, b1⟩
  replace k0 := (b1.block _ (by omega)).trans k0
  replace k1 := (b1.block _ (by omega)).trans k1
  replace r1 := (r1.below b1).mono b1.size
  replace r2 := (r2.below b1).mono b1.size
  replace d0 := bw_call d0 b1
  have z1 : w.heap.size + 1 + 1 ≤ w1.heap.size := by have := b1.size; omega
  clear p0 p1 b1 z0
  cases hok : poolOk cs ps
  · have HV : Hid (dropped cs ps at_ = (([], []), false)) := by simp [Hid, dropped, hok]
    have q0 := at_cell k1 0
    have q1 := at_cell k1 1
    have f0 := at_open k1 0
    have f1 := at_open k1 1
    have HS : Hid _ := pool_end w w1 (.slice none 0 0) (.slice none 0 0) _ _ (w.heap.size + 1) [] [] (by omega) k1 (OwnP.nil _ _) d0
    clear k0 k1 r1 r2 hok
    go_wp2_with fail
    refine bodyPost_ret (v := .tuple #[.agg #[.slice none 0 0, .slice none 0 0], .bool false]) (by simp [results, Try.results11, go_sem, at_cell HS.out.1]) rfl ⟨.slice none 0 0, .slice none 0 0, by rw [HV.out], by rw [HV.out]; exact HS.out.2.1, HS.out.2.2⟩
  · have hb := (poolOk_iff cs ps).1 hok
    have HP : Hid (ps.length = cs.length) := hb.2.2.1
    have hlc : cs.length ≤ 1048576 := by omega
    have hlp : ps.length ≤ 1048576 := by omega
    have hc1 : 1 ≤ cs.length := hb.1
    have HOK : Hid (poolOk cs ps = true) := hok
    have HB : Hid (∀ j, j < cs.length → cellOk (cs.getD j 0) (ps.getD j 0) = true) := hb.2.2.2
    have p0 := at_cell k0 0
    have p1 := at_cell k0 1
    clear hok hb
    go_wp2_with fail
    refine (l4Copy_any v1 v2 cs ps _ hlc hlp r1 r2).mono ?_
    rintro e w2 ⟨u1, u2, rfl, own, b2⟩
    replace k0 := (b2.block _ (by omega)).trans k0
    replace k1 := (b2.block _ (by omega)).trans k1
    replace r1 := (r1.below b2)
    have y1 := b2.size
    replace d0 := bw_call d0 b2
    have z2 := b2.size
    obtain ⟨g1, c1, g2, c2, rfl, rfl, hne⟩ := own_form2 own hc1 HP.out
    clear p0 p1 b2 r2
    -- the copy's box
    have dB : Below w2.heap.size w2 (w2.alloc (.cells #[.slice (some ⟨g1, 0, none⟩) cs.length c1, .slice (some ⟨g2, 0, none⟩) ps.length c2] 26)) := bw_alloc (Below.refl _ _)
    have kB := heap_alloc_new w2 (.cells #[.slice (some ⟨g1, 0, none⟩) cs.length c1, .slice (some ⟨g2, 0, none⟩) ps.length c2] 26)
    replace k0 := (dB.block _ (by omega)).trans k0
    replace k1 := (dB.block _ (by omega)).trans k1
    replace own := own.below dB
    replace r1 := r1.below (dB.mono y1)
    replace y1 := Nat.le_trans y1 dB.size
    replace d0 := bw_call d0 dB
    have z3 := dB.size
    have p0 := at_cell k0 0
    have p1 := at_cell k0 1
    clear dB
    go_wp2_with fail
    generalize w2.alloc (.cells #[.slice (some ⟨g1, 0, none⟩) cs.length c1, .slice (some ⟨g2, 0, none⟩) ps.length c2] 26) = W3 at *
    refine (l4Has_any v1 v2 cs at_ _ (r1.mono y1)).mono ?_
    rintro e w3 ⟨rfl, b3⟩
    replace k0 := (b3.block _ (heap_lt k0)).trans k0
    replace k1 := (b3.block _ (heap_lt k1)).trans k1
    replace kB := (b3.block _ (heap_lt kB)).trans kB
    replace own := own.below b3
    replace r1 := r1.below (b3.mono y1)
    replace y1 := Nat.le_trans y1 b3.size
    replace d0 := bw_call d0 b3
    have z4 := b3.size
    clear b3 p0 p1
    -- the answer is the copy as it was
    have HS : Hid _ := pool_end w w3 _ _ _ _ (w.heap.size + 1) cs ps (by omega) k1 (own.mono z1) d0
    have s0 := at_cell kB 0
    have s1 := at_cell kB 1
    have q0 := at_cell k1 0
    have q1 := at_cell k1 1
    have f0 := at_open k1 0
    have f1 := at_open k1 1
    by_cases hcnt : 1 ≤ countAt cs at_
    · obtain ⟨k, rfl, hk, hce⟩ := countAt_pos cs at_ hcnt
      have hd : decide (0 < countAt cs (k : Int)) = true := by simp; omega
      rw [hd]
      have cck := (cellOk_iff _ _).1 (HB.out k hk)
      have hr : 1 ≤ cs.getD k 0 ∧ cs.getD k 0 ≤ 400 := by omega
      have HV : Hid (dropped cs ps (k : Int) = ((cs.set k (cs.getD k 0 - 1), if cs.getD k 0 = 1 then ps.set k 0 else ps), true)) := by
        rw [Hid, dropped, if_pos HOK.out, if_pos (by omega), hce, Int.toNat_natCast]
      have n1 := own_not_box own.c k1 (by decide)
      have n2 := own_not_box own.p k1 (by decide)
      have n3 := own_not_box own.c kB (by decide)
      have n4 := own_not_box own.p kB (by decide)
      have HOB : Hid _ := own_blocks own
      clear HS hd hcnt hce cck
      go_wp2_with fail
      refine (l4Drop_any _ _ k _ _ cs ps _ kB own hk hlc HP.out hr).mono ?_
      rintro e w4 ⟨rfl, own4, on4⟩
      have k14 := (on4.block _ (heap_lt k1) (fun h => h.elim n1 n2)).trans k1
      have kB4 := (on4.block _ (heap_lt kB) (fun h => h.elim n3 n4)).trans kB
      have d4 := d0.trans (on4.toBelow (by omega) (fun i hi => by have := HOB.out i hi; omega))
      have HS : Hid _ := pool_end w w4 _ _ _ _ (w.heap.size + 1) _ _ (by omega) k14 (own4.mono z1) d4
      clear s0 s1 q0 q1 f0 f1
      have s0 := at_cell kB4 0
      have s1 := at_cell kB4 1
      have q0 := at_cell k14 0
      have q1 := at_cell k14 1
      have f0 := at_open k14 0
      have f1 := at_open k14 1
      clear k1 own kB k0 n1 n2 n3 n4 k14 kB4 d4 own4 on4 r1
      go_wp2_with fail
      exact bodyPost_ret (v := .tuple #[.agg #[.slice (some ⟨g1, 0, none⟩) cs.length c1, .slice (some ⟨g2, 0, none⟩) ps.length c2], .bool true]) (by simp [results, Try.results11, go_sem, at_cell HS.out.1]) rfl ⟨.slice (some ⟨g1, 0, none⟩) cs.length c1, .slice (some ⟨g2, 0, none⟩) ps.length c2, by rw [HV.out], by rw [HV.out]; exact HS.out.2.1, HS.out.2.2⟩
    · have HV : Hid (dropped cs ps at_ = ((cs, ps), false)) := by
        rw [Hid, dropped, if_pos HOK.out, if_neg (by omega)]
      have hd : decide (0 < countAt cs at_) = false := by simp; omega
      rw [hd]
      clear k1 own kB k0 hd r1 hcnt
      go_wp2_with fail
      exact bodyPost_ret (v := .tuple #[.agg #[.slice (some ⟨g1, 0, none⟩) cs.length c1, .slice (some ⟨g2, 0, none⟩) ps.length c2], .bool false]) (by simp [results, Try.results11, go_sem, at_cell HS.out.1]) rfl ⟨.slice (some ⟨g1, 0, none⟩) cs.length c1, .slice (some ⟨g2, 0, none⟩) ps.length c2, by rw [HV.out], by rw [HV.out]; exact HS.out.2.1, HS.out.2.2⟩

end Go.Proofs.Ytmejggnjmclefab
