/-
  Chapter 4: the program's copies of pools, TakenPage, Shared, Dropped, at every argument.
-/
import Derived.Test.YtmejggnjmclefabImPool2
namespace Go.Proofs.Ytmejggnjmclefab
open Go.RowKit
set_option linter.unusedVariables false

set_option maxHeartbeats 3200000 in
theorem implShared_any (v1 v2 : Value) (cs ps : List Int) (at_ : Int) (w : World) (h1 : Reads w.heap.size w v1 (cs.map (Value.int .i64))) (h2 : Reads w.heap.size w v2 (ps.map (Value.int .i64))) :
    Calls Try.prog 6 #[.agg #[v1, v2], .int .i64 at_] w fun e w' => ∃ u1 u2 : Value, e = .returned (.tuple #[.agg #[u1, u2], .bool (shared cs ps at_).2]) ∧ OwnP w.heap.size w' u1 u2 (shared cs ps at_).1.1 (shared cs ps at_).1.2 ∧ Below w.heap.size w w' := by
  obtain ⟨W0, hW0, k0, k1, d0, z0⟩ := pool_start w v1 v2
  have r1 := (h1.below d0).mono d0.size
  have r2 := (h2.below d0).mono d0.size
  have p0 := at_cell k0 0
  have p1 := at_cell k0 1
  have HW0 : Hid (W0 = _) := hW0
  clear hW0 h1 h2
  go_enter Try.func6, Try.ntmps6
  go_wp2_with fail
  rw [← HW0.out]
  clear HW0
  refine (implPoolOk_any v1 v2 cs ps _ r1 r2).mono ?_
  rintro e w1 ⟨rfl, b1⟩
  replace k0 := (b1.block _ (by omega)).trans k0
  replace k1 := (b1.block _ (by omega)).trans k1
  replace r1 := (r1.below b1).mono b1.size
  replace r2 := (r2.below b1).mono b1.size
  replace d0 := bw_call d0 b1
  have z1 : w.heap.size + 1 + 1 ≤ w1.heap.size := by have := b1.size; omega
  clear p0 p1 b1 z0
  cases hok : poolOk cs ps
  · have HV : Hid (shared cs ps at_ = (([], []), false)) := by simp [Hid, shared, hok]
    have q0 := at_cell k1 0
    have q1 := at_cell k1 1
    have f0 := at_open k1 0
    have f1 := at_open k1 1
    have HS : Hid _ := pool_end w w1 (.slice none 0 0) (.slice none 0 0) _ _ (w.heap.size + 1) [] [] (by omega) k1 (OwnP.nil _ _) d0
    clear k0 k1 r1 r2 hok
    go_wp2_with fail
    exact bodyPost_ret (v := .tuple #[.agg #[.slice none 0 0, .slice none 0 0], .bool false]) (by simp [results, Try.results6, go_sem, at_cell HS.out.1]) rfl ⟨.slice none 0 0, .slice none 0 0, by rw [HV.out], by rw [HV.out]; exact HS.out.2.1, HS.out.2.2⟩
  · have hb := (poolOk_iff cs ps).1 hok
    have HP : Hid (ps.length = cs.length) := hb.2.2.1
    have hlc : cs.length ≤ 1048576 := by omega
    have hlp : ps.length ≤ 1048576 := by omega
    have hc1 : 1 ≤ cs.length := hb.1
    have HOK : Hid (poolOk cs ps = true) := hok
    have HB : Hid (∀ j, j < cs.length → cellOk (cs.getD j 0) (ps.getD j 0) = true) := hb.2.2.2
    have p0 := at_cell k0 0
    have p1 := at_cell k0 1
    clear hok hb
    go_wp2_with fail
    refine (countAt_any v1 v2 cs at_ _ r1).mono ?_
    rintro e w2 ⟨rfl, b2⟩
    replace k0 := (b2.block _ (heap_lt k0)).trans k0
    replace k1 := (b2.block _ (heap_lt k1)).trans k1
    replace r1 := (r1.below b2).mono b2.size
    replace r2 := (r2.below b2).mono b2.size
    replace d0 := bw_call d0 b2
    replace z1 := Nat.le_trans z1 b2.size
    clear p0 p1 b2
    have p0 := at_cell k0 0
    have p1 := at_cell k0 1
    -- as it was
    by_cases hcnt : countAt cs at_ < 1 ∨ 400 ≤ countAt cs at_
    · have HV : Hid (shared cs ps at_ = ((cs, ps), false)) := by rw [Hid, shared, if_pos HOK.out, if_neg (by omega)]
      generalize countAt cs at_ = n at hcnt ⊢
      rcases hcnt with hcnt | hcnt
      · go_wp2_with fail
        refine (samePool_any v1 v2 cs ps _ hlc hlp r1 r2).mono ?_
        rintro e w4 ⟨u1, u2, rfl, own, b⟩
        obtain ⟨o1, c1, rfl⟩ := own_slice own.c
        obtain ⟨o2, c2, rfl⟩ := own_slice own.p
        have k14 := (b.block _ (heap_lt k1)).trans k1
        have HS : Hid _ := pool_end w w4 _ _ _ _ (w.heap.size + 1) _ _ (by omega) k14 (own.mono z1) (bw_call d0 b)
        have q0 := at_cell k14 0
        have q1 := at_cell k14 1
        have f0 := at_open k14 0
        have f1 := at_open k14 1
        clear own b k0 k1 r1 r2 p0 p1 k14
        go_wp2_with fail
        exact bodyPost_ret (v := .tuple #[.agg #[.slice o1 cs.length c1, .slice o2 ps.length c2], .bool false]) (by simp [results, Try.results6, go_sem, at_cell HS.out.1]) rfl ⟨.slice o1 cs.length c1, .slice o2 ps.length c2, by rw [HV.out], by rw [HV.out]; exact HS.out.2.1, HS.out.2.2⟩
      · have hcn2 : ¬ n < 1 := by omega
        go_wp2_with fail
        refine (samePool_any v1 v2 cs ps _ hlc hlp r1 r2).mono ?_
        rintro e w4 ⟨u1, u2, rfl, own, b⟩
        obtain ⟨o1, c1, rfl⟩ := own_slice own.c
        obtain ⟨o2, c2, rfl⟩ := own_slice own.p
        have k14 := (b.block _ (heap_lt k1)).trans k1
        have HS : Hid _ := pool_end w w4 _ _ _ _ (w.heap.size + 1) _ _ (by omega) k14 (own.mono z1) (bw_call d0 b)
        have q0 := at_cell k14 0
        have q1 := at_cell k14 1
        have f0 := at_open k14 0
        have f1 := at_open k14 1
        clear own b k0 k1 r1 r2 p0 p1 k14
        go_wp2_with fail
        exact bodyPost_ret (v := .tuple #[.agg #[.slice o1 cs.length c1, .slice o2 ps.length c2], .bool false]) (by simp [results, Try.results6, go_sem, at_cell HS.out.1]) rfl ⟨.slice o1 cs.length c1, .slice o2 ps.length c2, by rw [HV.out], by rw [HV.out]; exact HS.out.2.1, HS.out.2.2⟩
    · have hcn : 1 ≤ countAt cs at_ ∧ countAt cs at_ < 400 := by omega
      obtain ⟨k, rfl, hk, hce⟩ := countAt_pos cs at_ (by omega)
      have hk2 : k < ps.length := by rw [HP.out]; exact hk
      obtain ⟨o2, cap2, rfl, m2, c2', hroom2⟩ := r2
      obtain ⟨g2, off2, rfl, hg2, cc2⟩ := c2' k _ (getD_some ps k hk2)
      have hl0 : (ps.map (Value.int .i64)).length = ps.length := by simp
      have r2 : Reads w2.heap.size w2 (.slice (some ⟨g2, off2, none⟩) (ps.map (Value.int .i64)).length cap2) (ps.map (Value.int .i64)) := ⟨_, _, rfl, m2, c2', hroom2⟩
      rw [hl0] at k0 r2 p0 p1
      have cck := (cellOk_iff _ _).1 (HB.out k hk)
      have i0 : (0 : Int) ≤ (k : Int) := by omega
      have i1 : (k : Int) < (ps.length : Int) := by omega
      clear m2 c2' hroom2 hl0 hcnt HB
      have HV : Hid (shared cs ps (k : Int) = ((cs.set k (countAt cs (k : Int) + 1), ps), true)) := by rw [Hid, shared, if_pos HOK.out, if_pos hcn, Int.toNat_natCast]
      generalize countAt cs (k : Int) = n at *
      obtain ⟨cs', hcs⟩ : ∃ x, cs.set k (n + 1) = x := ⟨_, rfl⟩
      have HPS : Hid (ps.set k (ps.getD k 0) = ps) := set_same ps k
      rw [hcs] at HV
      have HCS : Hid _ := hcs
      clear hcs hce cck
      generalize ps.getD k 0 = y at *
      obtain ⟨hcn1, hcn2⟩ := hcn
      have hcn3 : ¬ n < 1 := by omega
      have hcn4 : ¬ 400 ≤ n := by omega
      have hwr : IntKind.i64.wrap (n + 1) = n + 1 := by rw [IntKind.wrap_i64]; omega
      have P0 : w2.drew.cell? ⟨w.heap.size, 0, none⟩ = some v1 := at_cell k0 0
      have P1 : w2.drew.cell? ⟨w.heap.size, 1, none⟩ = some (.slice (some ⟨g2, off2, none⟩) ps.length cap2) := at_cell k0 1
      have R1 : Reads w2.drew.heap.size w2.drew v1 (cs.map (Value.int .i64)) := r1.below ((Below.refl _ _).drew)
      have R2 : Reads w2.drew.heap.size w2.drew (.slice (some ⟨g2, off2, none⟩) ps.length cap2) (ps.map (Value.int .i64)) := r2.below ((Below.refl _ _).drew)
      clear p0 p1
      go_wp2_with fail
      go_region_law (go_simp; go_at_call 20; refine (withCell_any v1 _ cs ps k (n + 1) y _ cs' ps HCS HPS hlc hlp hk hk2 R1 R2).mono ?_; rintro e w5 ⟨u1, u2, rfl, own5, b5⟩; obtain ⟨o1, c1, rfl⟩ := own_slice own5.c; obtain ⟨o3, c3, rfl⟩ := own_slice own5.p; have k51 := (b5.block _ (heap_lt k1)).trans k1; have q0 := at_cell k51 0; have q1 := at_cell k51 1; have f0 := at_open k51 0; have f1 := at_open k51 1; dsimp only)
      all_goals
        have HS : Hid _ := pool_end w w5 _ _ _ _ (w.heap.size + 1) _ _ (by omega) k51 (own5.mono z1) (bw_call (bw_drew d0) b5)
        clear own5 b5 k51 k0 k1 r1 r2 R1 R2 P0 P1 q0 q1 f0 f1
        go_wp2_with fail
        exact bodyPost_ret (v := .tuple #[.agg #[.slice o1 cs'.length c1, .slice o3 ps.length c3], .bool true]) (by simp [results, Try.results6, go_sem, at_cell HS.out.1]) rfl ⟨.slice o1 cs'.length c1, .slice o3 ps.length c3, by rw [HV.out], by rw [HV.out]; exact HS.out.2.1, HS.out.2.2⟩

end Go.Proofs.Ytmejggnjmclefab
