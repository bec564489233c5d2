/-
  Contracts and plain laws, one chapter behind the other.
-/
import Derived.Lib.Strings
import Derived.Lib.Slices
import Derived.Lib.Walk
import Derived.Lib.Bytealg
import Derived.Test.YtaekdfknkgmfbaaGreatDoorM02
import Derived.Test.YtaekdfknkgmfbaaGreatDoorM03
import Derived.Test.YtaekdfknkgmfbaaGreatDoorM04
import Derived.Test.YtaekdfknkgmfbaaGreatDoorM05
import Derived.Test.YtaekdfknkgmfbaaGreatDoorM06
import Derived.Test.YtaekdfknkgmfbaaGreatDoorM09
import Derived.Test.YtaekdfknkgmfbaaGreatDoorM13
namespace Go.Proofs.YtaekdfknkgmfbaaGreatDoor
open Go.RowKit

set_option linter.unusedVariables false

set_option maxRecDepth 100000


/-- A shelf that is read. -/
structure ReadsS (w : World) (v1 v2 vb : Value) (s : Sf) : Prop where
  c : Reads w.heap.size w v1 (s.cs.map (Value.int .i64))
  p : Reads w.heap.size w v2 (s.ps.map (Value.int .i64))
  b : ∃ bks : List Bk, ReadsB w.heap.size w vb bks ∧ bks.map Bk.pb = s.bs

theorem ReadsS.below {w w' : World} {v1 v2 vb : Value} {s : Sf} (h : ReadsS w v1 v2 vb s) (k : Below w.heap.size w w') : ReadsS w' v1 v2 vb s := by
  obtain ⟨bks, h1, h2⟩ := h.b
  exact ⟨(h.c.below k).mono k.size, (h.p.below k).mono k.size, bks, (h1.below k).mono k.size, h2⟩

/-- A shelf of one's own, its books somewhere. -/
structure OwnD (base : Nat) (w : World) (v1 v2 vb : Value) (s : Sf) : Prop where
  p : OwnP base w v1 v2 s.cs s.ps
  b : ∃ bks : List Bk, OwnB base w vb bks ∧ bks.map Bk.pb = s.bs

theorem OwnD.below {base : Nat} {w w' : World} {v1 v2 vb : Value} {s : Sf} (h : OwnD base w v1 v2 vb s) (k : Below w.heap.size w w') : OwnD base w' v1 v2 vb s := by
  obtain ⟨bks, h1, h2⟩ := h.b
  exact ⟨h.p.below k, bks, h1.below k, h2⟩

theorem OwnD.upto {base c : Nat} {w w' : World} {v1 v2 vb : Value} {s : Sf} (h : OwnD base w v1 v2 vb s) (u : Upto c w w') (hc : c < base) : OwnD base w' v1 v2 vb s := by
  obtain ⟨bks, h1, h2⟩ := h.b
  exact ⟨h.p.upto u hc, bks, h1.upto u hc, h2⟩

theorem OwnD.mono {base base' : Nat} {w : World} {v1 v2 vb : Value} {s : Sf} (h : OwnD base w v1 v2 vb s) (k : base' ≤ base) : OwnD base' w v1 v2 vb s := by
  obtain ⟨bks, h1, h2⟩ := h.b
  exact ⟨h.p.mono k, bks, h1.mono k, h2⟩

theorem OwnD.reads {base : Nat} {w : World} {v1 v2 vb : Value} {s : Sf} (h : OwnD base w v1 v2 vb s) : ReadsS w v1 v2 vb s := by
  obtain ⟨bks, h1, h2⟩ := h.b
  exact ⟨Reads.of_own h.p.c, Reads.of_own h.p.p, bks, h1.reads, h2⟩

theorem OwnD.nil (base : Nat) (w : World) : OwnD base w (.slice none 0 0) (.slice none 0 0) (.slice none 0 0) ⟨[], [], []⟩ := ⟨OwnP.nil _ _, [], ⟨World.ownsRow_nil _ _ _ _, fun b hb => by cases hb⟩, rfl⟩

theorem did_reads {base b c d : Nat} {W : World} {u1 u2 ub : Value} {bks : List Bk} {s : Sf} (st : ShSt base b W u1 u2 ub bks s) (hc : c < base) (hd : d < base) (y0 y1 y2 y3 y4 : Value) : OwnD base (((((W.setCell ⟨c, 0, none⟩ y0).setCell ⟨c, 1, none⟩ y1).setCell ⟨c, 2, none⟩ y2).setCell ⟨d, 0, none⟩ y3).setCell ⟨d, 1, none⟩ y4).drew u1 u2 ub s ∧ OwnD base (((((W.setCell ⟨d, 0, none⟩ y3).setCell ⟨d, 1, none⟩ y4).setCell ⟨c, 0, none⟩ y0).setCell ⟨c, 1, none⟩ y1).setCell ⟨c, 2, none⟩ y2).drew u1 u2 ub s := by
  have ua : ∀ X : World, Upto c X (((X.setCell ⟨c, 0, none⟩ y0).setCell ⟨c, 1, none⟩ y1).setCell ⟨c, 2, none⟩ y2) := fun X => (((Upto.refl _ _).setCell ⟨c, 0, none⟩ (.inl rfl) _).setCell ⟨c, 1, none⟩ (.inl rfl) _).setCell ⟨c, 2, none⟩ (.inl rfl) _
  have ud : ∀ X : World, Upto d X ((X.setCell ⟨d, 0, none⟩ y3).setCell ⟨d, 1, none⟩ y4) := fun X => ((Upto.refl _ _).setCell ⟨d, 0, none⟩ (.inl rfl) _).setCell ⟨d, 1, none⟩ (.inl rfl) _
  have h0 : OwnD base W u1 u2 ub s := ⟨st.pool, bks, st.books, st.eq⟩
  exact ⟨((h0.upto (ua _) hc).upto (ud _) hd).below ((Below.refl _ _).drew), ((h0.upto (ud _) hd).upto (ua _) hc).below ((Below.refl _ _).drew)⟩

set_option maxHeartbeats 3200000 in
theorem specDidO_any (v1 v2 vb : Value) (cs ps : List Int) (bks : List Bk) (k : Int) (nm ot : ByteArray) (at_ va ep : Int) (w : World) (hnb : ∀ b ∈ bks, b.nm.size ≤ maxLen) (hn : nm.size ≤ maxLen) (ho : ot.size ≤ maxLen) (r1 : Reads w.heap.size w v1 (cs.map (Value.int .i64))) (r2 : Reads w.heap.size w v2 (ps.map (Value.int .i64))) (rb : ReadsB w.heap.size w vb bks) :
    Calls Tryz.prog 17 #[.agg #[v1, v2, vb], .agg #[.int .i64 k, .string nm, .string ot, .int .i64 at_, .int .i64 va, .int .i64 ep]] w fun e w' => ∃ u1 u2 ub : Value, e = .returned (.tuple #[.agg #[u1, u2, ub], .agg #[.int .i64 (didOp ⟨cs, ps, bks.map Bk.pb⟩ ⟨k, nm, ot, at_, va, ep⟩).2.1, .int .i64 (didOp ⟨cs, ps, bks.map Bk.pb⟩ ⟨k, nm, ot, at_, va, ep⟩).2.2]]) ∧ OwnD w.heap.size w' u1 u2 ub (didOp ⟨cs, ps, bks.map Bk.pb⟩ ⟨k, nm, ot, at_, va, ep⟩).1 ∧ Below w.heap.size w w' := by
  obtain ⟨o1, cp1, f1, -, -, -⟩ := id r1
  obtain ⟨o2, cp2, f2, -, -, -⟩ := id r2
  obtain ⟨ob, cpb, f3, -, -, -⟩ := id rb.row
  simp only [List.length_map] at f1 f2
  subst f1 f2 f3
  obtain ⟨Wa, hWa, ka, kb, da, za⟩ := box2 w #[.slice o1 cs.length cp1, .slice o2 ps.length cp2, .slice ob bks.length cpb] #[.int .i64 k, .string nm, .string ot, .int .i64 at_, .int .i64 va, .int .i64 ep] 29 31
  obtain ⟨W0, hW0, kc, kd, d0, z0⟩ := box2 Wa #[.slice none 0 0, .slice none 0 0, .slice none 0 0] #[.int .i64 0, .int .i64 0] 29 35
  rw [za] at kc kd
  rw [hWa] at hW0
  have HW0 : Hid (W0 = _) := hW0
  replace ka := (d0.block _ (heap_lt ka)).trans ka
  replace kb := (d0.block _ (heap_lt kb)).trans kb
  replace d0 := bw_call da d0
  have s1 := (r1.below d0).mono d0.size
  have s2 := (r2.below d0).mono d0.size
  have sb := (rb.below d0).mono d0.size
  clear hW0 hWa za z0 da r1 r2 rb
  go_enter Tryz.func17, Tryz.ntmps17
  go_wp2_with fail
  rw [← HW0.out]
  clear HW0
  refine (specShelfOk_any _ _ _ cs ps bks _ hnb s1 s2 sb).mono ?_
  rintro e w1 ⟨rfl, b1⟩
  replace ka := (b1.block _ (heap_lt ka)).trans ka
  replace kb := (b1.block _ (heap_lt kb)).trans kb
  replace kc := (b1.block _ (heap_lt kc)).trans kc
  replace kd := (b1.block _ (heap_lt kd)).trans kd
  replace d0 := bw_call d0 b1
  replace s1 := (s1.below b1).mono b1.size
  replace s2 := (s2.below b1).mono b1.size
  replace sb := (sb.below b1).mono b1.size
  have lc1 := heap_lt kc
  have ld1 := heap_lt kd
  clear b1
  obtain ⟨bs, hbs⟩ : ∃ bs, bks.map Bk.pb = bs := ⟨_, rfl⟩
  rw [hbs]
  have n1 : ¬ w.heap.size + 1 + 1 = w.heap.size + 1 + 1 + 1 := by omega
  have n2 : ¬ w.heap.size + 1 + 1 + 1 = w.heap.size + 1 + 1 := by omega
  cases hok : shelfOk ⟨cs, ps, bs⟩
  · have HV : Hid (didOp ⟨cs, ps, bs⟩ ⟨k, nm, ot, at_, va, ep⟩ = (⟨[], [], []⟩, (1, 0))) := didOp_no hok
    have HB : Hid _ := hbs
    have q0 := at_cell kc 0
    have q1 := at_cell kc 1
    have q2 := at_cell kc 2
    have f0 := at_open kc 0
    have f1 := at_open kc 1
    have f2 := at_open kc 2
    have q3 := at_cell kd 0
    have q4 := at_cell kd 1
    have f3 := at_open kd 0
    have f4 := at_open kd 1
    have HS : Hid _ := did_end (w := w) kc kd n1 (by omega) d0 (.slice none 0 0) (.slice none 0 0) (.slice none 0 0) (.int .i64 1) (.int .i64 0)
    clear ka kb kc kd d0 s1 s2 sb hok hbs
    go_wp2_with fail
    exact bodyPost_ret (v := .tuple #[.agg #[.slice none 0 0, .slice none 0 0, .slice none 0 0], .agg #[.int .i64 1, .int .i64 0]]) (by simp [results, Tryz.results17, go_sem, at_cell HS.out.1, at_cell HS.out.2.1]) rfl ⟨_, _, _, by rw [HB.out, HV.out], by rw [HB.out, HV.out]; exact OwnD.nil _ _, HS.out.2.2⟩
  · have HV : Hid (didOp ⟨cs, ps, bs⟩ ⟨k, nm, ot, at_, va, ep⟩ = doOp ⟨cs, ps, bs⟩ ⟨k, nm, ot, at_, va, ep⟩) := didOp_yes hok
    have HB : Hid _ := hbs
    have inv := (shelfOk_iff _).1 hok
    have h24 := inv.n1
    have HPP : Hid (ps.length = cs.length) := inv.cells.p
    have hfew : bks.length ≤ 6 := by have h := inv.few; simp only at h; rw [← hbs, List.length_map] at h; exact h
    have hrs : ∀ b ∈ bks, b.rs.length ≤ 1048576 := fun b hb => by
      have h := (book_parts (inv.oks b.pb (by rw [← hbs]; exact List.mem_map_of_mem hb))).2.2.2.1
      rw [mapOk, Bool.and_eq_true, decide_eq_true_iff] at h
      have := h.2
      simp only [Bk.pb] at this
      omega
    simp only at h24
    have a0 := at_cell ka 0
    have a1 := at_cell ka 1
    have a2 := at_cell ka 2
    clear hok
    go_wp2_with fail
    clear a0 a1 a2
    refine (l8Copy_any _ _ _ cs ps bks _ (by omega) (by have := HPP.out; omega) hfew hrs s1 s2 sb).mono ?_
    rintro e w2 ⟨u1, u2, ub, ms, rfl, ownP, ownB, hms, b2⟩
    obtain ⟨p1, q1, hf1⟩ := own_slice ownP.c
    obtain ⟨p2, q2, hf2⟩ := own_slice ownP.p
    obtain ⟨p3, q3, hf3⟩ := own_slice ownB.row
    subst hf1 hf2 hf3
    replace ka := (b2.block _ (heap_lt ka)).trans ka
    replace kb := (b2.block _ (heap_lt kb)).trans kb
    replace kc := (b2.block _ (heap_lt kc)).trans kc
    replace kd := (b2.block _ (heap_lt kd)).trans kd
    have lc := heap_lt kc
    have ld := heap_lt kd
    obtain ⟨W3, hW3, k6, d3, z3⟩ := box1 w2 #[.slice p1 cs.length q1, .slice p2 ps.length q2, .slice p3 ms.length q3] 29
    have HW3 : Hid (W3 = _) := hW3
    have st : ShSt w1.heap.size w2.heap.size W3 (.slice p1 cs.length q1) (.slice p2 ps.length q2) (.slice p3 ms.length q3) ms ⟨cs, ps, bs⟩ := ⟨k6, b2.size, ownP.below d3, ownB.below d3, by rw [hms, hbs]⟩
    have b23 : Below w1.heap.size w1 W3 := bw_call b2 d3
    have lb := heap_lt kb
    have c0 := at_cell kb 0
    have c1 := at_cell kb 1
    have c2 := at_cell kb 2
    have c3 := at_cell kb 3
    have c4 := at_cell kb 4
    have c5 := at_cell kb 5
    replace kc := (d3.block _ (heap_lt kc)).trans kc
    replace kd := (d3.block _ (heap_lt kd)).trans kd
    clear hW3 z3 k6 s1 s2 sb ownP ownB ka
    go_wp2_with fail
    rw [← HW3.out]
    clear HW3 c0 c1 c2 c3 c4 c5 lb kb
    refine (l8Do_any w1.heap.size w2.heap.size _ _ _ ms ⟨cs, ps, bs⟩ k nm ot at_ va ep _ hn ho inv st).mono ?_
    rintro e w4 ⟨vb', bks', rfl, st4, b4⟩
    obtain ⟨p4, q4, hf4⟩ := own_slice st4.books.row
    subst hf4
    obtain ⟨⟨s', c', v'⟩, hdo⟩ : ∃ x, doOp ⟨cs, ps, bs⟩ ⟨k, nm, ot, at_, va, ep⟩ = x := ⟨_, rfl⟩
    rw [hdo] at HV st4
    rw [hdo]
    simp only at st4 ⊢
    replace kc := (b4.block _ lc1).trans kc
    replace kd := (b4.block _ ld1).trans kd
    have d4 := d0.trans ((b23.trans b4).mono d0.size)
    obtain ⟨W5, hW5, k7, d5, z5⟩ := box1 w4 #[.int .i64 c', .int .i64 v'] 35
    have HW5 : Hid (W5 = _) := hW5
    have st5 := st4.below d5
    replace kc := (d5.block _ (heap_lt kc)).trans kc
    replace kd := (d5.block _ (heap_lt kd)).trans kd
    replace d4 := bw_call d4 d5
    clear hW5 z5
    have hb26 := st5.lo
    have hb4s := Nat.lt_of_lt_of_le (heap_lt st4.box) (Nat.le_refl _)
    have m1 : ¬ w.heap.size + 1 + 1 = w2.heap.size := by omega
    have m2 : ¬ w2.heap.size = w.heap.size + 1 + 1 := by omega
    have m3 : ¬ w.heap.size + 1 + 1 + 1 = w2.heap.size := by omega
    have m4 : ¬ w2.heap.size = w.heap.size + 1 + 1 + 1 := by omega
    have m5 : ¬ w.heap.size + 1 + 1 = w4.heap.size := by omega
    have m6 : ¬ w4.heap.size = w.heap.size + 1 + 1 := by omega
    have m7 : ¬ w.heap.size + 1 + 1 + 1 = w4.heap.size := by omega
    have m8 : ¬ w4.heap.size = w.heap.size + 1 + 1 + 1 := by omega
    have HE1 : Hid _ := did_end (w := w) kc kd n1 (by omega) d4 (.slice p1 cs.length q1) (.slice p2 ps.length q2) (.slice p4 bks'.length q4) (.int .i64 c') (.int .i64 v')
    have HE2 : Hid _ := did_end2 (w := w) kc kd n1 (by omega) d4 (.slice p1 cs.length q1) (.slice p2 ps.length q2) (.slice p4 bks'.length q4) (.int .i64 c') (.int .i64 v')
    have HRS : Hid _ := did_reads st5 lc1 ld1 (.slice p1 cs.length q1) (.slice p2 ps.length q2) (.slice p4 bks'.length q4) (.int .i64 c') (.int .i64 v')
    have g0 : W5.drew.cell? ⟨w2.heap.size, 0, none⟩ = some (.slice p1 cs.length q1) := at_cell st5.box 0
    have g1 : W5.drew.cell? ⟨w2.heap.size, 1, none⟩ = some (.slice p2 ps.length q2) := at_cell st5.box 1
    have g2 : W5.drew.cell? ⟨w2.heap.size, 2, none⟩ = some (.slice p4 bks'.length q4) := at_cell st5.box 2
    have g3 : W5.drew.cell? ⟨w4.heap.size, 0, none⟩ = some (.int .i64 c') := at_cell k7 0
    have g4 : W5.drew.cell? ⟨w4.heap.size, 1, none⟩ = some (.int .i64 v') := at_cell k7 1
    have t0 : W5.drew.cell? ⟨w.heap.size + 1 + 1, 0, none⟩ = some (.slice none 0 0) := at_cell kc 0
    have t1 : W5.drew.cell? ⟨w.heap.size + 1 + 1, 1, none⟩ = some (.slice none 0 0) := at_cell kc 1
    have t2 : W5.drew.cell? ⟨w.heap.size + 1 + 1, 2, none⟩ = some (.slice none 0 0) := at_cell kc 2
    have t3 : W5.drew.cell? ⟨w.heap.size + 1 + 1 + 1, 0, none⟩ = some (.int .i64 0) := at_cell kd 0
    have t4 : W5.drew.cell? ⟨w.heap.size + 1 + 1 + 1, 1, none⟩ = some (.int .i64 0) := at_cell kd 1
    have y0 : W5.drew.frozen? ⟨w.heap.size + 1 + 1, 0, none⟩ = false := at_open kc 0
    have y1 : W5.drew.frozen? ⟨w.heap.size + 1 + 1, 1, none⟩ = false := at_open kc 1
    have y2 : W5.drew.frozen? ⟨w.heap.size + 1 + 1, 2, none⟩ = false := at_open kc 2
    have y3 : W5.drew.frozen? ⟨w.heap.size + 1 + 1 + 1, 0, none⟩ = false := at_open kd 0
    have y4 : W5.drew.frozen? ⟨w.heap.size + 1 + 1 + 1, 1, none⟩ = false := at_open kd 1
    have g0n := at_cell st5.box 0
    have g1n := at_cell st5.box 1
    have g2n := at_cell st5.box 2
    have g3n := at_cell k7 0
    have g4n := at_cell k7 1
    have t0n := at_cell kc 0
    have t1n := at_cell kc 1
    have t2n := at_cell kc 2
    have t3n := at_cell kd 0
    have t4n := at_cell kd 1
    have y0n := at_open kc 0
    have y1n := at_open kc 1
    have y2n := at_open kc 2
    have y3n := at_open kd 0
    have y4n := at_open kd 1
    clear st st4 st5 kc kd k7 d4 d0 d3 d5 b2 b4 b23 hms hdo inv hb4s
    go_wp2_with fail
    rw [← HW5.out]
    clear HW5
    go_region
    all_goals go_wp2_with fail
    all_goals first
      | exact bodyPost_ret (v := .tuple #[.agg #[.slice p1 cs.length q1, .slice p2 ps.length q2, .slice p4 bks'.length q4], .agg #[.int .i64 c', .int .i64 v']]) (by simp [results, Tryz.results17, go_sem, at_cell HE1.out.1, at_cell HE1.out.2.1]) rfl ⟨_, _, _, by rw [HB.out, HV.out], by rw [HB.out, HV.out]; exact HRS.out.1.mono (by omega), HE1.out.2.2.drew⟩
      | exact bodyPost_ret (v := .tuple #[.agg #[.slice p1 cs.length q1, .slice p2 ps.length q2, .slice p4 bks'.length q4], .agg #[.int .i64 c', .int .i64 v']]) (by simp [results, Tryz.results17, go_sem, at_cell HE2.out.1, at_cell HE2.out.2.1]) rfl ⟨_, _, _, by rw [HB.out, HV.out], by rw [HB.out, HV.out]; exact HRS.out.2.mono (by omega), HE2.out.2.2.drew⟩

theorem specDid_any (v1 v2 vb : Value) (cs ps : List Int) (bks : List Bk) (k : Int) (nm ot : ByteArray) (at_ va ep : Int) (w : World) (hnb : ∀ b ∈ bks, b.nm.size ≤ maxLen) (hn : nm.size ≤ maxLen) (ho : ot.size ≤ maxLen) (r1 : Reads w.heap.size w v1 (cs.map (Value.int .i64))) (r2 : Reads w.heap.size w v2 (ps.map (Value.int .i64))) (rb : ReadsB w.heap.size w vb bks) :
    Calls Tryz.prog 17 #[.agg #[v1, v2, vb], .agg #[.int .i64 k, .string nm, .string ot, .int .i64 at_, .int .i64 va, .int .i64 ep]] w fun e w' => ∃ u1 u2 ub : Value, e = .returned (.tuple #[.agg #[u1, u2, ub], .agg #[.int .i64 (didOp ⟨cs, ps, bks.map Bk.pb⟩ ⟨k, nm, ot, at_, va, ep⟩).2.1, .int .i64 (didOp ⟨cs, ps, bks.map Bk.pb⟩ ⟨k, nm, ot, at_, va, ep⟩).2.2]]) ∧ ReadsS w' u1 u2 ub (didOp ⟨cs, ps, bks.map Bk.pb⟩ ⟨k, nm, ot, at_, va, ep⟩).1 ∧ Below w.heap.size w w' :=
  (specDidO_any v1 v2 vb cs ps bks k nm ot at_ va ep w hnb hn ho r1 r2 rb).mono fun e w' ⟨u1, u2, ub, h1, h2, h3⟩ => ⟨u1, u2, ub, h1, h2.reads, h3⟩
end Go.Proofs.YtaekdfknkgmfbaaGreatDoor

namespace Go.Proofs.YtaekdfknkgmfbaaGreatDoor
open Go.RowKit

set_option linter.unusedVariables false

set_option maxRecDepth 100000


set_option maxHeartbeats 1600000 in
theorem specReads_any (v1 v2 vb : Value) (cs ps : List Int) (bks : List Bk) (nm : ByteArray) (at_ : Int) (w : World) (hnb : ∀ b ∈ bks, b.nm.size ≤ maxLen) (hn : nm.size ≤ maxLen) (r1 : Reads w.heap.size w v1 (cs.map (Value.int .i64))) (r2 : Reads w.heap.size w v2 (ps.map (Value.int .i64))) (rb : ReadsB w.heap.size w vb bks) :
    Calls Tryz.prog 30 #[.agg #[v1, v2, vb], .string nm, .int .i64 at_] w fun e w' => e = .returned (.int .i64 (readsOf ⟨cs, ps, bks.map Bk.pb⟩ nm at_)) ∧ Below w.heap.size w w' := by
  obtain ⟨o1, cp1, f1, -, -, -⟩ := id r1
  obtain ⟨o2, cp2, f2, -, -, -⟩ := id r2
  obtain ⟨ob, cpb, f3, -, -, -⟩ := id rb.row
  simp only [List.length_map] at f1 f2
  subst f1 f2 f3
  obtain ⟨W0, hW0, k0, d0, z0⟩ := box1 w #[.slice o1 cs.length cp1, .slice o2 ps.length cp2, .slice ob bks.length cpb] 29
  have s1 := (r1.below d0).mono d0.size
  have s2 := (r2.below d0).mono d0.size
  have sb := (rb.below d0).mono d0.size
  have HW0 : Hid (W0 = _) := hW0
  clear hW0 z0 r1 r2 rb k0
  go_enter Tryz.func30, Tryz.ntmps30
  go_wp2_with fail
  rw [← HW0.out]
  clear HW0
  refine (specDid_any _ _ _ cs ps bks 9 nm ⟨#[]⟩ at_ 0 0 _ hnb hn (Nat.zero_le _) s1 s2 sb).mono ?_
  rintro e w1 ⟨u1, u2, ub, rfl, rs, b1⟩
  replace d0 := bw_call d0 b1
  obtain ⟨bks', rb', -⟩ := rs.b
  obtain ⟨p1, q1, g1, -, -, -⟩ := rs.c
  obtain ⟨p2, q2, g2, -, -, -⟩ := rs.p
  obtain ⟨p3, q3, g3, -, -, -⟩ := rb'.row
  subst g1 g2 g3
  have HN : Hid _ := @readsOf_no ⟨cs, ps, bks.map Bk.pb⟩ nm at_
  have HY : Hid _ := @readsOf_yes ⟨cs, ps, bks.map Bk.pb⟩ nm at_
  generalize didOp ⟨cs, ps, bks.map Bk.pb⟩ ⟨9, nm, ⟨#[]⟩, at_, 0, 0⟩ = D at *
  obtain ⟨s', c, v⟩ := D
  simp only at HN HY ⊢
  clear s1 s2 sb b1 rs rb'
  by_cases hc : c = 0
  · have HV : Hid _ := HY.out hc
    subst hc
    go_wp2_with fail
    go_ret
    exact ⟨ret_int HV.out.symm, bw_alloc (bw_alloc d0)⟩
  · have HV : Hid _ := HN.out hc
    have hcb : (c != 0) = true := by rw [bne_iff_ne]; exact hc
    go_wp2_with fail
    go_ret
    exact ⟨ret_int HV.out.symm, bw_alloc (bw_alloc d0)⟩
end Go.Proofs.YtaekdfknkgmfbaaGreatDoor

namespace Go.Proofs.YtaekdfknkgmfbaaGreatDoor
/-- What TakenPage tells: nothing where it is no pool; as it was where none is free or the value is none; else the first that is free. -/
theorem taken_none (cs ps : List Int) (v : Int) (h : poolOk cs ps = true) (hf : ¬ (firstFree cs < cs.length ∧ 0 ≤ v ∧ v ≤ 999)) : takenPage cs ps v = ((cs, ps), -1) := by rw [takenPage, if_pos h, if_neg hf]

theorem taken_some (cs ps : List Int) (v : Int) (h : poolOk cs ps = true) (hf : firstFree cs < cs.length ∧ 0 ≤ v ∧ v ≤ 999) : takenPage cs ps v = ((cs.set (firstFree cs) 1, ps.set (firstFree cs) v), (firstFree cs : Int)) := by rw [takenPage, if_pos h, if_pos hf]
end Go.Proofs.YtaekdfknkgmfbaaGreatDoor

namespace Go.Proofs.YtaekdfknkgmfbaaGreatDoor
open Go.RowKit

set_option linter.unusedVariables false

set_option maxRecDepth 100000


def droppedAllL (s : List Int × List Int) (l : List Int) : List Int × List Int := l.foldl (fun s p => (dropped s.1 s.2 p).1) s

def sharedAllL (s : List Int × List Int) (l : List Int) : List Int × List Int := l.foldl (fun s p => (shared s.1 s.2 p).1) s

/-- What a write comes to: the pool's lists and the book's runs, or no page to spare. -/
def writtenS (cs ps : List Int) (rs : List (Int × Int × Int)) (at_ v : Int) : Option ((List Int × List Int) × List (Int × Int × Int)) :=
  if countAt cs (pageOf rs at_) = 1 then some ((cs.set (pageOf rs at_).toNat 1, ps.set (pageOf rs at_).toNat v), rs)
  else if (takenPage cs ps v).2 < 0 then none
  else some ((dropped (takenPage cs ps v).1.1 (takenPage cs ps v).1.2 (pageOf rs at_)).1, (mapped rs at_ (takenPage cs ps v).2).1)

theorem poolOk_of {n : Nat} {cs ps : List Int} (h : Cells n cs ps) (hn : 1 ≤ n ∧ n ≤ 24) (hb : ∀ k, k < n → 0 ≤ cs.getD k 0 ∧ cs.getD k 0 ≤ 400) : poolOk cs ps = true := by
  have hc := h.c
  have hp := h.p
  refine (poolOk_iff cs ps).2 ⟨by omega, by omega, by omega, fun j hj => (cellOk_iff _ _).2 ?_⟩
  have h1 := hb j (by omega)
  have h2 := h.val j (by omega)
  exact ⟨h1.1, h1.2, h2.1, h2.2.1, h2.2.2⟩

theorem dropped_one {n : Nat} {cs ps : List Int} (h : Cells n cs ps) (hn : 1 ≤ n ∧ n ≤ 24) (hb : ∀ k, k < n → 0 ≤ cs.getD k 0 ∧ cs.getD k 0 ≤ 400) (k : Nat) (hk : k < n) (h1 : 1 ≤ cs.getD k 0) : dropped cs ps (k : Int) = (dropOne (cs, ps) (k : Int), true) := by
  have hc := h.c
  have e : dropOne (cs, ps) (k : Int) = (cs.set k (cs.getD k 0 - 1), if cs.getD k 0 = 1 then ps.set k 0 else ps) := by
    rw [dropOne, if_pos (by omega : (0 : Int) ≤ (k : Int)), Int.toNat_natCast]
  rw [e, dropped, if_pos (poolOk_of h hn hb), countAt_of cs k (by omega), if_pos h1, Int.toNat_natCast]

theorem dropped_neg {n : Nat} {cs ps : List Int} (h : Cells n cs ps) (hn : 1 ≤ n ∧ n ≤ 24) (hb : ∀ k, k < n → 0 ≤ cs.getD k 0 ∧ cs.getD k 0 ≤ 400) (p : Int) (hp : p < 0) : dropped cs ps p = (dropOne (cs, ps) p, false) := by
  have hc : countAt cs p = 0 := by rw [countAt, if_neg (by omega)]
  rw [dropped, if_pos (poolOk_of h hn hb), hc, if_neg (by omega), dropOne, if_neg (by omega)]

theorem shared_one {n : Nat} {cs ps : List Int} (h : Cells n cs ps) (hn : 1 ≤ n ∧ n ≤ 24) (hb : ∀ k, k < n → 0 ≤ cs.getD k 0 ∧ cs.getD k 0 ≤ 400) (k : Nat) (hk : k < n) (h1 : 1 ≤ cs.getD k 0 ∧ cs.getD k 0 < 400) : shared cs ps (k : Int) = ((cs.set k (cs.getD k 0 + 1), ps), true) := by
  have hc := h.c
  rw [shared, if_pos (poolOk_of h hn hb), countAt_of cs k (by omega), if_pos h1, Int.toNat_natCast]

theorem droppedAll_link {n : Nat} (hn : 1 ≤ n ∧ n ≤ 24) (l : List Int) : ∀ {cs ps : List Int}, Cells n cs ps → (∀ k, k < n → 0 ≤ cs.getD k 0 ∧ cs.getD k 0 ≤ 400) → (∀ p ∈ l, 0 ≤ p ∧ p < n) → (∀ k, k < n → (l.count (k : Int) : Int) ≤ cs.getD k 0) → droppedAllL (cs, ps) l = dropAll (cs, ps) l := by
  induction l with
  | nil => intro cs ps _ _ _ _; rfl
  | cons p t ih =>
    intro cs ps h hb hp hc
    obtain ⟨h0, hm⟩ := hp p (List.mem_cons_self ..)
    obtain ⟨m, rfl⟩ := Int.eq_ofNat_of_zero_le h0
    have hm' : m < n := by omega
    have h1 : 1 ≤ cs.getD m 0 := by
      have := hc m hm'
      rw [List.count_cons_self] at this
      omega
    obtain ⟨c1, g1⟩ := dropOne_ok h m hm' h1
    show droppedAllL (dropped cs ps (m : Int)).1 t = dropAll (dropOne (cs, ps) (m : Int)) t
    rw [dropped_one h hn hb m hm' h1]
    show droppedAllL ((dropOne (cs, ps) (m : Int)).1, (dropOne (cs, ps) (m : Int)).2) t = dropAll ((dropOne (cs, ps) (m : Int)).1, (dropOne (cs, ps) (m : Int)).2) t
    refine ih c1 (fun k hk => ?_) (fun q hq => hp q (List.mem_cons_of_mem _ hq)) (fun k hk => ?_)
    · have := hb k hk
      rw [g1]
      split
      · rename_i e; subst e; omega
      · exact this
    · have := hc k hk
      rw [List.count_cons] at this
      rw [g1]
      by_cases ek : m = k
      · subst ek; rw [if_pos rfl]; rw [beq_self_eq_true, if_pos rfl] at this; omega
      · rw [if_neg ek]
        have hne : ((m : Int) == (k : Int)) = false := by rw [beq_eq_false_iff_ne]; omega
        rw [hne, if_neg (by decide)] at this
        omega

theorem dropAll_filter (l : List Int) : ∀ s : List Int × List Int, dropAll s (l.filter (fun p => decide (0 ≤ p))) = dropAll s l := by
  induction l with
  | nil => intro s; rfl
  | cons p t ih =>
    intro s
    by_cases h0 : 0 ≤ p
    · rw [List.filter_cons_of_pos (by simpa using h0)]
      exact ih (dropOne s p)
    · rw [List.filter_cons_of_neg (by simpa using h0)]
      have e : dropAll s (p :: t) = dropAll (dropOne s p) t := rfl
      rw [e, ih, dropOne, if_neg h0]

theorem sharedAll_link {n : Nat} (hn : 1 ≤ n ∧ n ≤ 24) (l : List Int) : ∀ {cs ps : List Int}, Cells n cs ps → (∀ k, k < n → 0 ≤ cs.getD k 0 ∧ cs.getD k 0 + (l.count (k : Int) : Int) ≤ 400) → (∀ p ∈ l, 0 ≤ p ∧ p < n) → (∀ p ∈ l, 1 ≤ cs.getD p.toNat 0) → sharedAllL (cs, ps) l = (shareAll cs l, ps) := by
  induction l with
  | nil => intro cs ps _ _ _ _; rfl
  | cons p t ih =>
    intro cs ps h hb hp hc
    obtain ⟨h0, hm⟩ := hp p (List.mem_cons_self ..)
    obtain ⟨m, rfl⟩ := Int.eq_ofNat_of_zero_le h0
    have hm' : m < n := by omega
    have h1 := hc (m : Int) (List.mem_cons_self ..)
    rw [Int.toNat_natCast] at h1
    have hcl := h.c
    have h2 := hb m hm'
    rw [List.count_cons_self] at h2
    have g1 : ∀ j, (cs.set m (cs.getD m 0 + 1)).getD j 0 = if m = j then cs.getD j 0 + 1 else cs.getD j 0 := fun j => by
      rw [getD_set cs m j _ (by omega)]
      split
      · rename_i e; rw [e]
      · rfl
    have hb' : ∀ k, k < n → 0 ≤ cs.getD k 0 ∧ cs.getD k 0 ≤ 400 := fun k hk => by have := hb k hk; omega
    show sharedAllL (shared cs ps (m : Int)).1 t = (shareAll (cs.set (m : Int).toNat (cs.getD (m : Int).toNat 0 + 1)) t, ps)
    rw [shared_one h hn hb' m hm' (by omega), Int.toNat_natCast]
    have c1 : Cells n (cs.set m (cs.getD m 0 + 1)) ps := ⟨by simpa using hcl, h.p, fun k hk => by
      have hv := h.val k hk
      refine ⟨hv.1, hv.2.1, fun q => hv.2.2 ?_⟩
      rw [g1] at q
      by_cases e : m = k
      · subst e; rw [if_pos rfl] at q; omega
      · rwa [if_neg e] at q⟩
    refine ih c1 (fun k hk => ?_) (fun q hq => hp q (List.mem_cons_of_mem _ hq)) (fun q hq => ?_)
    · have := hb k hk
      rw [List.count_cons] at this
      rw [g1]
      by_cases e : m = k
      · subst e; rw [if_pos rfl]; rw [beq_self_eq_true, if_pos rfl] at this; omega
      · rw [if_neg e]
        have hne : ((m : Int) == (k : Int)) = false := by rw [beq_eq_false_iff_ne]; omega
        rw [hne, if_neg (by decide)] at this
        omega
    · have := hc q (List.mem_cons_of_mem _ hq)
      rw [g1]
      split <;> omega

/-! ### A right shelf's pool -/
theorem ShInv.bound {s : Sf} (h : ShInv s) : ∀ k, k < s.cs.length → 0 ≤ s.cs.getD k 0 ∧ s.cs.getD k 0 ≤ 96 := fun k hk => by
  rw [h.cnt k hk]
  have h5 := cntAll_le s.bs (k : Int)
  have h6 := cntAll_nonneg s.bs (k : Int)
  have h7 := h.few
  omega

theorem ShInv.bound4 {s : Sf} (h : ShInv s) : ∀ k, k < s.cs.length → 0 ≤ s.cs.getD k 0 ∧ s.cs.getD k 0 ≤ 400 := fun k hk => by
  have := h.bound k hk
  omega

theorem ShInv.poolOk {s : Sf} (h : ShInv s) : poolOk s.cs s.ps = true := poolOk_of h.cells h.n1 h.bound4

theorem ShInv.mapOk {s : Sf} (h : ShInv s) (i : Nat) (hi : i < s.bs.length) : mapOk s.bs[i].rs = true := (book_parts (h.oks _ (List.getElem_mem hi))).2.2.2.1

/-- The pages of a book in the order of its places, from a place on. -/
theorem ShInv.part {s : Sf} (h : ShInv s) (i : Nat) (hi : i < s.bs.length) (n : Nat) : droppedAllL (s.cs, s.ps) (((pages s.bs[i].rs).drop n).filter (fun p => decide (0 ≤ p))) = dropAll (s.cs, s.ps) ((pages s.bs[i].rs).drop n) := by
  have hcn := h.cells.c
  rw [droppedAll_link h.n1 _ h.cells h.bound4 (fun p hp => ?_) (fun k hk => ?_), dropAll_filter]
  · obtain ⟨h1, h2⟩ := List.mem_filter.1 hp
    have h3 : 0 ≤ p := by simpa using h2
    exact ⟨h3, (h.page i hi p (List.mem_of_mem_drop h1) h3).1⟩
  · have h1 := cnt_le_cs h i hi k hk
    unfold Pb.cnt at h1
    have h2 := (List.drop_sublist n (pages s.bs[i].rs)).count_le (k : Int)
    have h3 := ((List.filter_sublist (l := (pages s.bs[i].rs).drop n) (p := fun p => decide (0 ≤ p))).count_le (k : Int))
    omega

theorem ShInv.whole {s : Sf} (h : ShInv s) (i : Nat) (hi : i < s.bs.length) : droppedAllL (s.cs, s.ps) (pagesOf s.bs[i].rs) = dropAll (s.cs, s.ps) ((pages s.bs[i].rs).drop 0) := by
  rw [← h.part i hi 0, List.drop_zero, pagesOf, if_pos (h.mapOk i hi)]

theorem pagesOf_cut (rs : List (Int × Int × Int)) (hm : mapOk rs = true) (n : Nat) (hn : n ≤ 16) : (pagesOf rs).drop (pagesOf (belowM rs (n : Int))).length = ((pages rs).drop n).filter (fun p => decide (0 ≤ p)) := by
  obtain ⟨h1, h2, -⟩ := cut_pages rs hm n hn
  have e1 : pagesOf (belowM rs (n : Int)) = ((pages rs).take n).filter (fun p => decide (0 ≤ p)) := by
    rw [belowM, if_pos hm, pagesOf, if_pos h1, h2, cutAt_split _ (pages_length rs) n hn, List.filter_append]
    have : (List.replicate (16 - n) (-1 : Int)).filter (fun p => decide (0 ≤ p)) = [] := by
      rw [List.filter_eq_nil_iff]
      intro a ha
      simp only [List.mem_replicate] at ha
      rw [ha.2]
      decide
    rw [this, List.append_nil]
  have e2 : pagesOf rs = ((pages rs).take n).filter (fun p => decide (0 ≤ p)) ++ ((pages rs).drop n).filter (fun p => decide (0 ≤ p)) := by
    rw [pagesOf, if_pos hm, ← List.filter_append, List.take_append_drop]
  rw [e1, e2, List.drop_left]

theorem pageOf_page {rs : List (Int × Int × Int)} (hm : mapOk rs = true) (at_ : Int) (h : 0 ≤ at_ ∧ at_ < 16) : pageOf rs at_ = (pages rs).getD at_.toNat 0 := by
  rw [pageOf, if_pos ⟨hm, by omega, by omega⟩]

theorem mapped_set {rs : List (Int × Int × Int)} (hm : mapOk rs = true) (at_ page : Int) (h : 0 ≤ at_ ∧ at_ < 16) (hp : -1 ≤ page ∧ page ≤ 23) : (mapped rs at_ page).1 = mapOf ((pages rs).set at_.toNat page) := by
  rw [mapped, if_pos hm, if_pos ⟨⟨by omega, by omega⟩, hp⟩]

/-! ### Kind by kind -/
structure OpIn (s : Sf) (o : Oq) (i : Nat) : Prop where
  inv : ShInv s
  ok : opOk o = true
  ref : refused s.bs o = 0
  lt : i < s.bs.length
  at_ : findP s.bs o.nm = i

theorem OpIn.book {s : Sf} {o : Oq} {i : Nat} (h : OpIn s o i) : bookAt s.bs (findP s.bs o.nm) = s.bs[i]'h.lt := by rw [h.at_, bookAt_of s.bs i h.lt]

theorem OpIn.go {s : Sf} {o : Oq} {i : Nat} (h : OpIn s o i) (h1 : o.k ≠ 1) (h6 : o.k ≠ 6) (h4 : kOther o.k = false) : doOp s o = doKind s o i (s.bs[i]'h.lt) (if o.at_ < 16 then (pages (s.bs[i]'h.lt).rs).getD o.at_.toNat 0 else -1) := by
  rw [doOp, if_neg (by rw [h.ok]; decide), if_neg (by rw [h.ref]; simp), if_neg h1, if_neg h6, if_neg (by rw [h4]; decide), h.book, h.at_, Int.toNat_natCast]

theorem OpIn.place {s : Sf} {o : Oq} {i : Nat} (h : OpIn s o i) (h1 : o.k ≠ 1) (ha : kAt o.k = true) : (0 ≤ o.at_ ∧ o.at_ < 16) ∧ o.at_ < (s.bs[i]'h.lt).sz := by
  have h2 := (refused_parts h.ref).2.2.2.1 h1 ha
  rw [h.book] at h2
  have h3 := (book_parts (h.inv.oks _ (List.getElem_mem h.lt))).2.1
  have h4 := (op_parts h.ok).2.2.2.1
  omega

theorem do_make {s : Sf} {o : Oq} (ho : opOk o = true) (hr : refused s.bs o = 0) (hk : o.k = 1) : doOp s o = (⟨s.cs, s.ps, insertP s.bs ⟨o.nm, o.va, [], false, 0⟩⟩, (0, 0)) := by
  rw [doOp, if_neg (by rw [ho]; decide), if_neg (by rw [hr]; simp), if_pos hk]

theorem do_read {s : Sf} {o : Oq} {i : Nat} (h : OpIn s o i) (hk : o.k = 9) : doOp s o = (s, (0, if pageOf (s.bs[i]'h.lt).rs o.at_ < 0 then 0 else s.ps.getD (pageOf (s.bs[i]'h.lt).rs o.at_).toNat 0)) := by
  have hp := h.place (by omega) (by rw [hk]; decide)
  rw [h.go (by omega) (by omega) (by rw [hk]; decide), doKind, if_pos hk, if_pos hp.1.2, pageOf_page (h.inv.mapOk i h.lt) _ hp.1]

theorem do_attach {s : Sf} {o : Oq} {i : Nat} (h : OpIn s o i) (hk : o.k = 8) : doOp s o = (⟨s.cs, s.ps, s.bs.set i { s.bs[i]'h.lt with ep := (s.bs[i]'h.lt).ep + 1 }⟩, (0, (s.bs[i]'h.lt).ep + 1)) := by
  rw [h.go (by omega) (by omega) (by rw [hk]; decide), doKind, if_neg (by omega), if_pos hk]

theorem do_trim {s : Sf} {o : Oq} {i : Nat} (h : OpIn s o i) (hk : o.k = 3) : doOp s o = (⟨(dropped s.cs s.ps (pageOf (s.bs[i]'h.lt).rs o.at_)).1.1, (dropped s.cs s.ps (pageOf (s.bs[i]'h.lt).rs o.at_)).1.2, s.bs.set i { s.bs[i]'h.lt with rs := (mapped (s.bs[i]'h.lt).rs o.at_ (-1)).1 }⟩, (0, 0)) := by
  have hp := h.place (by omega) (by rw [hk]; decide)
  have hm := h.inv.mapOk i h.lt
  have hi := h.lt
  rw [h.go (by omega) (by omega) (by rw [hk]; decide), doKind, if_neg (by omega), if_neg (by omega), if_neg (by omega), if_pos hk, if_pos hp.1.2, pageOf_page hm _ hp.1, mapped_set hm _ _ hp.1 (by omega)]
  by_cases h0 : 0 ≤ (pages s.bs[i].rs).getD o.at_.toNat 0
  · rw [if_pos h0]
    have hmem : (pages s.bs[i].rs).getD o.at_.toNat 0 ∈ pages s.bs[i].rs := (mem_getD _ (pages_length _) _).2 ⟨_, by omega, rfl⟩
    obtain ⟨h1, h2⟩ := h.inv.page i hi _ hmem h0
    generalize (pages s.bs[i].rs).getD o.at_.toNat 0 = p at *
    obtain ⟨m, rfl⟩ := Int.eq_ofNat_of_zero_le h0
    rw [dropped_one h.inv.cells h.inv.n1 h.inv.bound4 m (by omega) (by simpa using h2)]
  · rw [if_neg h0, dropped_neg h.inv.cells h.inv.n1 h.inv.bound4 _ (by omega), dropOne, if_neg h0]
    have h2 : (pages s.bs[i].rs).set o.at_.toNat (-1) = pages s.bs[i].rs := by
      have h3 := pages_range _ hm o.at_.toNat (by omega)
      have h4 : (pages s.bs[i].rs).getD o.at_.toNat 0 = -1 := by omega
      rw [← h4, set_same]
    rw [h2, mapOf_pages _ hm]
    have h5 : s.bs.set i { s.bs[i] with rs := s.bs[i].rs } = s.bs := List.set_getElem_self hi
    rw [h5]

theorem do_copy {s : Sf} {o : Oq} {i : Nat} (h : OpIn s o i) (hk : o.k = 4 ∨ o.k = 5) : doOp s o = (⟨(sharedAllL (s.cs, s.ps) (pagesOf (s.bs[i]'h.lt).rs)).1, (sharedAllL (s.cs, s.ps) (pagesOf (s.bs[i]'h.lt).rs)).2, insertP s.bs ⟨o.ot, (s.bs[i]'h.lt).sz, (s.bs[i]'h.lt).rs, o.k == 4, 0⟩⟩, (0, 0)) := by
  have hi := h.lt
  have hm := h.inv.mapOk i hi
  have hcn := h.inv.cells.c
  have hsub : ∀ p ∈ pagesOf s.bs[i].rs, 0 ≤ p ∧ p ∈ pages s.bs[i].rs := fun p hp => by
    rw [pagesOf, if_pos hm] at hp
    obtain ⟨a, b⟩ := List.mem_filter.1 hp
    exact ⟨by simpa using b, a⟩
  have e : sharedAllL (s.cs, s.ps) (pagesOf s.bs[i].rs) = (shareAll s.cs (pagesOf s.bs[i].rs), s.ps) := by
    refine sharedAll_link h.inv.n1 _ h.inv.cells (fun k hk => ?_) (fun p hp => ?_) (fun p hp => ?_)
    · have h1 := h.inv.bound k hk
      have h2 : (pagesOf s.bs[i].rs).count (k : Int) ≤ 16 := by
        have h3 := List.count_le_length (a := (k : Int)) (l := pagesOf s.bs[i].rs)
        have h4 : (pagesOf s.bs[i].rs).length ≤ 16 := by
          rw [pagesOf, if_pos hm]
          have h5 := List.length_filter_le (fun p => decide (0 ≤ p)) (pages s.bs[i].rs)
          rw [pages_length] at h5
          exact h5
        omega
      omega
    · obtain ⟨a, b⟩ := hsub p hp
      exact ⟨a, (h.inv.page i hi p b a).1⟩
    · obtain ⟨a, b⟩ := hsub p hp
      exact (h.inv.page i hi p b a).2
  have hko : kOther o.k = true := by rcases hk with q | q <;> rw [q] <;> decide
  rw [doOp, if_neg (by rw [h.ok]; decide), if_neg (by rw [h.ref]; simp), if_neg (by omega), if_neg (by omega), if_pos hko, h.book, e]
  have e4 : decide (o.k = 4) = (o.k == 4) := rfl
  rw [e4]

theorem do_delete {s : Sf} {o : Oq} {i : Nat} (h : OpIn s o i) (hk : o.k = 6) : doOp s o = (⟨(droppedAllL (s.cs, s.ps) (pagesOf (s.bs[i]'h.lt).rs)).1, (droppedAllL (s.cs, s.ps) (pagesOf (s.bs[i]'h.lt).rs)).2, s.bs.take i ++ s.bs.drop (i + 1)⟩, (0, 0)) := by
  have hi := h.lt
  rw [doOp, if_neg (by rw [h.ok]; decide), if_neg (by rw [h.ref]; simp), if_neg (by omega), if_pos hk, h.inv.whole i hi, h.at_, Int.toNat_natCast, cutBook, bookAt_of s.bs i hi]

theorem do_resize {s : Sf} {o : Oq} {i : Nat} (h : OpIn s o i) (hk : o.k = 7) : doOp s o = (⟨(droppedAllL (s.cs, s.ps) ((pagesOf (s.bs[i]'h.lt).rs).drop (pagesOf (belowM (s.bs[i]'h.lt).rs o.va)).length)).1, (droppedAllL (s.cs, s.ps) ((pagesOf (s.bs[i]'h.lt).rs).drop (pagesOf (belowM (s.bs[i]'h.lt).rs o.va)).length)).2, s.bs.set i { s.bs[i]'h.lt with sz := o.va, rs := belowM (s.bs[i]'h.lt).rs o.va }⟩, (0, 0)) := by
  have hi := h.lt
  have hm := h.inv.mapOk i hi
  have hv := (op_parts h.ok).2.2.2.2.1 (by rw [hk]; decide)
  obtain ⟨n, hn⟩ := Int.eq_ofNat_of_zero_le (show 0 ≤ o.va by omega)
  rw [h.go (by omega) (by omega) (by rw [hk]; decide), doKind, if_neg (by omega), if_neg (by omega), if_pos hk, hn, pagesOf_cut _ hm n (by omega), h.inv.part i hi n, Int.toNat_natCast, cutBook, bookAt_of s.bs i hi]
  simp only
  rw [bookAt_of _ i (by simpa using hi), List.getElem_set_self, List.set_set, belowM, if_pos hm]

theorem do_writes {s : Sf} {o : Oq} {i : Nat} (h : OpIn s o i) (hk : o.k = 2) : doOp s o = match writtenS s.cs s.ps (s.bs[i]'h.lt).rs o.at_ o.va with
    | none => (s, (9, 0))
    | some X => (⟨X.1.1, X.1.2, s.bs.set i { s.bs[i]'h.lt with rs := X.2 }⟩, (0, 0)) := by
  have hp := h.place (by omega) (by rw [hk]; decide)
  have hi := h.lt
  have hm := h.inv.mapOk i hi
  have hcn := h.inv.cells.c
  have hpn := h.inv.cells.p
  have hn1 := h.inv.n1
  have hv := (op_parts h.ok).2.2.2.2.2 hk
  have hmem : (pages s.bs[i].rs).getD o.at_.toNat 0 ∈ pages s.bs[i].rs := (mem_getD _ (pages_length _) _).2 ⟨_, by omega, rfl⟩
  have hpg := h.inv.page i hi _ hmem
  rw [h.go (by omega) (by omega) (by rw [hk]; decide), doKind, if_neg (by omega), if_neg (by omega), if_neg (by omega), if_neg (by omega), if_pos hp.1.2, writtenS, pageOf_page hm _ hp.1, doWrite]
  have hr := pages_range _ hm o.at_.toNat (by omega)
  obtain ⟨p, hpp⟩ : ∃ p, (pages s.bs[i].rs).getD o.at_.toNat 0 = p := ⟨_, rfl⟩
  rw [hpp] at hpg hr ⊢
  have hca : 0 ≤ p → countAt s.cs p = s.cs.getD p.toNat 0 := fun h0 => by rw [countAt, if_pos ⟨h0, (hpg h0).1⟩]
  by_cases h1 : 0 ≤ p ∧ s.cs.getD p.toNat 0 = 1
  · rw [if_pos h1, hca h1.1, if_pos h1.2]
    simp only
    have h2 : s.cs.set p.toNat 1 = s.cs := by rw [← h1.2, set_same]
    have h5 : s.bs.set i { s.bs[i] with rs := s.bs[i].rs } = s.bs := List.set_getElem_self hi
    rw [h2, h5]
  · have h2 : ¬ countAt s.cs p = 1 := fun q => by
      by_cases h0 : 0 ≤ p
      · rw [hca h0] at q; exact h1 ⟨h0, q⟩
      · rw [countAt, if_neg (by omega)] at q; omega
    rw [if_neg h1, if_neg h2]
    by_cases hf : firstFree s.cs < s.cs.length
    · rw [if_pos hf, taken_some _ _ _ h.inv.poolOk ⟨hf, hv⟩]
      simp only
      rw [if_neg (by omega)]
      simp only
      rw [mapped_set hm _ _ hp.1 (by omega)]
      have e1 : tookC s.cs = s.cs.set (firstFree s.cs) 1 := by rw [tookC, if_pos hf]
      have e2 : tookP s.cs s.ps o.va = s.ps.set (firstFree s.cs) o.va := by rw [tookP, if_pos hf]
      have e3 : tookAt s.cs = (firstFree s.cs : Int) := by rw [tookAt, if_pos hf]
      obtain ⟨ct, gt⟩ := Cells.took h.inv.cells o.va hv hf
      have hb' : ∀ k, k < s.cs.length → 0 ≤ (tookC s.cs).getD k 0 ∧ (tookC s.cs).getD k 0 ≤ 400 := fun k hk' => by
        have := h.inv.bound k hk'
        rw [gt k hk']
        split <;> omega
      have e4 : (dropped (s.cs.set (firstFree s.cs) 1) (s.ps.set (firstFree s.cs) o.va) p).1 = dropOne (s.cs.set (firstFree s.cs) 1, s.ps.set (firstFree s.cs) o.va) p := by
        rw [← e1, ← e2]
        by_cases h0 : 0 ≤ p
        · have h3 := hpg h0
          obtain ⟨m, rfl⟩ := Int.eq_ofNat_of_zero_le h0
          rw [dropped_one ct hn1 hb' m (by omega) (by have h4 := h3.2; rw [Int.toNat_natCast] at h4; rw [gt m (by omega)]; split <;> omega)]
        · rw [dropped_neg ct hn1 hb' _ (by omega)]
      rw [e1, e2, e3, e4]
    · rw [if_neg hf, taken_none _ _ _ h.inv.poolOk (fun q => hf q.1), if_pos (show ((s.cs, s.ps), (-1 : Int)).2 < 0 from by show (-1 : Int) < 0; decide)]
end Go.Proofs.YtaekdfknkgmfbaaGreatDoor

namespace Go.Proofs.YtaekdfknkgmfbaaGreatDoor
open Go.RowKit

set_option linter.unusedVariables false

set_option maxRecDepth 100000


/-! ### Plain -/
def cmpI (a b : ByteArray) : Int := Lib.compareBytes a.data.toList b.data.toList

theorem cmp_less : ∀ (x y : List UInt8), Lib.compareBytes x y < 0 ↔ Op.bytesLess x y = true := by
  intro x
  induction x with
  | nil =>
    intro y
    cases y with
    | nil => simp [Lib.compareBytes, Op.bytesLess]
    | cons b u => simp [Lib.compareBytes, Op.bytesLess]
  | cons a t ih =>
    intro y
    cases y with
    | nil => simp [Lib.compareBytes, Op.bytesLess]
    | cons b u =>
      simp only [Lib.compareBytes, Op.bytesLess, Bool.or_eq_true, decide_eq_true_eq, Bool.and_eq_true, beq_iff_eq]
      by_cases h1 : a < b
      · simp [h1]
      · by_cases h2 : b < a
        · have hne : a ≠ b := fun e => by subst e; exact UInt8.lt_irrefl a h2
          simp [h1, h2, hne]
        · have he : a = b := UInt8.le_antisymm (UInt8.not_lt.1 h2) (UInt8.not_lt.1 h1)
          subst he
          simp [ih u]

theorem cmpI_neg (a b : ByteArray) : cmpI a b < 0 ↔ ltB a b = true := by
  rw [cmpI, cmp_less, ltB, ByteArray.toList_eq, ByteArray.toList_eq]

/-- A book in its place among the others. -/
def insB (bks : List Bk) (b : Bk) : List Bk := bks.take (insertAt (bks.map Bk.pb) b.nm) ++ [b] ++ bks.drop (insertAt (bks.map Bk.pb) b.nm)

theorem insB_pb (bks : List Bk) (b : Bk) : (insB bks b).map Bk.pb = insertP (bks.map Bk.pb) b.pb := by
  simp only [insB, insertP, List.map_append, List.map_take, List.map_drop, List.map_cons, List.map_nil]
  rfl

def stepB (bks : List Bk) (b : Bk) (j : Nat) : List Bk := bks.take j ++ [b] ++ bks.drop j

theorem stepB_len (bks : List Bk) (b : Bk) (j : Nat) (h : j ≤ bks.length) : (stepB bks b j).length = bks.length + 1 := by
  simp [stepB]; omega

theorem stepB_at (bks : List Bk) (b : Bk) (j : Nat) (h : j ≤ bks.length) : (stepB bks b j)[j]? = some b := by
  have hl : (bks.take j).length = j := by rw [List.length_take]; omega
  rw [stepB, List.append_assoc, List.getElem?_append_right (by omega), hl, Nat.sub_self]; rfl

theorem stepB_before (bks : List Bk) (b : Bk) (j i : Nat) (h : i < j) (hj : j ≤ bks.length) : (stepB bks b j)[i]? = bks[i]? := by
  rw [stepB, List.append_assoc, List.getElem?_append_left (by rw [List.length_take]; omega), List.getElem?_take, if_pos h]

theorem stepB_swap (bks : List Bk) (b : Bk) (j : Nat) (h : j < bks.length) : ((stepB bks b (j + 1)).set (j + 1) bks[j]).set j b = stepB bks b j ∧ ((stepB bks b (j + 1)).set j b).set (j + 1) bks[j] = stepB bks b j := by
  have hl : (bks.take (j + 1)).length = j + 1 := by rw [List.length_take]; omega
  have hl0 : (bks.take j).length = j := by rw [List.length_take]; omega
  have e : bks.take (j + 1) = bks.take j ++ [bks[j]] := List.take_succ_eq_append_getElem h
  have e2 : bks.drop j = bks[j] :: bks.drop (j + 1) := List.drop_eq_getElem_cons h
  have key : ((stepB bks b (j + 1)).set (j + 1) bks[j]).set j b = stepB bks b j := by
    rw [stepB, List.append_assoc, List.set_append_right _ _ (by omega), hl, Nat.sub_self, List.singleton_append, List.set_cons_zero, e, List.append_assoc, List.set_append_right _ _ (by omega), hl0, Nat.sub_self, List.singleton_append, List.set_cons_zero, stepB, e2, List.append_assoc]
    rfl
  exact ⟨key, by rw [List.set_comm _ _ (by omega)]; exact key⟩

/-! ### Texts held against one another -/
set_option maxHeartbeats 1000000 in
theorem cmpString_any (a b : ByteArray) (w : World) :
    Calls Tryz.prog 257 #[.string a, .string b] w fun e w' => e = .returned (.int .i64 (cmpI a b)) ∧ w' = w := by
  go_enter Tryz.func257, Tryz.ntmps257
  go_wp2
  rw [run_callFunc_extern Tryz.func265 (by kernel_rfl) (by kernel_rfl) (by kernel_rfl) (e := Extern.BytealgCompare.compare) (by kernel_rfl), Lib.run_compareString]
  simp only [Result.andThen]
  rw [Oper.upon_value]
  go_wp2
  go_ret
  exact ⟨rfl, rfl⟩

theorem compare_any (a b : ByteArray) (w : World) :
    Calls Tryz.prog 234 #[.string a, .string b] w fun e w' => e = .returned (.int .i64 (cmpI a b)) ∧ w' = w := by
  go_enter Tryz.func234, Tryz.ntmps234
  go_wp2_with (go_at_call 257; refine (cmpString_any _ _ _).mono ?_; rintro e w' ⟨rfl, rfl⟩)
  go_ret
  exact ⟨rfl, rfl⟩

theorem byName_any (n1 : ByteArray) (s1 : Int) (o1 : Option Addr) (l1 c1 : Nat) (f1 : Bool) (e1 : Int) (n2 : ByteArray) (s2 : Int) (o2 : Option Addr) (l2 c2 : Nat) (f2 : Bool) (e2 : Int) (w : World) :
    Calls Tryz.prog 241 #[.agg #[.string n1, .int .i64 s1, .slice o1 l1 c1, .bool f1, .int .i64 e1], .agg #[.string n2, .int .i64 s2, .slice o2 l2 c2, .bool f2, .int .i64 e2]] w fun e w' => e = .returned (.int .i64 (cmpI n1 n2)) ∧ Below w.heap.size w w' := by
  go_enter Tryz.func241, Tryz.ntmps241
  go_wp2_with (go_at_call 234; refine (compare_any _ _ _).mono ?_; rintro e w' ⟨rfl, rfl⟩)
  go_ret
  exact ⟨rfl, bw_alloc (bw_alloc (Below.refl _ _))⟩

theorem len64_any (n : Nat) (h : n ≤ 7) (w : World) :
    Calls Tryz.prog 256 #[.int .u64 n] w fun e w' => ∃ r : Int, e = .returned (.int .i64 r) ∧ w' = w := by
  have hn : n = 0 ∨ n = 1 ∨ n = 2 ∨ n = 3 ∨ n = 4 ∨ n = 5 ∨ n = 6 ∨ n = 7 := by omega
  rcases hn with rfl | rfl | rfl | rfl | rfl | rfl | rfl | rfl
  all_goals
    go_enter Tryz.func256, Tryz.ntmps256
    go_wp2
    go_ret
    exact ⟨_, rfl, rfl⟩

theorem len_any (n : Nat) (h : n ≤ 7) (w : World) :
    Calls Tryz.prog 233 #[.int .u64 n] w fun e w' => ∃ r : Int, e = .returned (.int .i64 r) ∧ w' = w := by
  go_enter Tryz.func233, Tryz.ntmps233
  go_wp2_with fail
  refine (len64_any n h _).mono ?_
  rintro e w' ⟨r, rfl, rfl⟩
  go_wp2_with fail
  go_ret
  exact ⟨r, rfl, rfl⟩
end Go.Proofs.YtaekdfknkgmfbaaGreatDoor

namespace Go.Proofs.YtaekdfknkgmfbaaGreatDoor
open Go.RowKit

set_option linter.unusedVariables false

set_option maxRecDepth 100000


theorem hasName_in (nm : ByteArray) (sz : Int) (m : Value) (fx : Bool) (ep : Int) (n : ByteArray) (c : Nat) (w : World) (hm : ∃ o k cap, m = .slice o k cap) (hc : c < w.heap.size) (hn : w.cell? ⟨c, 0, none⟩ = some (.string n)) :
    Calls Tryz.prog 231 #[.agg #[.string nm, .int .i64 sz, m, .bool fx, .int .i64 ep], .pointer (some ⟨c, 0, none⟩)] w fun e w' => e = .returned (.bool (decide (nm = n))) ∧ Below w.heap.size w w' := by
  obtain ⟨o, k, cap, rfl⟩ := hm
  obtain ⟨W0, hW0, k0, d0, z0⟩ := box1 w #[.string nm, .int .i64 sz, .slice o k cap, .bool fx, .int .i64 ep] 48
  have HW0 : Hid (W0 = _) := hW0
  have p0 := at_cell k0 0
  have c0 := (d0.cell (p := ⟨c, 0, none⟩) hc).trans hn
  rw [hW0] at p0 c0
  have hq := text_eq nm n
  clear hW0 k0
  go_enter Tryz.func231, Tryz.ntmps231
  go_wp2_with fail
  go_ret
  exact ⟨rfl, by rw [← HW0.out]; exact d0⟩

set_option maxHeartbeats 1600000 in
theorem indexBook_any (v : Value) (bs : List Bk) (n : ByteArray) (c : Nat) (w : World) (hms : ∀ b ∈ bs, ∃ o k cap, b.m = .slice o k cap) (r : ReadsR 5 bookC w.heap.size w v bs) (hc : c < w.heap.size) (hn : w.cell? ⟨c, 0, none⟩ = some (.string n)) :
    Calls Tryz.prog 199 #[v, .func (.func 231) #[] #[.pointer (some ⟨c, 0, none⟩)]] w fun e w' => e = .returned (.int .i64 (findB bs n)) ∧ Below w.heap.size w w' := by
  obtain ⟨o, cap, rfl, hm, hcs, -⟩ := r
  have HC : Hid _ := hcs
  have HM : Hid _ := hms
  unfold maxLen at hm
  clear hcs hms
  go_enter Tryz.func199, Tryz.ntmps199
  go_wp2_with fail
  go_loopw [8] (fun i wr => ∃ k : Nat, k ≤ bs.length ∧ i = .int .i64 k ∧ findB bs n = findFrom n ((bs.map Bk.nm).drop k) k ∧ Below w.heap.size w wr) (fun i _ => bs.length - (intOf i).toNat)
  case atStart => exact ⟨0, Nat.zero_le _, rfl, rfl, Below.refl _ _⟩
  case round =>
    obtain ⟨k, hk, rfl, hf, hb⟩ := hrel
    by_cases hlt : k < bs.length
    · obtain ⟨g, off, rfl, hg, hx⟩ := HC.out k bs[k] (List.getElem?_eq_getElem hlt)
      rw [find_at bs n k hlt] at hf
      have HF : Hid _ := hf
      have a0 := (hb.cell (p := ⟨g, off + k * 5, none⟩) hg).trans (hx 0 _ rfl)
      have a1 := (hb.cell (p := ⟨g, off + k * 5 + 1, none⟩) hg).trans (hx 1 _ rfl)
      have a2 := (hb.cell (p := ⟨g, off + k * 5 + 2, none⟩) hg).trans (hx 2 _ rfl)
      have a3 := (hb.cell (p := ⟨g, off + k * 5 + 3, none⟩) hg).trans (hx 3 _ rfl)
      have a4 := (hb.cell (p := ⟨g, off + k * 5 + 4, none⟩) hg).trans (hx 4 _ rfl)
      have hsl := HM.out bs[k] (List.getElem_mem hlt)
      have cn := (hb.cell (p := ⟨c, 0, none⟩) hc).trans hn
      have hcl := Nat.lt_of_lt_of_le hc hb.size
      clear hf HC HM hx
      generalize bs[k] = x at a0 a1 a2 a3 a4 HF hsl
      obtain ⟨nm, sz, m, rs, fx, ep⟩ := x
      simp only at a0 a1 a2 a3 a4 HF hsl
      obtain ⟨o', k', cap', rfl⟩ := hsl
      go_wp2_with (go_at_call 231; refine (hasName_in nm sz _ fx ep n c _ ⟨_, _, _, rfl⟩ hcl cn).mono ?_)
      rintro e w1 ⟨rfl, b1⟩
      replace hb := bw_call hb b1
      clear a0 a1 a2 a3 a4 b1 cn hcl
      by_cases hx : nm = n
      · have HV : Hid (findB bs n = k) := by have := HF.out; rwa [if_pos hx] at this
        rw [decide_eq_true hx]
        clear HF hx
        go_wp2_with fail
        go_ret
        exact ⟨ret_int HV.out.symm, hb⟩
      · have HV : Hid (findB bs n = findFrom n ((bs.map Bk.nm).drop (k + 1)) (k + 1)) := by have := HF.out; rwa [if_neg hx] at this
        rw [decide_eq_false hx]
        clear HF hx
        go_wp2_with fail
        go_roundw
        case rel => exact ⟨k + 1, by omega, by go_num, HV.out, hb⟩
        case measure => simp [intOf]; omega
    · rw [find_end bs n k hlt] at hf
      have HF : Hid _ := hf
      clear hf HC
      go_wp2_with fail
      go_ret
      exact ⟨ret_int HF.out.symm, hb⟩

theorem hasName_any (n : ByteArray) (w : World) :
    Calls Tryz.prog 200 #[.string n] w fun e w' => e = .returned (.func (.func 231) #[] #[.pointer (some ⟨w.heap.size, 0, none⟩)]) ∧ w' = w.alloc (.cells #[.string n] 9) := by
  have hmf : ∀ (fn : Fn) (first cap : Array Value) (w : World), (Instr.makeFunc fn first cap).run Tryz.prog w = .ok (.func fn first cap) w := fun _ _ _ _ => rfl
  go_enter Tryz.func200, Tryz.ntmps200
  go_wp2_with fail
  go_ret
  exact ⟨rfl, rfl⟩

theorem implFindBook_any (v : Value) (bs : List Bk) (n : ByteArray) (w : World) (hms : ∀ b ∈ bs, ∃ o k cap, b.m = .slice o k cap) (r : ReadsR 5 bookC w.heap.size w v bs) :
    Calls Tryz.prog 153 #[v, .string n] w fun e w' => e = .returned (.int .i64 (findB bs n)) ∧ Below w.heap.size w w' := by
  obtain ⟨W0, hW0, k0, d0, z0⟩ := box1 w #[.string n] 9
  have r0 := (r.below d0).mono d0.size
  have p0 := at_cell k0 0
  have hlt := heap_lt k0
  have HM : Hid _ := hms
  clear k0 r hms
  go_enter Tryz.func153, Tryz.ntmps153
  go_wp2_with fail
  refine (hasName_any n _).mono ?_
  rintro e w1 ⟨rfl, h1⟩
  rw [← hW0] at h1
  subst h1
  clear hW0
  go_wp2_with fail
  refine (indexBook_any v bs n _ _ HM.out r0 hlt p0).mono ?_
  rintro e w2 ⟨rfl, b2⟩
  go_wp2_with fail
  go_ret
  exact ⟨rfl, bw_call d0 b2⟩
end Go.Proofs.YtaekdfknkgmfbaaGreatDoor

namespace Go.Proofs.YtaekdfknkgmfbaaGreatDoor
open Nums

set_option linter.unusedVariables false

set_option maxRecDepth 100000


/-- What of a kind lies within which limits. -/
def lmAt (k : Int) : Int := if kAt k = true then 255 else 0

def lmLo (k : Int) : Int := if kSize k = true then 1 else 0

def lmHi (k : Int) : Int := if kSize k = true then 16 else if k = 2 then 999 else 0

def lmEp (k : Int) : Int := if kEpoch k = true then 1000 else 0

def otOk (ot : ByteArray) (h : Bool) : Bool := if h = true then nameB ot.data.toList else decide (ot.size = 0)

def opBy (o : Oq) : Bool :=
  inB o.k 1 9 && nameB o.nm.data.toList && otOk o.ot (kOther o.k) && inB o.at_ 0 (lmAt o.k) && inB o.va (lmLo o.k) (lmHi o.k) && inB o.ep 0 (lmEp o.k)

theorem inB_zero (x : Int) : inB x 0 0 = decide (x = 0) := by
  rw [Bool.eq_iff_iff, inB_iff, decide_eq_true_eq]; omega

theorem inB_or (b : Bool) (x hi : Int) (h : 0 ≤ hi) : ((b || decide (x = 0)) && inB x 0 hi) = inB x 0 (if b = true then hi else 0) := by
  cases b
  · rw [Bool.eq_iff_iff]
    simp only [Bool.false_or, Bool.and_eq_true, inB_iff, decide_eq_true_eq, Bool.false_eq_true, if_false]
    omega
  · simp

theorem ot_by (ot : ByteArray) (b : Bool) : ((b == decide (ot.size ≠ 0)) && (!b || nameB ot.data.toList)) = otOk ot b := by
  cases b
  · simp [otOk]
  · unfold otOk
    rw [if_pos rfl]
    cases h : nameB ot.data.toList
    · simp
    · have := nameB_size ot h
      have e : decide (ot.size ≠ 0) = true := by simp only [decide_eq_true_eq]; omega
      rw [e]
      rfl

theorem val_by (k va : Int) : valOk k va = inB va (lmLo k) (lmHi k) := by
  unfold valOk lmLo lmHi
  split
  · rfl
  · split
    · rfl
    · exact (inB_zero va).symm

theorem opOk_by (o : Oq) : opOk o = opBy o := by
  have h1 := ot_by o.ot (kOther o.k)
  have h2 := inB_or (kAt o.k) o.at_ 255 (by omega)
  have h3 := inB_or (kEpoch o.k) o.ep 1000 (by omega)
  have h4 := val_by o.k o.va
  have e : opOk o = (nameB o.nm.data.toList && inB o.k 1 9 && ((kOther o.k == decide (o.ot.size ≠ 0)) && (!kOther o.k || nameB o.ot.data.toList)) && ((kAt o.k || decide (o.at_ = 0)) && inB o.at_ 0 255) && ((kEpoch o.k || decide (o.ep = 0)) && inB o.ep 0 1000) && valOk o.k o.va) := by
    unfold opOk
    simp only [Bool.and_assoc]
  rw [e, h1, h2, h3, h4]
  unfold opBy lmAt lmEp
  generalize nameB o.nm.data.toList = a
  generalize inB o.k 1 9 = b
  generalize otOk o.ot (kOther o.k) = c
  generalize inB o.at_ 0 _ = d
  generalize inB o.ep 0 _ = e
  generalize inB o.va _ _ = f
  cases a <;> cases b <;> cases c <;> cases d <;> cases e <;> cases f <;> rfl
end Go.Proofs.YtaekdfknkgmfbaaGreatDoor

namespace Go.Proofs.YtaekdfknkgmfbaaGreatDoor
open Go.RowKit

set_option linter.unusedVariables false

set_option maxRecDepth 100000


theorem within_any (x lo hi : Int) (w : World) :
    Calls Tryz.prog 215 #[.int .i64 x, .int .i64 lo, .int .i64 hi] w fun e w' => e = .returned (.bool (inB x lo hi)) ∧ w' = w := by
  by_cases h : lo ≤ x
  · go_enter Tryz.func215, Tryz.ntmps215
    go_wp2
    go_ret
    exact ⟨ret_bool (by simp [inB, h]), rfl⟩
  · go_enter Tryz.func215, Tryz.ntmps215
    go_wp2
    go_ret
    exact ⟨ret_bool (by simp [inB]; omega), rfl⟩

theorem otherOk_any (ot : ByteArray) (b : Bool) (w : World) (ho : ot.size ≤ maxLen) :
    Calls Tryz.prog 214 #[.string ot, .bool b] w fun e w' => e = .returned (.bool (otOk ot b)) ∧ w' = w := by
  cases b
  · have HE : Hid (_ = _) := text_nil ot
    have HV : Hid (otOk ot false = decide (ot.size = 0)) := by simp [Hid, otOk]
    go_enter Tryz.func214, Tryz.ntmps214
    go_wp2_with fail
    go_ret
    exact ⟨ret_bool (by rw [HV.out, ← HE.out]; simp), rfl⟩
  · have HV : Hid (otOk ot true = Nums.nameB ot.data.toList) := by simp [Hid, otOk]
    go_enter Tryz.func214, Tryz.ntmps214
    go_wp2_with fail
    refine (implName_any ot _ ho).mono ?_
    rintro e w' ⟨rfl, rfl⟩
    go_wp2_with fail
    go_ret
    exact ⟨ret_bool HV.out.symm, rfl⟩

/-- What limitsOf answers. -/
def limV (k : Int) : Value := .tuple #[.agg #[.bool (kOther k), .int .i64 (lmAt k), .int .i64 (lmLo k), .int .i64 (lmHi k), .int .i64 (lmEp k)], .bool (inB k 1 9)]

theorem limits_in (k : Int) (w : World) (h : k = 1 ∨ k = 2 ∨ k = 3 ∨ k = 4 ∨ k = 5 ∨ k = 6 ∨ k = 7 ∨ k = 8 ∨ k = 9) :
    Calls Tryz.prog 213 #[.int .i64 k] w fun e w' => e = .returned (limV k) ∧ Below w.heap.size w w' := by
  rcases h with rfl | rfl | rfl | rfl | rfl | rfl | rfl | rfl | rfl
  all_goals
    go_enter Tryz.func213, Tryz.ntmps213
    go_wp2_with fail
    exact bodyPost_ret (v := limV _) (by simp [results, Tryz.results213, go_sem]; rfl) rfl ⟨rfl, by go_grown⟩

theorem limits_out (k : Int) (w : World) (h : ¬ (1 ≤ k ∧ k ≤ 9)) :
    Calls Tryz.prog 213 #[.int .i64 k] w fun e w' => e = .returned (limV k) ∧ Below w.heap.size w w' := by
  have n1 : ¬ k = 1 := by omega
  have n2 : ¬ k = 2 := by omega
  have n3 : ¬ k = 3 := by omega
  have n4 : ¬ k = 4 := by omega
  have n5 : ¬ k = 5 := by omega
  have n6 : ¬ k = 6 := by omega
  have n7 : ¬ k = 7 := by omega
  have n8 : ¬ k = 8 := by omega
  have n9 : ¬ k = 9 := by omega
  have HV : Hid (limV k = .tuple #[.agg #[.bool false, .int .i64 0, .int .i64 0, .int .i64 0, .int .i64 0], .bool false]) := by
    have e : inB k 1 9 = false := by rw [Bool.eq_false_iff, ne_eq, inB_iff]; exact h
    unfold limV
    rw [Hid, e]
    simp [lmAt, lmLo, lmHi, lmEp, kAt, kSize, kEpoch, kOther, *]
  go_enter Tryz.func213, Tryz.ntmps213
  go_wp2_with fail
  exact bodyPost_ret (v := .tuple #[.agg #[.bool false, .int .i64 0, .int .i64 0, .int .i64 0, .int .i64 0], .bool false]) (by simp [results, Tryz.results213, go_sem]) rfl ⟨by rw [HV.out], by go_grown⟩

theorem limits_any (k : Int) (w : World) :
    Calls Tryz.prog 213 #[.int .i64 k] w fun e w' => e = .returned (limV k) ∧ Below w.heap.size w w' := by
  by_cases h : 1 ≤ k ∧ k ≤ 9
  · exact limits_in k w (by omega)
  · exact limits_out k w h

set_option maxHeartbeats 1600000 in
theorem implOpOk_any (k : Int) (nm ot : ByteArray) (at_ va ep : Int) (w : World) (hn : nm.size ≤ maxLen) (ho : ot.size ≤ maxLen) (fk : I64 k) (fa : I64 at_) (fv : I64 va) (fe : I64 ep) :
    Calls Tryz.prog 177 #[.agg #[.int .i64 k, .string nm, .string ot, .int .i64 at_, .int .i64 va, .int .i64 ep]] w fun e w' => e = .returned (.bool (opOk ⟨k, nm, ot, at_, va, ep⟩)) ∧ Below w.heap.size w w' := by
  rw [opOk_by]
  obtain ⟨W0, hW0, k0, d0, z0⟩ := box1 w #[.int .i64 k, .string nm, .string ot, .int .i64 at_, .int .i64 va, .int .i64 ep] 31
  have HW0 : Hid (W0 = _) := hW0
  have s0 := heap_lt k0
  have p0 := at_cell k0 0
  clear hW0 z0
  go_enter Tryz.func177, Tryz.ntmps177
  go_wp2_with fail
  rw [← HW0.out]
  clear HW0 p0
  refine (limits_any k _).mono ?_
  unfold limV
  rintro e w1 ⟨rfl, b1⟩
  replace k0 := (b1.block _ s0).trans k0
  replace d0 := bw_call d0 b1
  have t0 := heap_lt k0
  have o1 := at_cell k0 1
  obtain ⟨W1, hW1, k1, d1, z1⟩ := box1 w1 #[.bool (kOther k), .int .i64 (lmAt k), .int .i64 (lmLo k), .int .i64 (lmHi k), .int .i64 (lmEp k)] 244
  have HW1 : Hid (W1 = _) := hW1
  replace k0 := (d1.block _ t0).trans k0
  replace d0 := bw_call d0 d1
  have p1 := at_cell k0 1
  have p2 := at_cell k0 2
  have p3 := at_cell k0 3
  have p4 := at_cell k0 4
  have p5 := at_cell k0 5
  have r0 := at_cell k1 0
  have r1 := at_cell k1 1
  have r2 := at_cell k1 2
  have r3 := at_cell k1 3
  have r4 := at_cell k1 4
  have HB : Hid (opBy ⟨k, nm, ot, at_, va, ep⟩ = (inB k 1 9 && Nums.nameB nm.data.toList && otOk ot (kOther k) && inB at_ 0 (lmAt k) && inB va (lmLo k) (lmHi k) && inB ep 0 (lmEp k))) := rfl
  clear b1 d1 z1 hW1 k0 k1 s0
  generalize kOther k = x0 at *
  generalize lmAt k = x1 at *
  generalize lmLo k = x2 at *
  generalize lmHi k = x3 at *
  generalize lmEp k = x4 at *
  generalize inB k 1 9 = c0 at *
  cases c0
  · go_wp2_with fail
    rw [← HW1.out]
    clear HW1
    go_ret
    exact ⟨ret_bool (by rw [HB.out]; rfl), d0⟩
  go_wp2_with fail
  rw [← HW1.out]
  clear HW1 o1 t0
  refine (implName_any nm _ hn).mono ?_
  rintro e w' ⟨rfl, rfl⟩
  generalize Nums.nameB nm.data.toList = c1 at *
  cases c1
  · go_wp2_with fail
    go_ret
    exact ⟨ret_bool (by rw [HB.out]; rfl), d0⟩
  go_wp2_with fail
  refine (otherOk_any ot x0 _ ho).mono ?_
  rintro e w' ⟨rfl, rfl⟩
  generalize otOk ot x0 = c2 at *
  cases c2
  · go_wp2_with fail
    go_ret
    exact ⟨ret_bool (by rw [HB.out]; rfl), d0⟩
  go_wp2_with fail
  refine (within_any at_ 0 x1 _).mono ?_
  rintro e w' ⟨rfl, rfl⟩
  generalize inB at_ 0 x1 = c3 at *
  cases c3
  · go_wp2_with fail
    go_ret
    exact ⟨ret_bool (by rw [HB.out]; rfl), d0⟩
  go_wp2_with fail
  refine (within_any va x2 x3 _).mono ?_
  rintro e w' ⟨rfl, rfl⟩
  generalize inB va x2 x3 = c4 at *
  cases c4
  · go_wp2_with fail
    go_ret
    exact ⟨ret_bool (by rw [HB.out]; rfl), d0⟩
  go_wp2_with fail
  refine (within_any ep 0 x4 _).mono ?_
  rintro e w' ⟨rfl, rfl⟩
  generalize inB ep 0 x4 = c5 at *
  go_wp2_with fail
  go_ret
  exact ⟨ret_bool (by rw [HB.out]; rfl), d0⟩
end Go.Proofs.YtaekdfknkgmfbaaGreatDoor

