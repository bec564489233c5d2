/-
  Contracts and plain laws, one chapter behind the other.
-/
import Derived.Test.YtibhepekmihagaaGreatDoorM18
import Derived.Test.YtibhepekmihagaaGreatDoorM19
namespace Go.Proofs.YtibhepekmihagaaGreatDoor
open Go.RowKit

set_option linter.unusedVariables false

set_option maxRecDepth 100000

set_option linter.unusedSimpArgs false


theorem OwnH0.logE {base : Nat} {W : World} {st : Rp} {lo : Option Addr} {lc : Nat} {o1 : Option Addr} {c1 : Nat} {o2 : Option Addr} {c2 : Nat} {o3 : Option Addr} {c3 : Nat} {o4 : Option Addr} {c4 : Nat} {o5 : Option Addr} {c5 : Nat} (h : OwnH0 base W st lo lc o1 c1 o2 c2 o3 c3 o4 c4 o5 c5) : ReadsR 9 entC W.heap.size W (.slice lo 0 lc) [] := ReadsR.of_own (xs := []) entC_len h.log

structure RH0 (B : Nat) (W : World) (st : Rp) (lo : Option Addr) (lc : Nat) (o1 : Option Addr) (c1 : Nat) (o2 : Option Addr) (c2 : Nat) (o3 : Option Addr) (c3 : Nat) (o4 : Option Addr) (c4 : Nat) (o5 : Option Addr) (c5 : Nat) : Prop where
  log : ReadsR 9 entC B W (.slice lo 0 lc) []
  sh : RS B W (.slice o1 st.s.cs.length c1) (.slice o2 st.s.ps.length c2) (.slice o3 0 c3) st.s.cs st.s.ps []
  mm : RM B W (.slice o4 st.ts.length c4) (.slice o5 st.rs.length c5) st.ts st.rs

theorem OwnH0.reads {base : Nat} {W : World} {st : Rp} {lo : Option Addr} {lc : Nat} {o1 : Option Addr} {c1 : Nat} {o2 : Option Addr} {c2 : Nat} {o3 : Option Addr} {c3 : Nat} {o4 : Option Addr} {c4 : Nat} {o5 : Option Addr} {c5 : Nat} (h : OwnH0 base W st lo lc o1 c1 o2 c2 o3 c3 o4 c4 o5 c5) : RH0 W.heap.size W st lo lc o1 c1 o2 c2 o3 c3 o4 c4 o5 c5 := ⟨h.logE, h.sh.reads, h.mm.reads⟩

theorem RH0.below {B : Nat} {W W' : World} {st : Rp} {lo : Option Addr} {lc : Nat} {o1 : Option Addr} {c1 : Nat} {o2 : Option Addr} {c2 : Nat} {o3 : Option Addr} {c3 : Nat} {o4 : Option Addr} {c4 : Nat} {o5 : Option Addr} {c5 : Nat} (h : RH0 B W st lo lc o1 c1 o2 c2 o3 c3 o4 c4 o5 c5) (d : Below B W W') : RH0 B W' st lo lc o1 c1 o2 c2 o3 c3 o4 c4 o5 c5 := ⟨h.log.below d, h.sh.below d, h.mm.below d⟩

theorem RH0.mono {B B' : Nat} {W : World} {st : Rp} {lo : Option Addr} {lc : Nat} {o1 : Option Addr} {c1 : Nat} {o2 : Option Addr} {c2 : Nat} {o3 : Option Addr} {c3 : Nat} {o4 : Option Addr} {c4 : Nat} {o5 : Option Addr} {c5 : Nat} (h : RH0 B W st lo lc o1 c1 o2 c2 o3 c3 o4 c4 o5 c5) (d : B ≤ B') : RH0 B' W st lo lc o1 c1 o2 c2 o3 c3 o4 c4 o5 c5 := ⟨h.log.mono d, h.sh.mono d, h.mm.mono d⟩

set_option maxHeartbeats 1600000 in
theorem eqHouse0_same (ok : Bool) (pg : Int) (st : Rp) (lo : Option Addr) (lc : Nat) (o1 : Option Addr) (c1 : Nat) (o2 : Option Addr) (c2 : Nat) (o3 : Option Addr) (c3 : Nat) (o4 : Option Addr) (c4 : Nat) (o5 : Option Addr) (c5 : Nat) (lo' : Option Addr) (lc' : Nat) (o1' : Option Addr) (c1' : Nat) (o2' : Option Addr) (c2' : Nat) (o3' : Option Addr) (c3' : Nat) (o4' : Option Addr) (c4' : Nat) (o5' : Option Addr) (c5' : Nat) (w : World) (r : RH0 w.heap.size w st lo lc o1 c1 o2 c2 o3 c3 o4 c4 o5 c5) (r' : RH0 w.heap.size w st lo' lc' o1' c1' o2' c2' o3' c3' o4' c4' o5' c5') :
    Calls Tryz.prog 9 #[.agg #[.bool ok, .int .i64 pg, .slice lo 0 lc, .int .i64 0, .slice o1 st.s.cs.length c1, .slice o2 st.s.ps.length c2, .slice o3 0 c3, .slice o4 st.ts.length c4, .slice o5 st.rs.length c5], .agg #[.bool ok, .int .i64 pg, .slice lo' 0 lc', .int .i64 0, .slice o1' st.s.cs.length c1', .slice o2' st.s.ps.length c2', .slice o3' 0 c3', .slice o4' st.ts.length c4', .slice o5' st.rs.length c5']] w fun e w' => e = .returned (.bool true) ∧ Below w.heap.size w w' := by
  obtain ⟨W0, hW0, k0, k1, d0, z0⟩ := box2 w #[.bool ok, .int .i64 pg, .slice lo 0 lc, .int .i64 0, .slice o1 st.s.cs.length c1, .slice o2 st.s.ps.length c2, .slice o3 0 c3, .slice o4 st.ts.length c4, .slice o5 st.rs.length c5] #[.bool ok, .int .i64 pg, .slice lo' 0 lc', .int .i64 0, .slice o1' st.s.cs.length c1', .slice o2' st.s.ps.length c2', .slice o3' 0 c3', .slice o4' st.ts.length c4', .slice o5' st.rs.length c5'] 33 33
  have HW0 : Hid (W0 = _) := hW0
  have r0 := (r.below d0).mono d0.size
  have r1 := (r'.below d0).mono d0.size
  have hs1 : (ok != ok) = false := by cases ok <;> rfl
  have hs2 : (pg != pg) = false := by simp
  have p0 := at_cell k0 0
  have p1 := at_cell k0 1
  have p2 := at_cell k0 2
  have p3 := at_cell k0 3
  have p4 := at_cell k0 4
  have p5 := at_cell k0 5
  have p6 := at_cell k0 6
  have p7 := at_cell k0 7
  have p8 := at_cell k0 8
  have q0 := at_cell k1 0
  have q1 := at_cell k1 1
  have q2 := at_cell k1 2
  have q3 := at_cell k1 3
  have q4 := at_cell k1 4
  have q5 := at_cell k1 5
  have q6 := at_cell k1 6
  have q7 := at_cell k1 7
  have q8 := at_cell k1 8
  clear hW0 z0 r r'
  go_enter Tryz.func9, Tryz.ntmps9
  go_upto_region 1 with fail
  rw [← HW0.out]
  clear HW0
  go_wp2_with fail
  refine (eqEntries_same _ _ [] _ r0.log r1.log).mono ?_
  rintro e w1 ⟨rfl, b1⟩
  replace k0 := (b1.block _ (heap_lt k0)).trans k0
  replace k1 := (b1.block _ (heap_lt k1)).trans k1
  replace r0 := (r0.below b1).mono b1.size
  replace r1 := (r1.below b1).mono b1.size
  replace d0 := bw_call d0 b1
  clear b1 p0 q0 p1 q1 p2 q2 p3 q3 p4 q4 p5 q5 p6 q6 p7 q7 p8 q8
  have p0 := at_cell k0 0
  have p1 := at_cell k0 1
  have p2 := at_cell k0 2
  have p3 := at_cell k0 3
  have p4 := at_cell k0 4
  have p5 := at_cell k0 5
  have p6 := at_cell k0 6
  have p7 := at_cell k0 7
  have p8 := at_cell k0 8
  have q0 := at_cell k1 0
  have q1 := at_cell k1 1
  have q2 := at_cell k1 2
  have q3 := at_cell k1 3
  have q4 := at_cell k1 4
  have q5 := at_cell k1 5
  have q6 := at_cell k1 6
  have q7 := at_cell k1 7
  have q8 := at_cell k1 8
  go_wp2_with fail
  refine (eqShelf_same (.slice o1 st.s.cs.length c1) (.slice o2 st.s.ps.length c2) (.slice o3 0 c3) (.slice o1' st.s.cs.length c1') (.slice o2' st.s.ps.length c2') (.slice o3' 0 c3') st.s.cs st.s.ps [] [] _ rfl r0.sh r1.sh).mono ?_
  rintro e w2 ⟨rfl, b1⟩
  replace k0 := (b1.block _ (heap_lt k0)).trans k0
  replace k1 := (b1.block _ (heap_lt k1)).trans k1
  replace r0 := (r0.below b1).mono b1.size
  replace r1 := (r1.below b1).mono b1.size
  replace d0 := bw_call d0 b1
  clear b1 p0 q0 p1 q1 p2 q2 p3 q3 p4 q4 p5 q5 p6 q6 p7 q7 p8 q8
  have p0 := at_cell k0 0
  have p1 := at_cell k0 1
  have p2 := at_cell k0 2
  have p3 := at_cell k0 3
  have p4 := at_cell k0 4
  have p5 := at_cell k0 5
  have p6 := at_cell k0 6
  have p7 := at_cell k0 7
  have p8 := at_cell k0 8
  have q0 := at_cell k1 0
  have q1 := at_cell k1 1
  have q2 := at_cell k1 2
  have q3 := at_cell k1 3
  have q4 := at_cell k1 4
  have q5 := at_cell k1 5
  have q6 := at_cell k1 6
  have q7 := at_cell k1 7
  have q8 := at_cell k1 8
  go_wp2_with fail
  refine (eqMemo_any (.slice o4 st.ts.length c4) (.slice o5 st.rs.length c5) (.slice o4' st.ts.length c4') (.slice o5' st.rs.length c5') st.ts st.rs st.ts st.rs _ r0.mm r1.mm).mono ?_
  rw [show (decide (st.ts = st.ts) && decide (st.rs = st.rs)) = true by simp]
  rintro e w3 ⟨rfl, b1⟩
  replace d0 := bw_call d0 b1
  clear b1 p0 q0 p1 q1 p2 q2 p3 q3 p4 q4 p5 q5 p6 q6 p7 q7 p8 q8 r0 r1
  go_wp2_with fail
  go_ret
  exact ⟨rfl, d0⟩

theorem markEntries_nil (o : Option Addr) (c : Nat) (k : Int) (w : World) : Calls Tryz.prog 19 #[.slice o 0 c, .int .i64 k] w fun e w' => e = .returned (.int .i64 k) ∧ w' = w := by
  go_enter Tryz.func19, Tryz.ntmps19
  go_wp2_with fail
  refine wp_loop_rounds 1 ?_
  rw [rounds_succ]
  go_wp2_with fail
  go_ret
  exact ⟨rfl, rfl⟩

theorem heldEntries_nil (o : Option Addr) (c : Nat) (k : Int) (w : World) : Calls Tryz.prog 36 #[.slice o 0 c, .int .i64 k] w fun e w' => e = .returned (.int .i64 k) ∧ w' = w := by
  go_enter Tryz.func36, Tryz.ntmps36
  go_wp2_with fail
  refine wp_loop_rounds 1 ?_
  rw [rounds_succ]
  go_wp2_with fail
  go_ret
  exact ⟨rfl, rfl⟩

/-- A house's rows. -/
def InH0 (v1 v2 vb m1 m2 : Value) (i : Nat) : Prop := InS v1 v2 vb [] i ∨ (m1.ownBlock = some i ∨ m2.ownBlock = some i)

/-- A house that is marked from k on. -/
structure OwnHM (base : Nat) (W : World) (st : Rp) (k : Int) (lo : Option Addr) (lc : Nat) (o1 : Option Addr) (c1 : Nat) (o2 : Option Addr) (c2 : Nat) (o3 : Option Addr) (c3 : Nat) (o4 : Option Addr) (c4 : Nat) (o5 : Option Addr) (c5 : Nat) : Prop where
  log : W.ownsRow base 91 9 (.slice lo 0 lc) 0 []
  sh : OwnS base W (.slice o1 st.s.cs.length c1) (.slice o2 st.s.ps.length c2) (.slice o3 0 c3) (marksI k st.s.cs.length) (marksI (k + st.s.cs.length) st.s.ps.length) (marksB (k + st.s.cs.length + st.s.ps.length) [])
  mm : OwnM base W (.slice o4 st.ts.length c4) (.slice o5 st.rs.length c5) (marksI (k + st.s.cs.length + st.s.ps.length) st.ts.length) (marksP ((k + st.s.cs.length + st.s.ps.length) + st.ts.length) st.rs.length)

theorem OwnHM.below {base : Nat} {W W' : World} {st : Rp} {k : Int} {lo : Option Addr} {lc : Nat} {o1 : Option Addr} {c1 : Nat} {o2 : Option Addr} {c2 : Nat} {o3 : Option Addr} {c3 : Nat} {o4 : Option Addr} {c4 : Nat} {o5 : Option Addr} {c5 : Nat} (h : OwnHM base W st k lo lc o1 c1 o2 c2 o3 c3 o4 c4 o5 c5) (d : Below W.heap.size W W') : OwnHM base W' st k lo lc o1 c1 o2 c2 o3 c3 o4 c4 o5 c5 := ⟨owns_below h.log d, h.sh.below d, h.mm.below d⟩

theorem OwnH0.span {base : Nat} {W : World} {st : Rp} {lo : Option Addr} {lc : Nat} {o1 : Option Addr} {c1 : Nat} {o2 : Option Addr} {c2 : Nat} {o3 : Option Addr} {c3 : Nat} {o4 : Option Addr} {c4 : Nat} {o5 : Option Addr} {c5 : Nat} (h : OwnH0 base W st lo lc o1 c1 o2 c2 o3 c3 o4 c4 o5 c5) : ∀ i, InH0 (.slice o1 st.s.cs.length c1) (.slice o2 st.s.ps.length c2) (.slice o3 0 c3) (.slice o4 st.ts.length c4) (.slice o5 st.rs.length c5) i → base ≤ i ∧ i < W.heap.size := by
  rintro i ((e | e | e | ⟨b, hb, -⟩) | e)
  · exact h.sh.p.span i (.inl e)
  · exact h.sh.p.span i (.inr e)
  · exact h.sh.b.row.lt i e
  · cases hb
  · exact h.mm.span i e

theorem OwnH0.not_box {base c : Nat} {W : World} {st : Rp} {lo : Option Addr} {lc : Nat} {o1 : Option Addr} {c1 : Nat} {o2 : Option Addr} {c2 : Nat} {o3 : Option Addr} {c3 : Nat} {o4 : Option Addr} {c4 : Nat} {o5 : Option Addr} {c5 : Nat} {zs : Array Value} (h : OwnH0 base W st lo lc o1 c1 o2 c2 o3 c3 o4 c4 o5 c5) (k : W.heap[c]? = some (.cells zs 33 (0, 0))) : ¬ InH0 (.slice o1 st.s.cs.length c1) (.slice o2 st.s.ps.length c2) (.slice o3 0 c3) (.slice o4 st.ts.length c4) (.slice o5 st.rs.length c5) c := by
  rintro ((e | e | e | ⟨b, hb, -⟩) | e | e)
  · exact own_not_box h.sh.p.c k (by decide) e
  · exact own_not_box h.sh.p.p k (by decide) e
  · exact own_not_box h.sh.b.row k (by decide) e
  · cases hb
  · exact own_not_box h.mm.t k (by decide) e
  · exact own_not_box h.mm.r k (by decide) e

set_option maxHeartbeats 1600000 in
theorem markHouse0_any (ok : Bool) (pg : Int) (st : Rp) (lo : Option Addr) (lc : Nat) (o1 : Option Addr) (c1 : Nat) (o2 : Option Addr) (c2 : Nat) (o3 : Option Addr) (c3 : Nat) (o4 : Option Addr) (c4 : Nat) (o5 : Option Addr) (c5 : Nat) (base : Nat) (k : Int) (w : World) (hk : 0 ≤ k) (hk2 : k + st.s.cs.length + st.s.ps.length ≤ 1048576) (h1 : st.s.cs.length ≤ 1048576) (h2 : st.s.ps.length ≤ 1048576) (h3 : st.ts.length ≤ 1048576) (h4 : st.rs.length ≤ 1048576) (own : OwnH0 base w st lo lc o1 c1 o2 c2 o3 c3 o4 c4 o5 c5) (ap : (∀ g, ((Value.slice o1 st.s.cs.length c1).ownBlock = some g ∨ (Value.slice o2 st.s.ps.length c2).ownBlock = some g) → (Value.slice o4 st.ts.length c4).ownBlock ≠ some g)) (hbase : base ≤ w.heap.size) :
    Calls Tryz.prog 10 #[.agg #[.bool ok, .int .i64 pg, .slice lo 0 lc, .int .i64 0, .slice o1 st.s.cs.length c1, .slice o2 st.s.ps.length c2, .slice o3 0 c3, .slice o4 st.ts.length c4, .slice o5 st.rs.length c5], .int .i64 k] w fun e w' => e = .returned (.int .i64 ((k + st.s.cs.length + st.s.ps.length) + st.ts.length + 2 * st.rs.length)) ∧ OwnHM base w' st k lo lc o1 c1 o2 c2 o3 c3 o4 c4 o5 c5 ∧ Only (InH0 (.slice o1 st.s.cs.length c1) (.slice o2 st.s.ps.length c2) (.slice o3 0 c3) (.slice o4 st.ts.length c4) (.slice o5 st.rs.length c5)) w w' := by
  obtain ⟨W0, hW0, k0, d0, z0⟩ := box1 w #[.bool ok, .int .i64 pg, .slice lo 0 lc, .int .i64 0, .slice o1 st.s.cs.length c1, .slice o2 st.s.ps.length c2, .slice o3 0 c3, .slice o4 st.ts.length c4, .slice o5 st.rs.length c5] 33
  have HW0 : Hid (W0 = _) := hW0
  have own0 := own.below d0
  have HNB : Hid _ := own0.not_box k0
  have HAP : Hid _ := ap
  have hb0 : base ≤ W0.heap.size := by omega
  have O0 : Only (InH0 (.slice o1 st.s.cs.length c1) (.slice o2 st.s.ps.length c2) (.slice o3 0 c3) (.slice o4 st.ts.length c4) (.slice o5 st.rs.length c5)) w W0 := (Only.refl _ w).below d0
  have p0 := at_cell k0 0
  have p1 := at_cell k0 1
  have p2 := at_cell k0 2
  have p3 := at_cell k0 3
  have p4 := at_cell k0 4
  have p5 := at_cell k0 5
  have p6 := at_cell k0 6
  have p7 := at_cell k0 7
  have p8 := at_cell k0 8
  clear hW0 own ap z0 d0
  go_enter Tryz.func10, Tryz.ntmps10
  go_upto_region 1 with fail
  rw [← HW0.out]
  clear HW0
  go_wp2_with fail
  refine (markEntries_nil lo lc k _).mono ?_
  rintro e w1 ⟨rfl, rfl⟩
  go_wp2_with fail
  refine (markShelfO_any (.slice o1 st.s.cs.length c1) (.slice o2 st.s.ps.length c2) (.slice o3 0 c3) st.s.cs st.s.ps [] base k _ hk h1 h2 (show k + (st.s.cs.length : Int) + (st.s.ps.length : Int) ≤ 1073741824 by omega) (fun b hb => by cases hb) own0.sh hb0).mono ?_
  rintro e w2 ⟨rfl, os, on⟩
  have hs2 := on.size
  have k2 := (on.block _ (heap_lt k0) (fun h => HNB.out (.inl h))).trans k0
  have hlog := own_only own0.log on (fun g hg h => by
    rcases h with h | h | h | ⟨b, hb, -⟩
    · exact rows_two own0.sh.p.c own0.log (by decide) g h hg
    · exact rows_two own0.sh.p.p own0.log (by decide) g h hg
    · exact rows_two own0.sh.b.row own0.log (by decide) g h hg
    · cases hb)
  have hmt := own_only own0.mm.t on (fun g hg h => by
    rcases h with h | h | h | ⟨b, hb, -⟩
    · exact HAP.out g (.inl h) hg
    · exact HAP.out g (.inr h) hg
    · exact rows_two own0.sh.b.row own0.mm.t (by decide) g h hg
    · cases hb)
  have hmr := own_only own0.mm.r on (fun g hg h => by
    rcases h with h | h | h | ⟨b, hb, -⟩
    · exact rows_two own0.sh.p.c own0.mm.r (by decide) g h hg
    · exact rows_two own0.sh.p.p own0.mm.r (by decide) g h hg
    · exact rows_two own0.sh.b.row own0.mm.r (by decide) g h hg
    · cases hb)
  have O2 := O0.trans (on.mono (fun i h => .inl h))
  clear p0 p1 p2 p3 p4 p5 p6 p7 p8
  have p7 := at_cell k2 7
  have p8 := at_cell k2 8
  have he : shelfE k st.s.cs st.s.ps [] = (k + st.s.cs.length + st.s.ps.length) := rfl
  rw [he]
  clear he on own0 k0
  go_wp2_with fail
  clear p7 p8
  refine (markMemoO_any (.slice o4 st.ts.length c4) (.slice o5 st.rs.length c5) st.ts st.rs base (k + st.s.cs.length + st.s.ps.length) _ (by omega) h3 h4 (by omega) ⟨hmt, hmr⟩ (by omega)).mono ?_
  rintro e w3 ⟨rfl, om, on3⟩
  have hlog3 := own_only hlog on3 (fun g hg h => by
    rcases h with h | h
    · exact rows_two hmt hlog (by decide) g h hg
    · exact rows_two hmr hlog (by decide) g h hg)
  have hc3 := own_only os.p.c on3 (fun g hg h => by
    rcases h with h | h
    · exact HAP.out g (.inl hg) h
    · exact rows_two hmr os.p.c (by decide) g h hg)
  have hp3 := own_only os.p.p on3 (fun g hg h => by
    rcases h with h | h
    · exact HAP.out g (.inr hg) h
    · exact rows_two hmr os.p.p (by decide) g h hg)
  have hb3 := own_only os.b.row on3 (fun g hg h => by
    rcases h with h | h
    · exact rows_two hmt os.b.row (by decide) g h hg
    · exact rows_two hmr os.b.row (by decide) g h hg)
  have HF : Hid (OwnHM base w3 st k lo lc o1 c1 o2 c2 o3 c3 o4 c4 o5 c5) := ⟨hlog3, ⟨⟨hc3, hp3, os.p.apart⟩, ⟨hb3, fun b hb => by cases hb⟩, os.a⟩, om⟩
  have O3 := O2.trans (on3.mono (fun i h => .inr h))
  clear hlog hmt hmr hlog3 hc3 hp3 hb3 os om on3 O0 O2 k2
  go_wp2_with fail
  go_ret
  exact ⟨rfl, HF.out, O3⟩

set_option maxHeartbeats 1600000 in
theorem heldHouse0_any (ok : Bool) (pg : Int) (st : Rp) (lo : Option Addr) (lc : Nat) (o1 : Option Addr) (c1 : Nat) (o2 : Option Addr) (c2 : Nat) (o3 : Option Addr) (c3 : Nat) (o4 : Option Addr) (c4 : Nat) (o5 : Option Addr) (c5 : Nat) (base : Nat) (k : Int) (w : World) (hk : 0 ≤ k) (hk2 : k + st.s.cs.length + st.s.ps.length ≤ 1048576) (h1 : st.s.cs.length ≤ 1048576) (h2 : st.s.ps.length ≤ 1048576) (h3 : st.ts.length ≤ 1048576) (h4 : st.rs.length ≤ 1048576) (own : OwnHM base w st k lo lc o1 c1 o2 c2 o3 c3 o4 c4 o5 c5) :
    Calls Tryz.prog 11 #[.agg #[.bool ok, .int .i64 pg, .slice lo 0 lc, .int .i64 0, .slice o1 st.s.cs.length c1, .slice o2 st.s.ps.length c2, .slice o3 0 c3, .slice o4 st.ts.length c4, .slice o5 st.rs.length c5], .int .i64 k] w fun e w' => e = .returned (.int .i64 ((k + st.s.cs.length + st.s.ps.length) + st.ts.length + 2 * st.rs.length)) ∧ Below w.heap.size w w' := by
  obtain ⟨W0, hW0, k0, d0, z0⟩ := box1 w #[.bool ok, .int .i64 pg, .slice lo 0 lc, .int .i64 0, .slice o1 st.s.cs.length c1, .slice o2 st.s.ps.length c2, .slice o3 0 c3, .slice o4 st.ts.length c4, .slice o5 st.rs.length c5] 33
  have HW0 : Hid (W0 = _) := hW0
  have own0 := own.below d0
  have hp0 : 0 ≤ k + (st.s.cs.length : Int) + (st.s.ps.length : Int) := by omega
  have hp1 : ¬ k < 0 := by omega
  have hp2 : ¬ k + (st.s.cs.length : Int) + (st.s.ps.length : Int) < 0 := by omega
  have hp3 : ¬ k + (st.s.cs.length : Int) + (st.s.ps.length : Int) + (st.ts.length : Int) + 2 * (st.rs.length : Int) < 0 := by omega
  have p0 := at_cell k0 0
  have p1 := at_cell k0 1
  have p2 := at_cell k0 2
  have p3 := at_cell k0 3
  have p4 := at_cell k0 4
  have p5 := at_cell k0 5
  have p6 := at_cell k0 6
  have p7 := at_cell k0 7
  have p8 := at_cell k0 8
  clear hW0 own z0
  go_enter Tryz.func11, Tryz.ntmps11
  go_upto_region 1 with fail
  rw [← HW0.out]
  clear HW0
  go_wp2_with fail
  refine (heldEntries_nil lo lc k _).mono ?_
  rintro e w1 ⟨rfl, rfl⟩
  go_wp2_with fail
  refine (heldShelf_any (.slice o1 st.s.cs.length c1) (.slice o2 st.s.ps.length c2) (.slice o3 0 c3) st.s.cs st.s.ps [] k _ hk h1 h2 (show k + (st.s.cs.length : Int) + (st.s.ps.length : Int) ≤ 1073741824 by omega) (fun b hb => by cases hb) own0.sh.reads).mono ?_
  rintro e w2 ⟨rfl, b2⟩
  have k2 := (b2.block _ (heap_lt k0)).trans k0
  have own2 := own0.below b2
  replace d0 := bw_call d0 b2
  clear p0 p1 p2 p3 p4 p5 p6 p7 p8
  have p7 := at_cell k2 7
  have p8 := at_cell k2 8
  have he : shelfE k st.s.cs st.s.ps [] = (k + st.s.cs.length + st.s.ps.length) := rfl
  rw [he]
  clear he b2 own0 k0
  go_wp2_with fail
  clear p7 p8
  refine (heldMemo_any (.slice o4 st.ts.length c4) (.slice o5 st.rs.length c5) st.ts.length st.rs.length (k + st.s.cs.length + st.s.ps.length) _ (by omega) (by omega) h3 h4 own2.mm.reads).mono ?_
  rintro e w3 ⟨rfl, b3⟩
  replace d0 := bw_call d0 b3
  clear own2 b3 k2
  go_wp2_with fail
  go_ret
  exact ⟨rfl, d0⟩
end Go.Proofs.YtibhepekmihagaaGreatDoor

