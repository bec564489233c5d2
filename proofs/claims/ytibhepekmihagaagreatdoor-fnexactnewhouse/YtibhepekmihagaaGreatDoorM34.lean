/-
  Contracts and plain laws, one chapter behind the other.
-/
import Derived.Test.YtibhepekmihagaaGreatDoorM18
import Derived.Test.YtibhepekmihagaaGreatDoorM33
namespace Go.Proofs.YtibhepekmihagaaGreatDoor
open Go.RowKit

set_option linter.unusedVariables false

set_option maxRecDepth 100000

set_option linter.unusedSimpArgs false


set_option maxHeartbeats 1600000 in
theorem specNewHouse_nil (n : Int) (w : World) (pg : Int) (st : Rp) (ok : Bool) (hn : newH n = (pg, st, ok)) :
    Calls Tryz.prog 7 #[.int .i64 n] w fun e w' => ∃ (lo : Option Addr) (lc : Nat) (o1 : Option Addr) (c1 : Nat) (o2 : Option Addr) (c2 : Nat) (o3 : Option Addr) (c3 : Nat) (o4 : Option Addr) (c4 : Nat) (o5 : Option Addr) (c5 : Nat), e = .returned (.tuple #[.agg #[.bool ok, .int .i64 pg, .slice lo 0 lc, .int .i64 0, .slice o1 st.s.cs.length c1, .slice o2 st.s.ps.length c2, .slice o3 0 c3, .slice o4 st.ts.length c4, .slice o5 st.rs.length c5], .bool ok]) ∧ OwnH0 w.heap.size w' st lo lc o1 c1 o2 c2 o3 c3 o4 c4 o5 c5 ∧ Below w.heap.size w w' := by
  obtain ⟨W0, hW0, kR, d0, z0⟩ := box1 w #[.bool false, .int .i64 0, .slice none 0 0, .int .i64 0, .slice none 0 0, .slice none 0 0, .slice none 0 0, .slice none 0 0, .slice none 0 0] 33
  have HW0 : Hid (W0 = _) := hW0
  have hrep := specReplayed_nil n (.slice none 0 0) [] rfl W0 (fun e he => by cases he) (ReadsR.nil _ _ _ _)
  have e1 : (replay n []).1 = st := by have := congrArg (fun z => z.2.1) hn; exact this
  have e2 : (replay n []).2 = ok := by have := congrArg (fun z => z.2.2) hn; exact this
  have hbs : st.s.bs = [] := by rw [← e1]; exact newH_bs n
  have hno : ok = false → pg = 0 ∧ st = Rp.zero := fun h => by
    have := newH_no (n := n) (by rw [hn]; exact h)
    rw [hn] at this
    exact this
  have hyes : ok = true → pg = n := fun h => by
    have := newH_yes (n := n) (by rw [hn]; exact h)
    rw [hn] at this
    exact this
  have HNO : Hid _ := hno
  have HYES : Hid _ := hyes
  rw [e1, e2] at hrep
  have HBS : Hid (st.s.bs = []) := hbs
  have HR2 : Hid (w.heap.size < W0.heap.size) := by rw [Hid]; omega
  clear hW0 e1 e2 hno hyes hbs hn z0
  go_enter Tryz.func7, Tryz.ntmps7
  go_upto_region 1 with fail
  rw [← HW0.out]
  clear HW0
  go_upto_region 2 with (go_at_call 13; refine hrep.mono ?_; rintro e w1 ⟨u1, u2, ub, t1, t2, rfl, od, om, b1⟩; obtain ⟨bks, ob, hbe⟩ := od.b; rw [HBS.out] at hbe; obtain rfl := List.map_eq_nil_iff.1 hbe; obtain ⟨o1, c1, rfl⟩ := own_slice od.p.c; obtain ⟨o2, c2, rfl⟩ := own_slice od.p.p; have ob0 : w1.ownsRow W0.heap.size 133 5 ub 0 [] := ob.row; obtain ⟨o3, c3, rfl⟩ := own_slice ob0; obtain ⟨o4, c4, o5, c5, rfl, rfl⟩ := om.forms)
  obtain ⟨W2, hW2, kS, kM, d2, z2⟩ := box2 w1 #[.slice o1 st.s.cs.length c1, .slice o2 st.s.ps.length c2, .slice o3 0 c3] #[.slice o4 st.ts.length c4, .slice o5 st.rs.length c5] 28 31
  have HW2 : Hid (W2 = _) := hW2
  have B02 := bw_call b1 d2
  have kR2 := (B02.block _ (heap_lt kR)).trans kR
  have D2 := bw_call d0 B02
  have OW : OwnH0 W0.heap.size W2 st none 0 o1 c1 o2 c2 o3 c3 o4 c4 o5 c5 := ⟨owns_nil _ _ _ _, (⟨od.p, ob, List.Pairwise.nil⟩ : OwnS _ _ _ _ _ _ _ _).below d2, om.below d2⟩
  rw [← HW2.out]
  clear HW2 hW2 z2 hbe ob ob0 od om kR hrep b1
  have s0 := at_cell kS 0
  have s1 := at_cell kS 1
  have s2 := at_cell kS 2
  have m0 := at_cell kM 0
  have m1 := at_cell kM 1
  clear kS kM d2 B02
  cases ok
  · obtain ⟨rfl, rfl⟩ := HNO.out rfl
    obtain ⟨V, hV⟩ : ∃ V : World, V = (((((((((W2.setCell ⟨w.heap.size, 0, none⟩ (.bool false)).setCell ⟨w.heap.size, 1, none⟩ (.int .i64 0)).setCell ⟨w.heap.size, 2, none⟩ (.slice none 0 0)).setCell ⟨w.heap.size, 3, none⟩ (.int .i64 0)).setCell ⟨w.heap.size, 4, none⟩ (.slice none 0 0)).setCell ⟨w.heap.size, 5, none⟩ (.slice none 0 0)).setCell ⟨w.heap.size, 6, none⟩ (.slice none 0 0)).setCell ⟨w.heap.size, 7, none⟩ (.slice none 0 0)).setCell ⟨w.heap.size, 8, none⟩ (.slice none 0 0)) := ⟨_, rfl⟩
    have HV : Hid (V = _) := hV
    have HE : Hid _ := house_put kR2 (.bool false) (.int .i64 0) (.slice none 0 0) (.int .i64 0) (.slice none 0 0) (.slice none 0 0) (.slice none 0 0) (.slice none 0 0) (.slice none 0 0) hV
    have uV := HE.out.2
    have p0 := at_cell kR2 0
    have p1 := at_cell kR2 1
    have p2 := at_cell kR2 2
    have p3 := at_cell kR2 3
    have p4 := at_cell kR2 4
    have p5 := at_cell kR2 5
    have p6 := at_cell kR2 6
    have p7 := at_cell kR2 7
    have p8 := at_cell kR2 8
    have f0 := at_open kR2 0
    have f1 := at_open kR2 1
    have f2 := at_open kR2 2
    have f3 := at_open kR2 3
    have f4 := at_open kR2 4
    have f5 := at_open kR2 5
    have f6 := at_open kR2 6
    have f7 := at_open kR2 7
    have f8 := at_open kR2 8

    have HF : Hid _ := And.intro (OwnH0.zero w.heap.size V) (D2.trans (uV.toBelow D2.size (Nat.le_refl _)))
    clear hV uV kR2 OW s0 s1 s2 m0 m1
    go_wp2_with fail
    rw [← HV.out]
    refine bodyPost_ret (v := .tuple #[.agg #[.bool false, .int .i64 0, .slice none 0 0, .int .i64 0, .slice none 0 0, .slice none 0 0, .slice none 0 0, .slice none 0 0, .slice none 0 0], .bool false]) (by simp [results, Tryz.results7, go_sem, at_cell HE.out.1]) rfl ?_
    exact ⟨none, 0, none, 0, none, 0, none, 0, none, 0, none, 0, rfl, HF.out.1, HF.out.2⟩
  · obtain rfl := HYES.out rfl
    obtain ⟨V, hV⟩ : ∃ V : World, V = (((((((((W2.setCell ⟨w.heap.size, 0, none⟩ (.bool true)).setCell ⟨w.heap.size, 1, none⟩ (.int .i64 pg)).setCell ⟨w.heap.size, 2, none⟩ (.slice none 0 0)).setCell ⟨w.heap.size, 3, none⟩ (.int .i64 0)).setCell ⟨w.heap.size, 4, none⟩ (.slice o1 st.s.cs.length c1)).setCell ⟨w.heap.size, 5, none⟩ (.slice o2 st.s.ps.length c2)).setCell ⟨w.heap.size, 6, none⟩ (.slice o3 0 c3)).setCell ⟨w.heap.size, 7, none⟩ (.slice o4 st.ts.length c4)).setCell ⟨w.heap.size, 8, none⟩ (.slice o5 st.rs.length c5)) := ⟨_, rfl⟩
    have HV : Hid (V = _) := hV
    have HE : Hid _ := house_put kR2 (.bool true) (.int .i64 pg) (.slice none 0 0) (.int .i64 0) (.slice o1 st.s.cs.length c1) (.slice o2 st.s.ps.length c2) (.slice o3 0 c3) (.slice o4 st.ts.length c4) (.slice o5 st.rs.length c5) hV
    have uV := HE.out.2
    have p0 := at_cell kR2 0
    have p1 := at_cell kR2 1
    have p2 := at_cell kR2 2
    have p3 := at_cell kR2 3
    have p4 := at_cell kR2 4
    have p5 := at_cell kR2 5
    have p6 := at_cell kR2 6
    have p7 := at_cell kR2 7
    have p8 := at_cell kR2 8
    have f0 := at_open kR2 0
    have f1 := at_open kR2 1
    have f2 := at_open kR2 2
    have f3 := at_open kR2 3
    have f4 := at_open kR2 4
    have f5 := at_open kR2 5
    have f6 := at_open kR2 6
    have f7 := at_open kR2 7
    have f8 := at_open kR2 8

    have HF : Hid _ := And.intro ((OW.upto uV HR2.out).mono (Nat.le_of_lt HR2.out)) (D2.trans (uV.toBelow D2.size (Nat.le_refl _)))
    clear hV uV kR2 OW
    go_wp2_with fail
    rw [← HV.out]
    refine bodyPost_ret (v := .tuple #[.agg #[.bool true, .int .i64 pg, .slice none 0 0, .int .i64 0, .slice o1 st.s.cs.length c1, .slice o2 st.s.ps.length c2, .slice o3 0 c3, .slice o4 st.ts.length c4, .slice o5 st.rs.length c5], .bool true]) (by simp [results, Tryz.results7, go_sem, at_cell HE.out.1]) rfl ?_
    exact ⟨none, 0, o1, c1, o2, c2, o3, c3, o4, c4, o5, c5, rfl, HF.out.1, HF.out.2⟩
end Go.Proofs.YtibhepekmihagaaGreatDoor

