/-
  Contracts and plain laws, one chapter behind the other.
-/
import Derived.Test.YtibhepekmihagaaGreatDoorM18
import Derived.Test.YtibhepekmihagaaGreatDoorM36
import Derived.Test.YtibhepekmihagaaGreatDoorM38
import Derived.Test.YtibhepekmihagaaGreatDoorM39
namespace Go.Proofs.YtibhepekmihagaaGreatDoor
open Go.RowKit

set_option linter.unusedVariables false

set_option maxRecDepth 100000

set_option linter.unusedSimpArgs false


set_option maxHeartbeats 3200000 in
theorem newHouse1_nil (n : Int) (l : List Ent) (hl0 : l = []) (p base : Nat) (ad : Nat → Addr) (ab : Addr) (W : World) (kp : W.heap[p]? = some (.cells #[.int .i64 n] 2 (0, 0))) (hv : VarsS W ad) (hb : VarB W ab) (hbase : base ≤ W.heap.size) :
    Calls Tryz.prog 34 #[.pointer (some ⟨p, 0, none⟩)] W (WorkP (HsQ base n l) (rpOk n l = false) W) := by
  have hf : FitLog l := by rw [hl0]; exact fun e he => by cases he
  obtain ⟨WA, hWA, kRA, dA, zA⟩ := box1 W #[.bool false, .int .i64 0, .slice none 0 0, .int .i64 0, .slice none 0 0, .slice none 0 0, .slice none 0 0, .slice none 0 0, .slice none 0 0] 33
  have HWA : Hid (WA = _) := hWA
  obtain ⟨W0, hW0, kE, dB, z0⟩ := box1 WA #[] 91
  have HW0 : Hid (W0 = _) := hW0
  have kR := (dB.block _ (heap_lt kRA)).trans kRA
  have d0 := bw_call dA dB
  rw [zA] at z0
  have pc := at_cell ((dA.block _ (heap_lt kp)).trans kp) 0
  have r0 : ReadsR 9 entC W0.heap.size W0 (.slice (some ⟨WA.heap.size, 0, none⟩) 0 0) l := by rw [hl0]; exact ⟨some ⟨WA.heap.size, 0, none⟩, 0, rfl, Nat.zero_le _, fun i x h => by simp at h, Nat.zero_le _⟩
  have HL0 : Hid (l = []) := hl0
  clear hWA kRA hl0
  have hv0 := hv.below d0
  have hb0 := hb.below d0
  have HBS : Hid (base ≤ W.heap.size) := hbase
  have hlt : W.heap.size < W0.heap.size := by omega
  clear z0 zA
  by_cases hok : rpOk n l = true
  case neg =>
    have hok' : rpOk n l = false := by simpa using hok
    have hn := fromLog_no n _ l W0 ab hb0 hf hok' r0
    have HOK : Hid (rpOk n l = false) := hok'
    clear hW0 hv hb hv0 hb0 hok hok' r0
    go_enter Tryz.func34, Tryz.ntmps34
    go_upto_region 1 with fail
    rw [← HWA.out]
    go_wp2_with fail
    rw [← HW0.out]
    clear HW0 HWA pc
    refine hn.mono ?_
    rintro e w1 ⟨rfl, b1⟩
    go_wp2_with fail
    exact ⟨rfl, bw_call d0 b1, .inr ⟨_, _, rfl, HOK.out⟩⟩
  · have hy := fromLog_nil n _ l HL0.out W0 ad hv0 hf hok r0
    have HOKT : Hid (rpOk n l = true) := hok
    clear hW0 hv hb hv0 hb0 hok r0
    go_enter Tryz.func34, Tryz.ntmps34
    go_upto_region 1 with fail
    rw [← HWA.out]
    go_wp2_with fail
    rw [← HW0.out]
    clear HW0 HWA pc
    refine hy.mono ?_
    rintro e w1 ⟨vl, u1, u2, ub, m1, m2, ms, rfl, own, os, hms, om, ap, b1⟩
    have kR1 := (b1.block _ (heap_lt kR)).trans kR
    obtain ⟨st, hst⟩ : ∃ st, rpFrom (rpNew n) l = st := ⟨_, rfl⟩
    rw [hst] at os hms om
    have HSQ : Hid (rpFrom (rpNew n) l = st) := hst
    clear hst hy
    obtain ⟨y1, z1, y2, z2, y3, z3, rfl, rfl, rfl⟩ := os.forms
    obtain ⟨y4, z4, y5, z5, rfl, rfl⟩ := om.forms
    obtain ⟨yl, zl, rfl⟩ := own_slice own
    have HAPE : Hid _ := ap
    clear ap
    obtain ⟨V, hV⟩ : ∃ V : World, V = (((((((((w1.setCell ⟨W.heap.size, 0, none⟩ (.bool true)).setCell ⟨W.heap.size, 1, none⟩ (.int .i64 n)).setCell ⟨W.heap.size, 2, none⟩ (.slice yl l.length zl)).setCell ⟨W.heap.size, 3, none⟩ (.int .i64 0)).setCell ⟨W.heap.size, 4, none⟩ (.slice y1 st.s.cs.length z1)).setCell ⟨W.heap.size, 5, none⟩ (.slice y2 st.s.ps.length z2)).setCell ⟨W.heap.size, 6, none⟩ (.slice y3 ms.length z3)).setCell ⟨W.heap.size, 7, none⟩ (.slice y4 st.ts.length z4)).setCell ⟨W.heap.size, 8, none⟩ (.slice y5 st.rs.length z5)) := ⟨_, rfl⟩
    have HV : Hid (V = _) := hV
    have HE : Hid _ := grown_ans kR1 (.bool true) (.int .i64 n) (.slice yl l.length zl) (.int .i64 0) (.slice y1 st.s.cs.length z1) (.slice y2 st.s.ps.length z2) (.slice y3 ms.length z3) (.slice y4 st.ts.length z4) (.slice y5 st.rs.length z5) hV
    have uV := HE.out.2
    have dV : Below W.heap.size W V := (bw_call d0 b1).trans (uV.toBelow (bw_call d0 b1).size (Nat.le_refl _))
    have HF : Hid _ := And.intro (owns_mono (ownsRow_upto own uV hlt) (show base ≤ W0.heap.size by omega)) (And.intro ((os.upto uV hlt).mono (show base ≤ W0.heap.size by omega)) (And.intro hms (And.intro ((om.upto uV hlt).mono (show base ≤ W0.heap.size by omega)) dV)))
    have p0 := at_cell kR1 0
    have p1 := at_cell kR1 1
    have p2 := at_cell kR1 2
    have p3 := at_cell kR1 3
    have p4 := at_cell kR1 4
    have p5 := at_cell kR1 5
    have p6 := at_cell kR1 6
    have p7 := at_cell kR1 7
    have p8 := at_cell kR1 8
    have f0 := at_open kR1 0
    have f1 := at_open kR1 1
    have f2 := at_open kR1 2
    have f3 := at_open kR1 3
    have f4 := at_open kR1 4
    have f5 := at_open kR1 5
    have f6 := at_open kR1 6
    have f7 := at_open kR1 7
    have f8 := at_open kR1 8
    clear hV uV own os om kR1 kR hms dV
    go_wp2_with fail
    rw [← HV.out]
    refine bodyPost_ret (v := .agg #[.bool true, .int .i64 n, .slice yl l.length zl, .int .i64 0, .slice y1 st.s.cs.length z1, .slice y2 st.s.ps.length z2, .slice y3 ms.length z3, .slice y4 st.ts.length z4, .slice y5 st.rs.length z5]) (by simp [results, Tryz.results34, go_sem, at_cell HE.out.1]) rfl ?_
    refine ⟨HF.out.2.2.2.2, .inl ⟨⟨true, n, ⟨yl, l.length, zl⟩, 0, ⟨y1, st.s.cs.length, z1⟩, ⟨y2, st.s.ps.length, z2⟩, ⟨y3, ms.length, z3⟩, ⟨y4, st.ts.length, z4⟩, ⟨y5, st.rs.length, z5⟩⟩, rfl, ms, HOKT.out, rfl, rfl, rfl, ?_⟩⟩
    rw [HSQ.out]
    exact ⟨HF.out.1, HF.out.2.1, HF.out.2.2.1, HF.out.2.2.2.1, HAPE.out⟩

set_option maxHeartbeats 1600000 in
theorem implNewHouse_nil (n : Int) (w : World) (ad : Nat → Addr) (ab : Addr) (hv : VarsS w ad) (hb : VarB w ab) (pg : Int) (st : Rp) (ok : Bool) (hn : newH n = (pg, st, ok)) :
    Calls Tryz.prog 8 #[.int .i64 n] w fun e w' => ∃ (lo : Option Addr) (lc : Nat) (o1 : Option Addr) (c1 : Nat) (o2 : Option Addr) (c2 : Nat) (o3 : Option Addr) (c3 : Nat) (o4 : Option Addr) (c4 : Nat) (o5 : Option Addr) (c5 : Nat), e = .returned (.tuple #[.agg #[.bool ok, .int .i64 pg, .slice lo 0 lc, .int .i64 0, .slice o1 st.s.cs.length c1, .slice o2 st.s.ps.length c2, .slice o3 0 c3, .slice o4 st.ts.length c4, .slice o5 st.rs.length c5], .bool ok]) ∧ OwnH0 w.heap.size w' st lo lc o1 c1 o2 c2 o3 c3 o4 c4 o5 c5 ∧ (∀ g, ((Value.slice o1 st.s.cs.length c1).ownBlock = some g ∨ (Value.slice o2 st.s.ps.length c2).ownBlock = some g) → (Value.slice o4 st.ts.length c4).ownBlock ≠ some g) ∧ Below w.heap.size w w' := by
  obtain ⟨W0, hW0, kp, kR, d0, z0⟩ := box2 w #[.int .i64 n] #[.bool false, .int .i64 0, .slice none 0 0, .int .i64 0, .slice none 0 0, .slice none 0 0, .slice none 0 0, .slice none 0 0, .slice none 0 0] 2 33
  have HW0 : Hid (W0 = _) := hW0
  have e1 : (replay n []).1 = st := by have := congrArg (fun z => z.2.1) hn; exact this
  have e2 : (replay n []).2 = ok := by have := congrArg (fun z => z.2.2) hn; exact this
  have hno : ok = false → pg = 0 ∧ st = Rp.zero := fun h => by
    have := newH_no (n := n) (by rw [hn]; exact h)
    rw [hn] at this
    exact this
  have hyes : ok = true → pg = n := fun h => by
    have := newH_yes (n := n) (by rw [hn]; exact h)
    rw [hn] at this
    exact this
  have lp : w.heap.size < W0.heap.size := by omega
  have hv0 := hv.below d0
  have hb0 := hb.below d0
  have hface := face_new #[.pointer (some ⟨w.heap.size, 0, none⟩)] (HsQ (W0.heap.size + 1 + 1) n []) (rpOk n [] = false) W0 (fun W d hsz => newHouse1_nil n [] rfl _ _ ad ab W ((d.block _ lp).trans kp) (hv0.below d) (hb0.below d) hsz)
  have hmf : ∀ (fn : Fn) (first cap : Array Value) (w : World), (Instr.makeFunc fn first cap).run Tryz.prog w = .ok (.func fn first cap) w := fun _ _ _ _ => rfl
  clear hW0 hv hb hv0 hb0 z0 hn kp
  by_cases hok : rpOk n [] = true
  · have hy := replay_yesI hok
    rw [hy] at e1 e2
    have e1' : rpFrom (rpNew n) [] = st := e1
    have e2' : true = ok := e2
    subst e2'
    obtain rfl := hyes rfl
    have hbs : st.s.bs = [] := by rw [← e1']; rfl
    have hfy := hface.mono (R' := fun e w' => Below W0.heap.size W0 w' ∧ ∃ (lo : Option Addr) (lc : Nat) (o1 : Option Addr) (c1 : Nat) (o2 : Option Addr) (c2 : Nat) (o3 : Option Addr) (c3 : Nat) (o4 : Option Addr) (c4 : Nat) (o5 : Option Addr) (c5 : Nat), e = .returned (.tuple #[.agg #[.bool true, .int .i64 pg, .slice lo 0 lc, .int .i64 0, .slice o1 st.s.cs.length c1, .slice o2 st.s.ps.length c2, .slice o3 0 c3, .slice o4 st.ts.length c4, .slice o5 st.rs.length c5], .bool true]) ∧ OwnH0 (W0.heap.size + 1 + 1) w' st lo lc o1 c1 o2 c2 o3 c3 o4 c4 o5 c5 ∧ (∀ g, ((Value.slice o1 st.s.cs.length c1).ownBlock = some g ∨ (Value.slice o2 st.s.ps.length c2).ownBlock = some g) → (Value.slice o4 st.ts.length c4).ownBlock ≠ some g)) (by
      rintro e w' ⟨b, ⟨⟨up, pg', ⟨lo, ln, lc⟩, ak, ⟨a1, a2, a3⟩, ⟨p1, p2, p3⟩, ⟨b1, b2, b3⟩, ⟨t1, t2, t3⟩, ⟨r1, r2, r3⟩⟩, W1, rfl, ⟨ms, -, hup, hpg, hak, hlog, os, hms, om, ap⟩, on, -, -⟩ | ⟨-, hg⟩⟩
      · dsimp only at hup hpg hak hlog os om ap
        rw [e1'] at os hms om
        rw [hbs] at hms
        obtain rfl := List.map_eq_nil_iff.1 hms
        subst hup hpg hak
        obtain ⟨x1, y1, q1⟩ := own_slice hlog
        obtain ⟨x2, y2, x3, y3, x4, y4, q2, q3, q4⟩ := os.forms
        obtain ⟨x5, y5, x6, y6, q5, q6⟩ := om.forms
        have q4' : Value.slice b1 b2 b3 = .slice x4 0 y4 := q4
        have q1' : Value.slice lo ln lc = .slice x1 0 y1 := q1
        cases q1'
        cases q2
        cases q3
        cases q4'
        cases q5
        cases q6
        have ow : OwnH0 (W0.heap.size + 1 + 1) W1 st lo lc a1 a3 p1 p3 b1 b3 t1 t3 r1 r3 := ⟨hlog, os, om⟩
        exact ⟨b, lo, lc, a1, a3, p1, p3, b1, b3, t1, t3, r1, r3, rfl, ow.rng (only_rng2 on) (Nat.le_refl _), ap⟩
      · rw [hok] at hg; cases hg)
    clear hface hok hno hyes hy e1 e1' e2 hbs
    go_enter Tryz.func8, Tryz.ntmps8
    go_upto_region 1 with fail
    rw [← HW0.out]
    clear HW0
    go_wp2_with fail
    refine hfy.mono ?_
    rintro e W2 ⟨b5, lo, lc, o1, c1, o2, c2, o3, c3, o4, c4, o5, c5, rfl, OW, ap⟩
    have HAPE : Hid _ := ap
    clear ap
    have kR2 := (b5.block _ (heap_lt kR)).trans kR
    have D2 := bw_call d0 b5
    obtain ⟨V, hV⟩ : ∃ V : World, V = (((((((((W2.setCell ⟨w.heap.size + 1, 0, none⟩ (.bool true)).setCell ⟨w.heap.size + 1, 1, none⟩ (.int .i64 pg)).setCell ⟨w.heap.size + 1, 2, none⟩ (.slice lo 0 lc)).setCell ⟨w.heap.size + 1, 3, none⟩ (.int .i64 0)).setCell ⟨w.heap.size + 1, 4, none⟩ (.slice o1 st.s.cs.length c1)).setCell ⟨w.heap.size + 1, 5, none⟩ (.slice o2 st.s.ps.length c2)).setCell ⟨w.heap.size + 1, 6, none⟩ (.slice o3 0 c3)).setCell ⟨w.heap.size + 1, 7, none⟩ (.slice o4 st.ts.length c4)).setCell ⟨w.heap.size + 1, 8, none⟩ (.slice o5 st.rs.length c5)) := ⟨_, rfl⟩
    have HV : Hid (V = _) := hV
    have HE : Hid _ := house_put kR2 (.bool true) (.int .i64 pg) (.slice lo 0 lc) (.int .i64 0) (.slice o1 st.s.cs.length c1) (.slice o2 st.s.ps.length c2) (.slice o3 0 c3) (.slice o4 st.ts.length c4) (.slice o5 st.rs.length c5) hV
    have uV := HE.out.2
    have p0 := at_cell kR2 0
    have p1 := at_cell kR2 1
    have p2 := at_cell kR2 2
    have p3 := at_cell kR2 3
    have p4 := at_cell kR2 4
    have p5 := at_cell kR2 5
    have p6 := at_cell kR2 6
    have p7 := at_cell kR2 7
    have p8 := at_cell kR2 8
    have f0 := at_open kR2 0
    have f1 := at_open kR2 1
    have f2 := at_open kR2 2
    have f3 := at_open kR2 3
    have f4 := at_open kR2 4
    have f5 := at_open kR2 5
    have f6 := at_open kR2 6
    have f7 := at_open kR2 7
    have f8 := at_open kR2 8
    have HF : Hid _ := And.intro ((OW.upto uV (by omega)).mono (show w.heap.size ≤ W0.heap.size + 1 + 1 by omega)) (D2.trans (uV.toBelow D2.size (Nat.le_succ _)))
    clear hV uV kR2 OW hfy kR lp b5
    go_wp2_with fail
    rw [← HV.out]
    refine bodyPost_ret (v := .tuple #[.agg #[.bool true, .int .i64 pg, .slice lo 0 lc, .int .i64 0, .slice o1 st.s.cs.length c1, .slice o2 st.s.ps.length c2, .slice o3 0 c3, .slice o4 st.ts.length c4, .slice o5 st.rs.length c5], .bool true]) (by simp [results, Tryz.results8, go_sem, at_cell HE.out.1]) rfl ?_
    exact ⟨lo, lc, o1, c1, o2, c2, o3, c3, o4, c4, o5, c5, rfl, HF.out.1, HAPE.out, HF.out.2⟩
  · have hok' : rpOk n [] = false := by simpa using hok
    have hy := replay_noI hok'
    rw [hy] at e1 e2
    have e2' : false = ok := e2
    subst e2'
    obtain ⟨rfl, rfl⟩ := hno rfl
    have hfy := hface.mono (R' := fun e w' => Below W0.heap.size W0 w' ∧ e = .returned (.tuple #[.agg hz9, .bool false])) (by
      rintro e w' ⟨b, ⟨h, W1, -, ⟨ms, ho, -⟩, -⟩ | ⟨e1, -⟩⟩
      · exact absurd ho hok
      · exact ⟨b, e1⟩)
    clear hface hok hok' hno hyes hy e1 e2
    unfold hz9 at hfy
    go_enter Tryz.func8, Tryz.ntmps8
    go_upto_region 1 with fail
    rw [← HW0.out]
    clear HW0
    go_wp2_with fail
    refine hfy.mono ?_
    rintro e W2 ⟨b5, rfl⟩
    have kR2 := (b5.block _ (heap_lt kR)).trans kR
    have D2 := bw_call d0 b5
    obtain ⟨V, hV⟩ : ∃ V : World, V = (((((((((W2.setCell ⟨w.heap.size + 1, 0, none⟩ (.bool false)).setCell ⟨w.heap.size + 1, 1, none⟩ (.int .i64 0)).setCell ⟨w.heap.size + 1, 2, none⟩ (.slice none 0 0)).setCell ⟨w.heap.size + 1, 3, none⟩ (.int .i64 0)).setCell ⟨w.heap.size + 1, 4, none⟩ (.slice none 0 0)).setCell ⟨w.heap.size + 1, 5, none⟩ (.slice none 0 0)).setCell ⟨w.heap.size + 1, 6, none⟩ (.slice none 0 0)).setCell ⟨w.heap.size + 1, 7, none⟩ (.slice none 0 0)).setCell ⟨w.heap.size + 1, 8, none⟩ (.slice none 0 0)) := ⟨_, rfl⟩
    have HV : Hid (V = _) := hV
    have HE : Hid _ := house_put kR2 (.bool false) (.int .i64 0) (.slice none 0 0) (.int .i64 0) (.slice none 0 0) (.slice none 0 0) (.slice none 0 0) (.slice none 0 0) (.slice none 0 0) hV
    have uV := HE.out.2
    have p0 := at_cell kR2 0
    have p1 := at_cell kR2 1
    have p2 := at_cell kR2 2
    have p3 := at_cell kR2 3
    have p4 := at_cell kR2 4
    have p5 := at_cell kR2 5
    have p6 := at_cell kR2 6
    have p7 := at_cell kR2 7
    have p8 := at_cell kR2 8
    have f0 := at_open kR2 0
    have f1 := at_open kR2 1
    have f2 := at_open kR2 2
    have f3 := at_open kR2 3
    have f4 := at_open kR2 4
    have f5 := at_open kR2 5
    have f6 := at_open kR2 6
    have f7 := at_open kR2 7
    have f8 := at_open kR2 8
    have HF : Hid _ := And.intro (OwnH0.zero w.heap.size V) (D2.trans (uV.toBelow D2.size (Nat.le_succ _)))
    clear hV uV kR2 hfy kR lp b5
    go_wp2_with fail
    rw [← HV.out]
    refine bodyPost_ret (v := .tuple #[.agg #[.bool false, .int .i64 0, .slice none 0 0, .int .i64 0, .slice none 0 0, .slice none 0 0, .slice none 0 0, .slice none 0 0, .slice none 0 0], .bool false]) (by simp [results, Tryz.results8, go_sem, at_cell HE.out.1]) rfl ?_
    exact ⟨none, 0, none, 0, none, 0, none, 0, none, 0, none, 0, rfl, HF.out.1, (fun g h => by rcases h with h | h <;> cases h), HF.out.2⟩
end Go.Proofs.YtibhepekmihagaaGreatDoor

namespace Go.Proofs.YtibhepekmihagaaGreatDoor
open Go.RowKit

set_option linter.unusedVariables false

set_option maxRecDepth 100000


/-- p: the store (an index beyond the operations where there is none); sV: the slot of its value. -/
structure RZ (ops : Array Oper) (p sV : Nat) (G : Value → World → World) (R : Nat → Value → World → Prop) (a0 : Act) (W : World) (L : Array Bool) (a : Act) (x X : World) : Prop where
  df : a.defers = a0.defers
  sz : a.tmps.size = a0.tmps.size
  old : ∀ s, ops.toList.all (fun o => o.dst != some s) = true → a.tmps.getD s undef = a0.tmps.getD s undef
  rel : ∀ j s, L.getD j false = true → ((ops[j]?).bind (·.dst)) = some s → R j (a.tmps.getD s undef) X
  bel : Below W.heap.size W X
  pre : L.getD p false = false → x = X
  fin : L.getD p false = true → x = G (a.tmps.getD sV undef) X

def RZs (ops : Array Oper) (p sV : Nat) (G : Value → World → World) (R : Nat → Value → World → Prop) (a0 : Act) (W : World) (L : Array Bool) (a : Act) (x : World) : Prop := ∃ X, RZ ops p sV G R a0 W L a x X

theorem RZs.start (ops : Array Oper) (p sV : Nat) (G : Value → World → World) (R : Nat → Value → World → Prop) (a0 : Act) (W : World) : RZs ops p sV G R a0 W (Array.replicate ops.size false) a0 W.drew := by
  have hn : ∀ j, (Array.replicate ops.size false).getD j false = false := fun j => by
    rw [Array.getD_eq_getD_getElem?, Array.getElem?_replicate]
    split <;> rfl
  exact ⟨W.drew, rfl, rfl, fun _ _ => rfl, (fun j s h => by rw [hn] at h; cases h), bw_drew (Below.refl _ _), fun _ => rfl, (fun h => by rw [hn] at h; cases h)⟩

/-- An operation ahead of the store: it answers, and may make memory. -/
theorem RZ.val {ops : Array Oper} {p sV : Nat} {G : Value → World → World} {R : Nat → Value → World → Prop} {a0 : Act} {W : World} {L : Array Bool} {a : Act} {x X : World} (h : RZ ops p sV G R a0 W L a x X) (i s : Nat) (v : Value) (x' : World) (hp : i ≠ p) (hi : ((ops[i]?).bind (·.dst)) = some s) (hs : s < a0.tmps.size) (hd : (ops.toList.all (fun o => o.dst != some s)) = false) (hu : uniqB ops s i = true)
    (hn : L.getD p false = false) (hb : Below x.heap.size x x') (hv : R i v x') (hm : ∀ j u, R j u x → R j u x') : RZs ops p sV G R a0 W (L.setIfInBounds i true) (a.put (some s) v) x' := by
  obtain rfl := h.pre hn
  refine ⟨x', h.df, by show (a.tmps.setIfInBounds s v).size = _; rw [Array.size_setIfInBounds]; exact h.sz, fun r hr => ?_, fun j r hj hr => ?_, bw_call h.bel hb, fun _ => rfl, fun hl => by rw [getD_other hp, hn] at hl; cases hl⟩
  · have hne : s ≠ r := fun e => by subst e; rw [hd] at hr; cases hr
    exact (tmps_other v hne).trans (h.old r hr)
  · show R j ((a.tmps.setIfInBounds s v).getD r undef) x'
    by_cases e : i = j
    · subst e
      rw [hi] at hr
      cases hr
      rw [tmps_self v (by rw [h.sz]; exact hs)]
      exact hv
    · have hne : s ≠ r := fun e2 => by subst e2; exact e (uniq_of hu j hr).symm
      rw [tmps_other v hne]
      rw [getD_other e] at hj
      exact hm _ _ (h.rel j r hj hr)

/-- An operation that answers and makes nothing, ahead of the store or behind it. -/
theorem RZ.put {ops : Array Oper} {p sV : Nat} {G : Value → World → World} {R : Nat → Value → World → Prop} {a0 : Act} {W : World} {L : Array Bool} {a : Act} {x X : World} (h : RZ ops p sV G R a0 W L a x X) (i s : Nat) (v : Value) (hp : i ≠ p) (hi : ((ops[i]?).bind (·.dst)) = some s) (hs : s < a0.tmps.size) (hd : (ops.toList.all (fun o => o.dst != some s)) = false) (hu : uniqB ops s i = true)
    (hV : s ≠ sV) (hv : R i v X) : RZs ops p sV G R a0 W (L.setIfInBounds i true) (a.put (some s) v) x := by
  refine ⟨X, h.df, by show (a.tmps.setIfInBounds s v).size = _; rw [Array.size_setIfInBounds]; exact h.sz, fun r hr => ?_, fun j r hj hr => ?_, h.bel, fun hl => h.pre (by rwa [getD_other hp] at hl), fun hl => ?_⟩
  · have hne : s ≠ r := fun e => by subst e; rw [hd] at hr; cases hr
    exact (tmps_other v hne).trans (h.old r hr)
  · show R j ((a.tmps.setIfInBounds s v).getD r undef) X
    by_cases e : i = j
    · subst e
      rw [hi] at hr
      cases hr
      rw [tmps_self v (by rw [h.sz]; exact hs)]
      exact hv
    · have hne : s ≠ r := fun e2 => by subst e2; exact e (uniq_of hu j hr).symm
      rw [tmps_other v hne]
      rw [getD_other e] at hj
      exact h.rel j r hj hr
  · rw [getD_other hp] at hl
    show x = G ((a.tmps.setIfInBounds s v).getD sV undef) X
    rw [tmps_other v hV]
    exact h.fin hl

theorem RZ.store {ops : Array Oper} {p sV : Nat} {G : Value → World → World} {R : Nat → Value → World → Prop} {a0 : Act} {W : World} {L : Array Bool} {a : Act} {x X : World} (h : RZ ops p sV G R a0 W L a x X) (hp : p < L.size) (hn : L.getD p false = false) (hd : ((ops[p]?).bind (·.dst)) = none) {y : World} (hy : y = G (a.tmps.getD sV undef) x) : RZs ops p sV G R a0 W (L.setIfInBounds p true) a y := by
  obtain rfl := h.pre hn
  refine ⟨x, h.df, h.sz, h.old, fun j r hj hr => ?_, h.bel, fun hl => ?_, fun _ => hy⟩
  · by_cases e : p = j
    · subst e; rw [hd] at hr; cases hr
    · rw [getD_other e] at hj
      exact h.rel j r hj hr
  · rw [getD_self hp] at hl; cases hl

theorem RZ.frame {ops : Array Oper} {p sV : Nat} {G : Value → World → World} {R : Nat → Value → World → Prop} {a0 : Act} {W : World} {L : Array Bool} {a : Act} {x X : World} (h : RZ ops p sV G R a0 W L a x X) (S : List Nat) (hS : frameB ops S a0.tmps.size = true) : a = Act.puts a0 (fun s => a.tmps.getD s undef) S := by
  have hd : a.defers = (Act.puts a0 (fun s => a.tmps.getD s undef) S).defers := by rw [puts_defers]; exact h.df
  have ht : a.tmps = (Act.puts a0 (fun s => a.tmps.getD s undef) S).tmps := by
    refine arr_ext (by rw [puts_size]; exact h.sz) (fun r hr => ?_)
    rw [puts_at _ S a0 r (by rw [← h.sz]; exact hr)]
    by_cases hm : r ∈ S
    · rw [if_pos hm]
    · rw [if_neg hm]
      exact h.old r (frame_of hS r (by rw [← h.sz]; exact hr) hm)
  generalize Act.puts a0 (fun s => a.tmps.getD s undef) S = b at hd ht
  cases a
  cases b
  simp only at hd ht
  rw [hd, ht]
end Go.Proofs.YtibhepekmihagaaGreatDoor

