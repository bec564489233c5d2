/-
  Contracts and plain laws, one chapter behind the other.
-/
import Derived.Deep.DeepCutAuto
import Derived.Laws.Cover1
import Derived.Test.YtibhepekmihagaaGreatDoorM06
import Derived.Test.YtibhepekmihagaaGreatDoorM07
import Derived.Test.YtibhepekmihagaaGreatDoorM10
import Derived.Test.YtibhepekmihagaaGreatDoorM13
import Derived.Test.YtibhepekmihagaaGreatDoorM14
import Derived.Test.YtibhepekmihagaaGreatDoorM22
import Derived.Test.YtibhepekmihagaaGreatDoorM24
namespace Go.Proofs.YtibhepekmihagaaGreatDoor
open Go.RowKit

set_option linter.unusedVariables false

set_option maxRecDepth 100000


theorem eqMsgS_nil (o o' : Option Addr) (c c' : Nat) (w : World) : Calls Tryz.prog 71 #[.slice o 0 c, .slice o' 0 c'] w fun e w' => e = .returned (.bool true) ∧ w' = w := by
  go_enter Tryz.func71, Tryz.ntmps71
  go_wp2_with fail
  refine wp_loop_rounds 1 ?_
  rw [rounds_succ]
  go_wp2_with fail
  go_ret
  exact ⟨rfl, rfl⟩

theorem eqEventS_nil (o o' : Option Addr) (c c' : Nat) (w : World) : Calls Tryz.prog 73 #[.slice o 0 c, .slice o' 0 c'] w fun e w' => e = .returned (.bool true) ∧ w' = w := by
  go_enter Tryz.func73, Tryz.ntmps73
  go_wp2_with fail
  refine wp_loop_rounds 1 ?_
  rw [rounds_succ]
  go_wp2_with fail
  go_ret
  exact ⟨rfl, rfl⟩

theorem markMsgS_nil (o : Option Addr) (c : Nat) (k : Int) (w : World) : Calls Tryz.prog 76 #[.slice o 0 c, .int .i64 k] w fun e w' => e = .returned (.int .i64 k) ∧ w' = w := by
  go_enter Tryz.func76, Tryz.ntmps76
  go_wp2_with fail
  refine wp_loop_rounds 1 ?_
  rw [rounds_succ]
  go_wp2_with fail
  go_ret
  exact ⟨rfl, rfl⟩

theorem heldMsgS_nil (o : Option Addr) (c : Nat) (k : Int) (w : World) : Calls Tryz.prog 81 #[.slice o 0 c, .int .i64 k] w fun e w' => e = .returned (.int .i64 k) ∧ w' = w := by
  go_enter Tryz.func81, Tryz.ntmps81
  go_wp2_with fail
  refine wp_loop_rounds 1 ?_
  rw [rounds_succ]
  go_wp2_with fail
  go_ret
  exact ⟨rfl, rfl⟩

theorem markEventS_nil (o : Option Addr) (c : Nat) (k : Int) (w : World) : Calls Tryz.prog 78 #[.slice o 0 c, .int .i64 k] w fun e w' => e = .returned (.int .i64 k) ∧ w' = w := by
  go_enter Tryz.func78, Tryz.ntmps78
  go_wp2_with fail
  refine wp_loop_rounds 1 ?_
  rw [rounds_succ]
  go_wp2_with fail
  go_ret
  exact ⟨rfl, rfl⟩

theorem heldEventS_nil (o : Option Addr) (c : Nat) (k : Int) (w : World) : Calls Tryz.prog 83 #[.slice o 0 c, .int .i64 k] w fun e w' => e = .returned (.int .i64 k) ∧ w' = w := by
  go_enter Tryz.func83, Tryz.ntmps83
  go_wp2_with fail
  refine wp_loop_rounds 1 ?_
  rw [rounds_succ]
  go_wp2_with fail
  go_ret
  exact ⟨rfl, rfl⟩

structure RWd (B : Nat) (w : World) (vh vm vc : Value) (hs : List Hw) (ms : List Int) (cs : List Cl) : Prop where
  h : ReadsH B w vh hs
  m : RVw B w vm ms
  c : ReadsR 8 clC B w vc cs

theorem RWd.below {B : Nat} {w w' : World} {vh vm vc : Value} {hs : List Hw} {ms : List Int} {cs : List Cl} (r : RWd B w vh vm vc hs ms cs) (d : Below B w w') : RWd B w' vh vm vc hs ms cs := ⟨r.h.below d, r.m.below d, r.c.below d⟩

theorem RWd.mono {B B' : Nat} {w : World} {vh vm vc : Value} {hs : List Hw} {ms : List Int} {cs : List Cl} (r : RWd B w vh vm vc hs ms cs) (d : B ≤ B') : RWd B' w vh vm vc hs ms cs := ⟨r.h.mono d, r.m.mono d, r.c.mono d⟩

/-- A world of one's own. -/
structure OwnWd (base : Nat) (w : World) (vh vm vc : Value) (hs : List Hw) (ms : List Int) (cs : List Cl) : Prop where
  h : OwnHs base w vh hs
  m : OwnVw base w vm ms
  c : w.ownsRow base 152 8 vc cs.length (cs.flatMap clC)
  a : ∀ h ∈ hs, ∀ i, h.In i → vm.ownBlock ≠ some i

theorem OwnWd.below {base : Nat} {w w' : World} {vh vm vc : Value} {hs : List Hw} {ms : List Int} {cs : List Cl} (o : OwnWd base w vh vm vc hs ms cs) (d : Below w.heap.size w w') : OwnWd base w' vh vm vc hs ms cs := ⟨o.h.below d, o.m.below d, owns_below o.c d, o.a⟩

theorem OwnWd.mono {base base' : Nat} {w : World} {vh vm vc : Value} {hs : List Hw} {ms : List Int} {cs : List Cl} (o : OwnWd base w vh vm vc hs ms cs) (d : base' ≤ base) : OwnWd base' w vh vm vc hs ms cs := ⟨o.h.mono d, o.m.mono d, owns_mono o.c d, o.a⟩

theorem OwnWd.reads {base : Nat} {w : World} {vh vm vc : Value} {hs : List Hw} {ms : List Int} {cs : List Cl} (o : OwnWd base w vh vm vc hs ms cs) : RWd w.heap.size w vh vm vc hs ms cs := ⟨o.h.reads, o.m.reads, ReadsR.of_own clC_len o.c⟩

theorem OwnWd.nil (base : Nat) (w : World) : OwnWd base w (.slice none 0 0) (.slice none 0 0) (.slice none 0 0) [] [] [] := ⟨OwnHs.nil _ _, ⟨owns_nil _ _ _ _⟩, owns_nil _ _ _ _, fun h hh => by cases hh⟩

set_option maxHeartbeats 1600000 in
theorem eqWorld_same (n : Int) (oh : Option Addr) (nh ch : Nat) (om : Option Addr) (nm cm : Nat) (oc : Option Addr) (nc cc : Nat) (oh' : Option Addr) (nh' ch' : Nat) (om' : Option Addr) (nm' cm' : Nat) (oc' : Option Addr) (nc' cc' : Nat) (hs hs' : List Hw) (ms : List Int) (cs : List Cl) (w : World) (hp : hs'.map Hw.pl = hs.map Hw.pl) (h0 : ∀ h ∈ hs, h.ac = 0) (r : RWd w.heap.size w (.slice oh nh ch) (.slice om nm cm) (.slice oc nc cc) hs ms cs) (r' : RWd w.heap.size w (.slice oh' nh' ch') (.slice om' nm' cm') (.slice oc' nc' cc') hs' ms cs) :
    Calls Tryz.prog 30 #[.agg #[.slice oh nh ch, .int .i64 n, .slice om nm cm, .slice none 0 0, .slice oc nc cc, .slice none 0 0], .agg #[.slice oh' nh' ch', .int .i64 n, .slice om' nm' cm', .slice none 0 0, .slice oc' nc' cc', .slice none 0 0]] w fun e w' => e = .returned (.bool true) ∧ Below w.heap.size w w' := by
  obtain ⟨W0, hW0, k0, k1, d0, z0⟩ := box2 w #[.slice oh nh ch, .int .i64 n, .slice om nm cm, .slice none 0 0, .slice oc nc cc, .slice none 0 0] #[.slice oh' nh' ch', .int .i64 n, .slice om' nm' cm', .slice none 0 0, .slice oc' nc' cc', .slice none 0 0] 71 71
  have HW0 : Hid (W0 = _) := hW0
  have r0 := (r.below d0).mono d0.size
  have r1 := (r'.below d0).mono d0.size
  have HP : Hid _ := hp
  have H0 : Hid _ := h0
  have p0 := at_cell k0 0
  have p1 := at_cell k0 1
  have p2 := at_cell k0 2
  have p3 := at_cell k0 3
  have p4 := at_cell k0 4
  have p5 := at_cell k0 5
  have q0 := at_cell k1 0
  have q1 := at_cell k1 1
  have q2 := at_cell k1 2
  have q3 := at_cell k1 3
  have q4 := at_cell k1 4
  have q5 := at_cell k1 5
  clear hW0 z0 r r' hp h0
  go_enter Tryz.func30, Tryz.ntmps30
  go_upto_region 1 with fail
  rw [← HW0.out]
  clear HW0
  go_wp2_with fail
  refine (eqHouses_same _ _ hs hs' _ HP.out H0.out r0.h r1.h).mono ?_
  rintro e w1 ⟨rfl, b1⟩
  replace k0 := (b1.block _ (heap_lt k0)).trans k0
  replace k1 := (b1.block _ (heap_lt k1)).trans k1
  replace r0 := (r0.below b1).mono b1.size
  replace r1 := (r1.below b1).mono b1.size
  replace d0 := bw_call d0 b1
  clear b1 p0 p1 p2 p3 p4 p5 q0 q1 q2 q3 q4 q5
  have p0 := at_cell k0 0
  have p1 := at_cell k0 1
  have p2 := at_cell k0 2
  have p3 := at_cell k0 3
  have p4 := at_cell k0 4
  have p5 := at_cell k0 5
  have q0 := at_cell k1 0
  have q1 := at_cell k1 1
  have q2 := at_cell k1 2
  have q3 := at_cell k1 3
  have q4 := at_cell k1 4
  have q5 := at_cell k1 5
  go_wp2_with fail
  refine (eqView_any n n _ _ ms ms _ r0.m r1.m).mono ?_
  rw [show (decide (n = n) && decide (ms = ms)) = true by simp]
  rintro e w2 ⟨rfl, b1⟩
  replace k0 := (b1.block _ (heap_lt k0)).trans k0
  replace k1 := (b1.block _ (heap_lt k1)).trans k1
  replace r0 := (r0.below b1).mono b1.size
  replace r1 := (r1.below b1).mono b1.size
  replace d0 := bw_call d0 b1
  clear b1 p0 p1 p2 p3 p4 p5 q0 q1 q2 q3 q4 q5
  have p0 := at_cell k0 0
  have p1 := at_cell k0 1
  have p2 := at_cell k0 2
  have p3 := at_cell k0 3
  have p4 := at_cell k0 4
  have p5 := at_cell k0 5
  have q0 := at_cell k1 0
  have q1 := at_cell k1 1
  have q2 := at_cell k1 2
  have q3 := at_cell k1 3
  have q4 := at_cell k1 4
  have q5 := at_cell k1 5
  go_wp2_with fail
  refine (eqMsgS_nil none none 0 0 _).mono ?_
  rintro e w3 ⟨rfl, rfl⟩
  go_wp2_with fail
  refine (eqClients_same _ _ cs _ r0.c r1.c).mono ?_
  rintro e w4 ⟨rfl, b1⟩
  replace k0 := (b1.block _ (heap_lt k0)).trans k0
  replace k1 := (b1.block _ (heap_lt k1)).trans k1
  replace r0 := (r0.below b1).mono b1.size
  replace r1 := (r1.below b1).mono b1.size
  replace d0 := bw_call d0 b1
  clear b1 p0 p1 p2 p3 p4 p5 q0 q1 q2 q3 q4 q5
  have p0 := at_cell k0 0
  have p1 := at_cell k0 1
  have p2 := at_cell k0 2
  have p3 := at_cell k0 3
  have p4 := at_cell k0 4
  have p5 := at_cell k0 5
  have q0 := at_cell k1 0
  have q1 := at_cell k1 1
  have q2 := at_cell k1 2
  have q3 := at_cell k1 3
  have q4 := at_cell k1 4
  have q5 := at_cell k1 5
  go_wp2_with fail
  refine (eqEventS_nil none none 0 0 _).mono ?_
  rintro e w5 ⟨rfl, rfl⟩
  clear k0 k1 r0 r1 p0 p1 p2 p3 p4 p5 q0 q1 q2 q3 q4 q5
  go_wp2_with fail
  go_ret
  exact ⟨rfl, d0⟩

set_option maxHeartbeats 800000 in
theorem markViewO_any (n : Int) (v : Value) (ms : List Int) (lo : Nat) (k : Int) (w : World) (hk : 0 ≤ k) (hc : ms.length ≤ 1048576) (hk2 : k ≤ 1073741824) (own : OwnVw lo w v ms) (hlo : lo ≤ w.heap.size) :
    Calls Tryz.prog 75 #[.agg #[.int .i64 n, v], .int .i64 k] w fun e w' => e = .returned (.int .i64 (k + ms.length)) ∧ OwnVw lo w' v (marksI k ms.length) ∧ Only (fun i => v.ownBlock = some i) w w' := by
  obtain ⟨W0, hW0, k0, d0, z0⟩ := box1 w #[.int .i64 n, v] 66
  have own0 := own.below d0
  have HW0 : Hid (W0 = _) := hW0
  clear hW0 own
  have p1 := at_cell k0 1
  go_enter Tryz.func75, Tryz.ntmps75
  go_wp2_with fail
  rw [← HW0.out]
  clear HW0
  refine (markedIRow_any v ms.length lo k _ _ hk (by omega) (by omega) own0.c).mono ?_
  rintro e w1 ⟨rfl, o1, b1, s1, f1⟩
  have R1 : Only (fun i => v.ownBlock = some i) w w1 := ((Only.refl _ w).below d0).trans (only_of b1 s1 f1)
  have HO : Hid (OwnVw lo w1 v (marksI k ms.length)) := ⟨by rw [marksI_length]; exact o1⟩
  clear f1 k0 own0 b1 d0 o1 p1
  go_wp2_with fail
  go_ret
  exact ⟨rfl, HO.out, R1⟩

def wdE (k : Int) (hs : List Hw) (ms : List Int) (cs : List Cl) : Int := marksHE k hs + ms.length + 8 * cs.length

/-- A world that is marked from k on. -/
structure OwnWM (base : Nat) (w : World) (vh vm vc : Value) (hs : List Hw) (ms : List Int) (cs : List Cl) (k : Int) : Prop where
  h : OwnHMs base w vh hs k
  m : OwnVw base w vm (marksI (marksHE k hs) ms.length)
  c : w.ownsRow base 152 8 vc (marksC (marksHE k hs + ms.length) cs.length).length ((marksC (marksHE k hs + ms.length) cs.length).flatMap clC)

theorem OwnWM.below {base : Nat} {w w' : World} {vh vm vc : Value} {hs : List Hw} {ms : List Int} {cs : List Cl} {k : Int} (o : OwnWM base w vh vm vc hs ms cs k) (d : Below w.heap.size w w') : OwnWM base w' vh vm vc hs ms cs k := ⟨o.h.below d, o.m.below d, owns_below o.c d⟩

/-- What marking a world turns. -/
def InWd (vh vm vc : Value) (hs : List Hw) (i : Nat) : Prop := InHs vh hs i ∨ vm.ownBlock = some i ∨ vc.ownBlock = some i

theorem OwnWd.span {base : Nat} {w : World} {vh vm vc : Value} {hs : List Hw} {ms : List Int} {cs : List Cl} (o : OwnWd base w vh vm vc hs ms cs) : ∀ i, InWd vh vm vc hs i → base ≤ i ∧ i < w.heap.size := by
  rintro i ((e | ⟨h, hh, e⟩) | e | e)
  · exact o.h.row.lt i e
  · exact (o.h.own h hh).span i e
  · exact o.m.c.lt i e
  · exact o.c.lt i e

theorem OwnWd.notBox {base c : Nat} {w : World} {vh vm vc : Value} {hs : List Hw} {ms : List Int} {cs : List Cl} {zs : Array Value} (o : OwnWd base w vh vm vc hs ms cs) (k : w.heap[c]? = some (.cells zs 71 (0, 0))) : ¬ InWd vh vm vc hs c := by
  rintro ((e | ⟨h, hh, e⟩) | e | e)
  · exact own_not_box o.h.row k (by decide) e
  · exact (o.h.own h hh).notBox k (by decide) (by decide) (by decide) (by decide) e
  · exact own_not_box o.m.c k (by decide) e
  · exact own_not_box o.c k (by decide) e

set_option maxHeartbeats 1600000 in
theorem markWorld_any (n : Int) (oh : Option Addr) (nh ch : Nat) (om : Option Addr) (nm cm : Nat) (oc : Option Addr) (nc cc : Nat) (hs : List Hw) (ms : List Int) (cs : List Cl) (base : Nat) (k : Int) (w : World) (hk : 0 ≤ k) (hk2 : wdE k hs ms cs ≤ 1048576) (hz : ∀ h ∈ hs, h.st.s.cs.length ≤ 1048576 ∧ h.st.s.ps.length ≤ 1048576 ∧ h.st.ts.length ≤ 1048576 ∧ h.st.rs.length ≤ 1048576) (own : OwnWd base w (.slice oh nh ch) (.slice om nm cm) (.slice oc nc cc) hs ms cs) (hbase : base ≤ w.heap.size) :
    Calls Tryz.prog 31 #[.agg #[.slice oh nh ch, .int .i64 n, .slice om nm cm, .slice none 0 0, .slice oc nc cc, .slice none 0 0], .int .i64 k] w fun e w' => e = .returned (.int .i64 (wdE k hs ms cs)) ∧ OwnWM base w' (.slice oh nh ch) (.slice om nm cm) (.slice oc nc cc) hs ms cs k ∧ Only (InWd (.slice oh nh ch) (.slice om nm cm) (.slice oc nc cc) hs) w w' := by
  obtain ⟨W0, hW0, k0, d0, z0⟩ := box1 w #[.slice oh nh ch, .int .i64 n, .slice om nm cm, .slice none 0 0, .slice oc nc cc, .slice none 0 0] 71
  have HW0 : Hid (W0 = _) := hW0
  have own0 := own.below d0
  have HNB : Hid _ := own0.notBox k0
  have hb0 : base ≤ W0.heap.size := by omega
  have O0 : Only (InWd (.slice oh nh ch) (.slice om nm cm) (.slice oc nc cc) hs) w W0 := (Only.refl _ w).below d0
  have HZ : Hid _ := hz
  unfold wdE at hk2 ⊢
  have hge := marksHE_ge hs k
  have p0 := at_cell k0 0
  have p1 := at_cell k0 1
  have p2 := at_cell k0 2
  have p3 := at_cell k0 3
  have p4 := at_cell k0 4
  have p5 := at_cell k0 5
  clear hW0 own z0 d0 hz
  go_enter Tryz.func31, Tryz.ntmps31
  go_upto_region 1 with fail
  rw [← HW0.out]
  clear HW0
  go_wp2_with fail
  refine (markHouses_any _ base k hs _ hk (by omega) HZ.out own0.h hb0).mono ?_
  rintro e w1 ⟨rfl, oh1, on1⟩
  have k1 := (on1.block _ (heap_lt k0) (fun h => HNB.out (.inl h))).trans k0
  have m1 : OwnVw base w1 (.slice om nm cm) ms := ⟨own_only own0.m.c on1 (fun q hq e => by
    rcases e with e | ⟨h, hh, e⟩
    · exact rows_two own0.m.c own0.h.row (by decide) q hq e
    · exact own0.a h hh q e hq)⟩
  have c1 := own_only own0.c on1 (fun q hq e => by
    rcases e with e | ⟨h, hh, e⟩
    · exact rows_two own0.c own0.h.row (by decide) q hq e
    · exact (own0.h.own h hh).notRow own0.c (by decide) (by decide) (by decide) (by decide) q e hq)
  have O1 := O0.trans (on1.mono (fun i h => .inl h))
  have HA : Hid _ := own0.a
  have hb1 : base ≤ w1.heap.size := Nat.le_trans hb0 on1.size
  clear k0 own0 O0 on1 hb0 p0 p1 p2 p3 p4 p5
  have p0 := at_cell k1 0
  have p1 := at_cell k1 1
  have p2 := at_cell k1 2
  have p3 := at_cell k1 3
  have p4 := at_cell k1 4
  have p5 := at_cell k1 5
  go_wp2_with fail
  refine (markViewO_any n _ ms base (marksHE k hs) _ (by omega) (by omega) (by omega) m1 hb1).mono ?_
  rintro e w2 ⟨rfl, m2, on2⟩
  have hmb := own_not_box m1.c k1 (by decide)
  have k2 := (on2.block _ (heap_lt k1) hmb).trans k1
  have c2 := own_only c1 on2 (fun q hq e => rows_two m1.c c1 (by decide) q e hq)
  have h2 : OwnHMs base w2 (.slice oh nh ch) hs k := ⟨own_only oh1.row on2 (fun q hq e => rows_two m1.c oh1.row (by decide) q e hq), fun i hi => (oh1.own i hi).only on2 (fun q hq e => HA.out hs[i] (List.getElem_mem hi) q hq e)⟩
  have O2 := O1.trans (on2.mono (fun i h => .inr (.inl h)))
  have hb2 : base ≤ w2.heap.size := Nat.le_trans hb1 on2.size
  clear k1 m1 c1 oh1 O1 on2 hb1 hmb HA p0 p1 p2 p3 p4 p5
  have p0 := at_cell k2 0
  have p1 := at_cell k2 1
  have p2 := at_cell k2 2
  have p3 := at_cell k2 3
  have p4 := at_cell k2 4
  have p5 := at_cell k2 5
  go_wp2_with fail
  refine (markMsgS_nil none 0 _ _).mono ?_
  rintro e w3 ⟨rfl, rfl⟩
  go_wp2_with fail
  clear p0 p1 p2 p3 p4 p5
  have hnc := c2.1
  refine (markClients_any _ base (marksHE k hs + (ms.length : Int)) cs _ (by omega) (by omega) (by omega) c2).mono ?_
  rintro e w4 ⟨rfl, c4, on4⟩
  have hcb := own_not_box c2 k2 (by decide)
  have k4 := (on4.block _ (heap_lt k2) hcb).trans k2
  have m4 : OwnVw base w4 (.slice om nm cm) (marksI (marksHE k hs) ms.length) := ⟨own_only m2.c on4 (fun q hq e => rows_two c2 m2.c (by decide) q e hq)⟩
  have h4 : OwnHMs base w4 (.slice oh nh ch) hs k := ⟨own_only h2.row on4 (fun q hq e => rows_two c2 h2.row (by decide) q e hq), fun i hi => (h2.own i hi).only on4 (fun q hq e => (h2.own i hi).notRow c2 (by decide) (by decide) (by decide) (by decide) q hq e)⟩
  have O4 := O2.trans (on4.mono (fun i h => .inr (.inr h)))
  have HF : Hid (OwnWM base w4 (.slice oh nh ch) (.slice om nm cm) (.slice oc nc cc) hs ms cs k) := ⟨h4, m4, c4⟩
  have p5 := at_cell k4 5
  clear k2 k4 c2 c4 m2 m4 h2 h4 O2 on4 hcb hb2 hnc
  go_wp2_with fail
  refine (markEventS_nil none 0 _ _).mono ?_
  rintro e w5 ⟨rfl, rfl⟩
  clear p5
  go_wp2_with fail
  go_ret
  exact ⟨rfl, HF.out, O4⟩

set_option maxHeartbeats 1600000 in
theorem heldWorld_any (n : Int) (oh : Option Addr) (nh ch : Nat) (om : Option Addr) (nm cm : Nat) (oc : Option Addr) (nc cc : Nat) (hs : List Hw) (ms : List Int) (cs : List Cl) (base : Nat) (k : Int) (w : World) (hk : 0 ≤ k) (hk2 : wdE k hs ms cs ≤ 1048576) (hz : ∀ h ∈ hs, h.st.s.cs.length ≤ 1048576 ∧ h.st.s.ps.length ≤ 1048576 ∧ h.st.ts.length ≤ 1048576 ∧ h.st.rs.length ≤ 1048576) (own : OwnWM base w (.slice oh nh ch) (.slice om nm cm) (.slice oc nc cc) hs ms cs k) :
    Calls Tryz.prog 32 #[.agg #[.slice oh nh ch, .int .i64 n, .slice om nm cm, .slice none 0 0, .slice oc nc cc, .slice none 0 0], .int .i64 k] w fun e w' => e = .returned (.int .i64 (wdE k hs ms cs)) ∧ Below w.heap.size w w' := by
  obtain ⟨W0, hW0, k0, d0, z0⟩ := box1 w #[.slice oh nh ch, .int .i64 n, .slice om nm cm, .slice none 0 0, .slice oc nc cc, .slice none 0 0] 71
  have HW0 : Hid (W0 = _) := hW0
  have own0 := own.below d0
  have HZ : Hid _ := hz
  unfold wdE at hk2 ⊢
  have hge := marksHE_ge hs k
  have n0 : ¬ marksHE k hs < 0 := by omega
  have n1 : ¬ marksHE k hs + (ms.length : Int) < 0 := by omega
  have n2 : ¬ marksHE k hs + (ms.length : Int) + 8 * (cs.length : Int) < 0 := by omega
  have p0 := at_cell k0 0
  have p1 := at_cell k0 1
  have p2 := at_cell k0 2
  have p3 := at_cell k0 3
  have p4 := at_cell k0 4
  have p5 := at_cell k0 5
  clear hW0 own z0 hz
  go_enter Tryz.func32, Tryz.ntmps32
  go_upto_region 1 with fail
  rw [← HW0.out]
  clear HW0
  go_wp2_with fail
  refine (heldHouses_any _ base k hs _ hk (by omega) HZ.out own0.h).mono ?_
  rintro e w1 ⟨rfl, b1⟩
  replace k0 := (b1.block _ (heap_lt k0)).trans k0
  replace own0 := own0.below b1
  replace d0 := bw_call d0 b1
  clear b1 p0 p1 p2 p3 p4 p5
  have p0 := at_cell k0 0
  have p1 := at_cell k0 1
  have p2 := at_cell k0 2
  have p3 := at_cell k0 3
  have p4 := at_cell k0 4
  have p5 := at_cell k0 5
  go_wp2_with fail
  refine (heldView_any n _ ms.length (marksHE k hs) _ (by omega) (by omega) (by omega) own0.m.reads).mono ?_
  rintro e w2 ⟨rfl, b1⟩
  replace k0 := (b1.block _ (heap_lt k0)).trans k0
  replace own0 := own0.below b1
  replace d0 := bw_call d0 b1
  clear b1 p0 p1 p2 p3 p4 p5
  have p0 := at_cell k0 0
  have p1 := at_cell k0 1
  have p2 := at_cell k0 2
  have p3 := at_cell k0 3
  have p4 := at_cell k0 4
  have p5 := at_cell k0 5
  go_wp2_with fail
  refine (heldMsgS_nil none 0 _ _).mono ?_
  rintro e w3 ⟨rfl, rfl⟩
  go_wp2_with fail
  refine (heldClients_any _ cs.length (marksHE k hs + (ms.length : Int)) _ (by omega) (by omega) (by omega) (ReadsR.of_own clC_len own0.c)).mono ?_
  rintro e w4 ⟨rfl, b1⟩
  replace k0 := (b1.block _ (heap_lt k0)).trans k0
  replace own0 := own0.below b1
  replace d0 := bw_call d0 b1
  clear b1 p0 p1 p2 p3 p4 p5
  have p0 := at_cell k0 0
  have p1 := at_cell k0 1
  have p2 := at_cell k0 2
  have p3 := at_cell k0 3
  have p4 := at_cell k0 4
  have p5 := at_cell k0 5
  go_wp2_with fail
  refine (heldEventS_nil none 0 _ _).mono ?_
  rintro e w5 ⟨rfl, rfl⟩
  clear k0 own0 p0 p1 p2 p3 p4 p5
  go_wp2_with fail
  go_ret
  exact ⟨rfl, d0⟩
end Go.Proofs.YtibhepekmihagaaGreatDoor

namespace Go.Proofs.YtibhepekmihagaaGreatDoor
open Go.RowKit

set_option linter.unusedVariables false

set_option maxRecDepth 100000

set_option maxHeartbeats 1600000 in
theorem specNewShelf_any (n : Int) (w : World) :
    Calls Tryz.prog 92 #[.int .i64 n] w fun e w' => ∃ u1 u2 : Value, e = .returned (.tuple #[.agg #[u1, u2, .slice none 0 0], .bool (newPool n).2]) ∧ OwnP w.heap.size w' u1 u2 (newPool n).1.1 (newPool n).1.2 ∧ Below w.heap.size w w' := by
  obtain ⟨W0, hW0, k0, d0, z0⟩ := box1 w #[.slice none 0 0, .slice none 0 0, .slice none 0 0] 28
  have HW0 : Hid (W0 = _) := hW0
  have l0 := heap_lt k0
  clear hW0 z0
  go_enter Tryz.func92, Tryz.ntmps92
  go_wp2_with fail
  rw [← HW0.out]
  clear HW0
  refine (specNewPool_any n _).mono ?_
  rintro e w1 ⟨u1, u2, rfl, own, b1⟩
  replace k0 := (b1.block _ l0).trans k0
  replace d0 := bw_call d0 b1
  obtain ⟨⟨⟨zc, zp⟩, made⟩, hz⟩ : ∃ x, newPool n = x := ⟨_, rfl⟩
  have HZ : Hid (newPool n = ((zc, zp), made)) := hz
  rw [hz] at own ⊢
  simp only at own ⊢
  clear hz
  obtain ⟨o1, c1, e1⟩ := own_slice own.c
  obtain ⟨o2, c2, e2⟩ := own_slice own.p
  subst e1 e2
  have hlt : w.heap.size < w1.heap.size := Nat.lt_of_lt_of_le l0 b1.size
  have u : Upto w.heap.size w1 (((w1.setCell ⟨w.heap.size, 0, none⟩ (.slice o1 zc.length c1)).setCell ⟨w.heap.size, 1, none⟩ (.slice o2 zp.length c2)).setCell ⟨w.heap.size, 2, none⟩ (.slice none 0 0)) := (((Upto.refl _ _).setCell ⟨w.heap.size, 0, none⟩ (.inl rfl) _).setCell ⟨w.heap.size, 1, none⟩ (.inl rfl) _).setCell ⟨w.heap.size, 2, none⟩ (.inl rfl) _
  have k3 := set_at (set_at (set_at k0 0 (.slice o1 zc.length c1)) 1 (.slice o2 zp.length c2)) 2 (.slice none 0 0)
  have own3 := own.upto u l0
  have d3 := d0.trans (u.toBelow (by omega) (Nat.le_refl _))
  have bP : Below (((w1.setCell ⟨w.heap.size, 0, none⟩ (.slice o1 zc.length c1)).setCell ⟨w.heap.size, 1, none⟩ (.slice o2 zp.length c2)).setCell ⟨w.heap.size, 2, none⟩ (.slice none 0 0)).heap.size (((w1.setCell ⟨w.heap.size, 0, none⟩ (.slice o1 zc.length c1)).setCell ⟨w.heap.size, 1, none⟩ (.slice o2 zp.length c2)).setCell ⟨w.heap.size, 2, none⟩ (.slice none 0 0)) ((((w1.setCell ⟨w.heap.size, 0, none⟩ (.slice o1 zc.length c1)).setCell ⟨w.heap.size, 1, none⟩ (.slice o2 zp.length c2)).setCell ⟨w.heap.size, 2, none⟩ (.slice none 0 0)).alloc (.cells #[.slice o1 zc.length c1, .slice o2 zp.length c2] 25)) := bw_alloc (Below.refl _ _)
  have HS : Hid _ := And.intro ((bP.block _ (heap_lt k3)).trans k3) (And.intro ((own3.below bP).mono (Nat.le_of_lt l0)) (bw_call d3 bP))
  have q0 := at_cell k0 0
  have q1 := at_cell k0 1
  have q2 := at_cell k0 2
  have f0 := at_open k0 0
  have f1 := at_open k0 1
  have f2 := at_open k0 2
  clear bP d3 own3 k3 u own d0 k0 b1
  go_wp2_with fail
  exact bodyPost_ret (v := .tuple #[.agg #[.slice o1 zc.length c1, .slice o2 zp.length c2, .slice none 0 0], .bool made]) (by simp [results, Tryz.results92, go_sem, at_cell HS.out.1]) rfl ⟨.slice o1 zc.length c1, .slice o2 zp.length c2, by rw [HZ.out], by rw [HZ.out]; exact HS.out.2.1, HS.out.2.2⟩
end Go.Proofs.YtibhepekmihagaaGreatDoor

