/-
  Contracts and plain laws, one chapter behind the other.
-/
import Derived.Test.YtibhepekmihagaaGreatDoorM18
import Derived.Test.YtibhepekmihagaaGreatDoorM21
import Derived.Test.YtibhepekmihagaaGreatDoorM27
namespace Go.Proofs.YtibhepekmihagaaGreatDoor
open Go.RowKit

set_option linter.unusedVariables false

set_option maxRecDepth 100000

set_option linter.unusedSimpArgs false


theorem house_log_arr (x0 x1 x2 x3 x4 x5 x6 x7 x8 z2 : Value) : (#[x0, x1, x2, x3, x4, x5, x6, x7, x8].setIfInBounds 2 z2) = #[x0, x1, z2, x3, x4, x5, x6, x7, x8] := by
  apply Array.toList_inj.1
  simp only [Array.toList_setIfInBounds, List.set_cons_zero, List.set_cons_succ]

theorem house_log {W V : World} {R : Nat} {x0 x1 x2 x3 x4 x5 x6 x7 x8 : Value} (kR : W.heap[R]? = some (.cells #[x0, x1, x2, x3, x4, x5, x6, x7, x8] 33 (0, 0))) (z2 : Value) (hV : V = W.setCell ⟨R, 2, none⟩ z2) :
    V.heap[R]? = some (.cells #[x0, x1, z2, x3, x4, x5, x6, x7, x8] 33 (0, 0)) ∧ Upto R W V := by
  subst hV
  have h := set_at kR 2 z2
  rw [house_log_arr] at h
  exact ⟨h, (Upto.refl R W).setCell ⟨R, 2, none⟩ (.inl rfl) z2⟩

theorem house_shelf_arr (x0 x1 x2 x3 x4 x5 x6 x7 x8 z4 z5 z6 : Value) : (((#[x0, x1, x2, x3, x4, x5, x6, x7, x8].setIfInBounds 4 z4).setIfInBounds 5 z5).setIfInBounds 6 z6) = #[x0, x1, x2, x3, z4, z5, z6, x7, x8] := by
  apply Array.toList_inj.1
  simp only [Array.toList_setIfInBounds, List.set_cons_zero, List.set_cons_succ]

theorem house_shelf {W V : World} {R : Nat} {x0 x1 x2 x3 x4 x5 x6 x7 x8 : Value} (kR : W.heap[R]? = some (.cells #[x0, x1, x2, x3, x4, x5, x6, x7, x8] 33 (0, 0))) (z4 z5 z6 : Value) (hV : V = ((W.setCell ⟨R, 4, none⟩ z4).setCell ⟨R, 5, none⟩ z5).setCell ⟨R, 6, none⟩ z6) :
    V.heap[R]? = some (.cells #[x0, x1, x2, x3, z4, z5, z6, x7, x8] 33 (0, 0)) ∧ Upto R W V := by
  subst hV
  have h := set_at (set_at (set_at kR 4 z4) 5 z5) 6 z6
  rw [house_shelf_arr] at h
  exact ⟨h, (((Upto.refl R W).setCell ⟨R, 4, none⟩ (.inl rfl) z4).setCell ⟨R, 5, none⟩ (.inl rfl) z5).setCell ⟨R, 6, none⟩ (.inl rfl) z6⟩

theorem house_memo_arr (x0 x1 x2 x3 x4 x5 x6 x7 x8 z7 z8 : Value) : ((#[x0, x1, x2, x3, x4, x5, x6, x7, x8].setIfInBounds 7 z7).setIfInBounds 8 z8) = #[x0, x1, x2, x3, x4, x5, x6, z7, z8] := by
  apply Array.toList_inj.1
  simp only [Array.toList_setIfInBounds, List.set_cons_zero, List.set_cons_succ]

theorem house_memo {W V : World} {R : Nat} {x0 x1 x2 x3 x4 x5 x6 x7 x8 : Value} (kR : W.heap[R]? = some (.cells #[x0, x1, x2, x3, x4, x5, x6, x7, x8] 33 (0, 0))) (z7 z8 : Value) (hV : V = (W.setCell ⟨R, 7, none⟩ z7).setCell ⟨R, 8, none⟩ z8) :
    V.heap[R]? = some (.cells #[x0, x1, x2, x3, x4, x5, x6, z7, z8] 33 (0, 0)) ∧ Upto R W V := by
  subst hV
  have h := set_at (set_at kR 7 z7) 8 z8
  rw [house_memo_arr] at h
  exact ⟨h, ((Upto.refl R W).setCell ⟨R, 7, none⟩ (.inl rfl) z7).setCell ⟨R, 8, none⟩ (.inl rfl) z8⟩

theorem world_houses_arr (x0 x1 x2 x3 x4 x5 z0 : Value) : (#[x0, x1, x2, x3, x4, x5].setIfInBounds 0 z0) = #[z0, x1, x2, x3, x4, x5] := by
  apply Array.toList_inj.1
  simp only [Array.toList_setIfInBounds, List.set_cons_zero, List.set_cons_succ]

theorem world_houses {W V : World} {R : Nat} {x0 x1 x2 x3 x4 x5 : Value} (kR : W.heap[R]? = some (.cells #[x0, x1, x2, x3, x4, x5] 71 (0, 0))) (z0 : Value) (hV : V = W.setCell ⟨R, 0, none⟩ z0) :
    V.heap[R]? = some (.cells #[z0, x1, x2, x3, x4, x5] 71 (0, 0)) ∧ Upto R W V := by
  subst hV
  have h := set_at kR 0 z0
  rw [world_houses_arr] at h
  exact ⟨h, (Upto.refl R W).setCell ⟨R, 0, none⟩ (.inl rfl) z0⟩

theorem world_members_arr (x0 x1 x2 x3 x4 x5 z2 : Value) : (#[x0, x1, x2, x3, x4, x5].setIfInBounds 2 z2) = #[x0, x1, z2, x3, x4, x5] := by
  apply Array.toList_inj.1
  simp only [Array.toList_setIfInBounds, List.set_cons_zero, List.set_cons_succ]

theorem world_members {W V : World} {R : Nat} {x0 x1 x2 x3 x4 x5 : Value} (kR : W.heap[R]? = some (.cells #[x0, x1, x2, x3, x4, x5] 71 (0, 0))) (z2 : Value) (hV : V = W.setCell ⟨R, 2, none⟩ z2) :
    V.heap[R]? = some (.cells #[x0, x1, z2, x3, x4, x5] 71 (0, 0)) ∧ Upto R W V := by
  subst hV
  have h := set_at kR 2 z2
  rw [world_members_arr] at h
  exact ⟨h, (Upto.refl R W).setCell ⟨R, 2, none⟩ (.inl rfl) z2⟩

theorem world_put_arr (x0 x1 x2 x3 x4 x5 z0 z1 z2 z3 z4 z5 : Value) : ((((((#[x0, x1, x2, x3, x4, x5].setIfInBounds 0 z0).setIfInBounds 1 z1).setIfInBounds 2 z2).setIfInBounds 3 z3).setIfInBounds 4 z4).setIfInBounds 5 z5) = #[z0, z1, z2, z3, z4, z5] := by
  apply Array.toList_inj.1
  simp only [Array.toList_setIfInBounds, List.set_cons_zero, List.set_cons_succ]

theorem world_put {W V : World} {R : Nat} {x0 x1 x2 x3 x4 x5 : Value} (kR : W.heap[R]? = some (.cells #[x0, x1, x2, x3, x4, x5] 71 (0, 0))) (z0 z1 z2 z3 z4 z5 : Value) (hV : V = (((((W.setCell ⟨R, 0, none⟩ z0).setCell ⟨R, 1, none⟩ z1).setCell ⟨R, 2, none⟩ z2).setCell ⟨R, 3, none⟩ z3).setCell ⟨R, 4, none⟩ z4).setCell ⟨R, 5, none⟩ z5) :
    V.heap[R]? = some (.cells #[z0, z1, z2, z3, z4, z5] 71 (0, 0)) ∧ Upto R W V := by
  subst hV
  have h := set_at (set_at (set_at (set_at (set_at (set_at kR 0 z0) 1 z1) 2 z2) 3 z3) 4 z4) 5 z5
  rw [world_put_arr] at h
  exact ⟨h, ((((((Upto.refl R W).setCell ⟨R, 0, none⟩ (.inl rfl) z0).setCell ⟨R, 1, none⟩ (.inl rfl) z1).setCell ⟨R, 2, none⟩ (.inl rfl) z2).setCell ⟨R, 3, none⟩ (.inl rfl) z3).setCell ⟨R, 4, none⟩ (.inl rfl) z4).setCell ⟨R, 5, none⟩ (.inl rfl) z5⟩

set_option maxHeartbeats 3200000 in
theorem l13Copy_nil (up : Bool) (pg : Int) (st : Rp) (lo : Option Addr) (lc : Nat) (o1 : Option Addr) (c1 : Nat) (o2 : Option Addr) (c2 : Nat) (o3 : Option Addr) (c3 : Nat) (o4 : Option Addr) (c4 : Nat) (o5 : Option Addr) (c5 : Nat) (w : World) (hts : st.ts.length = 4) (hrs : st.rs.length = 4) (hc : st.s.cs.length ≤ 1048576) (hp : st.s.ps.length ≤ 1048576) (r : RH0 w.heap.size w st lo lc o1 c1 o2 c2 o3 c3 o4 c4 o5 c5) :
    Calls Tryz.prog 66 #[.agg #[.bool up, .int .i64 pg, .slice lo 0 lc, .int .i64 0, .slice o1 st.s.cs.length c1, .slice o2 st.s.ps.length c2, .slice o3 0 c3, .slice o4 st.ts.length c4, .slice o5 st.rs.length c5]] w fun e w' => ∃ (lo' : Option Addr) (lc' : Nat) (o1' : Option Addr) (c1' : Nat) (o2' : Option Addr) (c2' : Nat) (o3' : Option Addr) (c3' : Nat) (o4' : Option Addr) (c4' : Nat) (o5' : Option Addr) (c5' : Nat), e = .returned (.agg #[.bool up, .int .i64 pg, .slice lo' 0 lc', .int .i64 0, .slice o1' st.s.cs.length c1', .slice o2' st.s.ps.length c2', .slice o3' 0 c3', .slice o4' st.ts.length c4', .slice o5' st.rs.length c5']) ∧ Hw.Own ⟨up, pg, 0, st, lo', lc', o1', c1', o2', c2', o3', c3', o4', c4', o5', c5'⟩ w.heap.size w' ∧ Hw.Ap ⟨up, pg, 0, st, lo', lc', o1', c1', o2', c2', o3', c3', o4', c4', o5', c5'⟩ ∧ Below w.heap.size w w' := by
  obtain ⟨i0, hi, hz0, hz1, hz2⟩ := info_parts Tryz.infoEntry
  obtain ⟨W0, hW0, k0, k1, d0, z0⟩ := box2 w #[.bool up, .int .i64 pg, .slice lo 0 lc, .int .i64 0, .slice o1 st.s.cs.length c1, .slice o2 st.s.ps.length c2, .slice o3 0 c3, .slice o4 st.ts.length c4, .slice o5 st.rs.length c5] #[.bool false, .int .i64 0, .slice none 0 0, .int .i64 0, .slice none 0 0, .slice none 0 0, .slice none 0 0, .slice none 0 0, .slice none 0 0] 33 33
  have HW0 : Hid (W0 = _) := hW0
  obtain ⟨W1, hW1, k3, d1, z1⟩ := box1 W0 #[.bool up, .int .i64 pg, .slice lo 0 lc, .int .i64 0, .slice o1 st.s.cs.length c1, .slice o2 st.s.ps.length c2, .slice o3 0 c3, .slice o4 st.ts.length c4, .slice o5 st.rs.length c5] 33
  have HW1 : Hid (W1 = _) := hW1
  have HTS : Hid (st.ts.length = 4) := hts
  have HRS : Hid (st.rs.length = 4) := hrs
  have l0 := heap_lt k0
  have l1 := heap_lt k1
  have k01 := (d1.block _ l0).trans k0
  have k11 := (d1.block _ l1).trans k1
  have l31 := heap_lt k3
  have own0 : (W1.alloc (.cells #[] 91)).ownsRow W1.heap.size 91 9 (.slice (some ⟨W1.heap.size, 0, none⟩) 0 0) 0 [] := World.ownsRow_lit W1 #[] 0 (Nat.le_refl _) (Nat.zero_le _) rfl
  have p0 := at_cell k0 0
  have p1 := at_cell k0 1
  have p2 := at_cell k0 2
  have p3 := at_cell k0 3
  have p4 := at_cell k0 4
  have p5 := at_cell k0 5
  have p6 := at_cell k0 6
  have p7 := at_cell k0 7
  have p8 := at_cell k0 8
  clear hW0 hW1 hts hrs z0 z1
  go_enter Tryz.func66, Tryz.ntmps66
  go_upto_region 1 with fail
  rw [← HW0.out]
  clear HW0
  go_upto_region 2 with fail
  rw [← HW1.out]
  clear HW1 p0 p1 p2 p3 p4 p5 p6 p7 p8
  have s2 : (W1.alloc (.cells #[] 91)).cell? ⟨w.heap.size, 2, none⟩ = some (.slice lo 0 lc) := ((bw_alloc (Below.refl _ _) (o := .cells #[] 91)).cell (p := ⟨w.heap.size, 2, none⟩) (show w.heap.size < W1.heap.size by omega)).trans (at_cell k01 2)
  go_wp2_with (at_builtin; refine wpList_append_reads rfl _ _ 22 rfl W1.heap.size 91 i0 (.agg #[.int .i64 0, .int .i64 0, .int .i64 0, .int .i64 0, .string ByteArray.empty, .string ByteArray.empty, .int .i64 0, .int .i64 0, .int .i64 0]) 9 88 Tryz.underlying22 hi hz0 hz1 hz2 rfl (by decide) _ 0 [] rfl own0 lo 0 lc [] rfl ?c0 ?c1 ?c2 ?c3 ?c4 ?c5 ?_)
  case c0 => simp
  case c1 => intro j u hj; simp at hj
  case c2 => intro u hu; cases hu
  case c3 => unfold maxLen; omega
  case c4 => omega
  case c5 => simp
  intro v' w2 hown hgrow hnil
  have hl2 : w2.ownsRow W1.heap.size 91 9 v' 0 [] := by simpa using hown
  obtain ⟨lo', lc', rfl⟩ := own_slice hl2
  have b2 : Below W1.heap.size W1 w2 := (bw_alloc (Below.refl _ _)).grown hgrow (by simp) (fun q hq => (own0.lt q hq).1)
  have k02 := (b2.block _ (show w.heap.size < W1.heap.size by omega)).trans k01
  have k12 := (b2.block _ (show w.heap.size + 1 < W1.heap.size by omega)).trans k11
  have k32 := (b2.block _ l31).trans k3
  obtain ⟨W3, hW3⟩ : ∃ W3 : World, W3 = w2.setCell ⟨W0.heap.size, 2, none⟩ (.slice lo' 0 lc') := ⟨_, rfl⟩
  have HW3 : Hid (W3 = _) := hW3
  obtain ⟨k33, u3⟩ := house_log k32 (.slice lo' 0 lc') hW3
  have k03 := (u3.block _ (heap_lt k02) (by omega)).trans k02
  have k13 := (u3.block _ (heap_lt k12) (by omega)).trans k12
  have D1 := bw_call d0 d1
  have D2 := bw_call D1 b2
  have D3 : Below w.heap.size w W3 := D2.trans (u3.toBelow D2.size (by omega))
  have lg3 := ownsRow_upto hl2 u3 (by omega)
  have q2 := at_cell k32 2
  have g2 := at_open k32 2
  clear s2 hown hgrow hnil own0 k0 k1 k3 k01 k11 d1 b2 k02 k12 hl2
  go_upto_region 3 with fail
  rw [← HW3.out]
  clear HW3 hW3 q2 g2 k32 u3
  have hsz3 : w.heap.size ≤ W3.heap.size := D3.size
  have p0 := at_cell k03 0
  have p1 := at_cell k03 1
  have p2 := at_cell k03 2
  have p3 := at_cell k03 3
  have p4 := at_cell k03 4
  have p5 := at_cell k03 5
  have p6 := at_cell k03 6
  have p7 := at_cell k03 7
  have p8 := at_cell k03 8
  have rr := (r.below D3).mono D3.size
  go_wp2_with fail
  refine (l8Copy_any (.slice o1 st.s.cs.length c1) (.slice o2 st.s.ps.length c2) (.slice o3 0 c3) st.s.cs st.s.ps [] _ hc hp (Nat.zero_le _) (fun b hb => by cases hb) rr.sh.p.c rr.sh.p.p rr.sh.b).mono ?_
  rintro e w4 ⟨v1, v2, vb, bks, rfl, op, ob, hbe, b4⟩
  obtain rfl := List.map_eq_nil_iff.1 hbe
  obtain ⟨o1', c1', rfl⟩ := own_slice op.c
  obtain ⟨o2', c2', rfl⟩ := own_slice op.p
  have ob0 : w4.ownsRow W3.heap.size 133 5 vb 0 [] := ob.row
  obtain ⟨o3', c3', rfl⟩ := own_slice ob0
  have k04 := (b4.block _ (heap_lt k03)).trans k03
  have k14 := (b4.block _ (heap_lt k13)).trans k13
  have k34 := (b4.block _ (heap_lt k33)).trans k33
  obtain ⟨W5, hW5⟩ : ∃ W5 : World, W5 = ((w4.setCell ⟨W0.heap.size, 4, none⟩ (.slice o1' st.s.cs.length c1')).setCell ⟨W0.heap.size, 5, none⟩ (.slice o2' st.s.ps.length c2')).setCell ⟨W0.heap.size, 6, none⟩ (.slice o3' 0 c3') := ⟨_, rfl⟩
  have HW5 : Hid (W5 = _) := hW5
  obtain ⟨k35, u5⟩ := house_shelf k34 (.slice o1' st.s.cs.length c1') (.slice o2' st.s.ps.length c2') (.slice o3' 0 c3') hW5
  have k05 := (u5.block _ (heap_lt k04) (by omega)).trans k04
  have k15 := (u5.block _ (heap_lt k14) (by omega)).trans k14
  have D4 := bw_call D3 b4
  have D5 : Below w.heap.size w W5 := D4.trans (u5.toBelow D4.size (by omega))
  have l3 : W0.heap.size < W3.heap.size := heap_lt k33
  have lg5 := ownsRow_upto (owns_below lg3 b4) u5 (by omega)
  have op5 := op.upto u5 l3
  have ob5 := ownsRow_upto ob0 u5 l3
  have z35 : W3.heap.size ≤ W5.heap.size := Nat.le_trans b4.size u5.size
  have hAP : ∀ g, ((Value.slice o1' st.s.cs.length c1').ownBlock = some g ∨ (Value.slice o2' st.s.ps.length c2').ownBlock = some g) → g < W5.heap.size := by
    rintro g (h | h)
    · exact (op5.c.lt g h).2
    · exact (op5.p.lt g h).2
  have q4 := at_cell k34 4
  have q5 := at_cell k34 5
  have q6 := at_cell k34 6
  have g4 := at_open k34 4
  have g5 := at_open k34 5
  have g6 := at_open k34 6
  clear p0 p1 p2 p3 p4 p5 p6 p7 p8 rr b4 op ob hbe k03 k13 k33 lg3 ob0 D3
  go_upto_region 4 with fail
  rw [← HW5.out]
  clear HW5 hW5 q4 q5 q6 g4 g5 g6 k34 u5 k04 k14
  have p0 := at_cell k05 0
  have p1 := at_cell k05 1
  have p2 := at_cell k05 2
  have p3 := at_cell k05 3
  have p4 := at_cell k05 4
  have p5 := at_cell k05 5
  have p6 := at_cell k05 6
  have p7 := at_cell k05 7
  have p8 := at_cell k05 8
  have rr := (r.below D5).mono D5.size
  go_wp2_with fail
  refine (l12Copy_any (.slice o4 st.ts.length c4) (.slice o5 st.rs.length c5) st.ts st.rs _ HTS.out HRS.out rr.mm).mono ?_
  rintro e w6 ⟨v4, v5, rfl, om, b6⟩
  obtain ⟨o4', c4', o5', c5', rfl, rfl⟩ := om.forms
  have k06 := (b6.block _ (heap_lt k05)).trans k05
  have k16 := (b6.block _ (heap_lt k15)).trans k15
  have k36 := (b6.block _ (heap_lt k35)).trans k35
  obtain ⟨W7, hW7⟩ : ∃ W7 : World, W7 = (w6.setCell ⟨W0.heap.size, 7, none⟩ (.slice o4' st.ts.length c4')).setCell ⟨W0.heap.size, 8, none⟩ (.slice o5' st.rs.length c5') := ⟨_, rfl⟩
  have HW7 : Hid (W7 = _) := hW7
  obtain ⟨k37, u7⟩ := house_memo k36 (.slice o4' st.ts.length c4') (.slice o5' st.rs.length c5') hW7
  have k17 := (u7.block _ (heap_lt k16) (by omega)).trans k16
  have D6 := bw_call D5 b6
  have D7 : Below w.heap.size w W7 := D6.trans (u7.toBelow D6.size (by omega))
  have l5 : W0.heap.size < W5.heap.size := heap_lt k35
  have lg7 := ownsRow_upto (owns_below lg5 b6) u7 (by omega)
  have op7 := (op5.below b6).upto u7 l3
  have ob7 := ownsRow_upto (owns_below ob5 b6) u7 l3
  have om7 := om.upto u7 l5
  have q7 := at_cell k36 7
  have q8 := at_cell k36 8
  have g7 := at_open k36 7
  have g8 := at_open k36 8
  clear p0 p1 p2 p3 p4 p5 p6 p7 p8 rr b6 k05 k15 k35 lg5 op5 ob5 D5 D4
  go_upto_region 5 with fail
  rw [← HW7.out]
  clear HW7 hW7 q7 q8 g7 g8 k36 u7 k06 k16
  obtain ⟨V, hV⟩ : ∃ V : World, V = ((((((((W7.setCell ⟨w.heap.size + 1, 0, none⟩ (.bool up)).setCell ⟨w.heap.size + 1, 1, none⟩ (.int .i64 pg)).setCell ⟨w.heap.size + 1, 2, none⟩ (.slice lo' 0 lc')).setCell ⟨w.heap.size + 1, 3, none⟩ (.int .i64 0)).setCell ⟨w.heap.size + 1, 4, none⟩ (.slice o1' st.s.cs.length c1')).setCell ⟨w.heap.size + 1, 5, none⟩ (.slice o2' st.s.ps.length c2')).setCell ⟨w.heap.size + 1, 6, none⟩ (.slice o3' 0 c3')).setCell ⟨w.heap.size + 1, 7, none⟩ (.slice o4' st.ts.length c4')).setCell ⟨w.heap.size + 1, 8, none⟩ (.slice o5' st.rs.length c5') := ⟨_, rfl⟩
  have HV : Hid (V = _) := hV
  have HE : Hid _ := house_put k17 (.bool up) (.int .i64 pg) (.slice lo' 0 lc') (.int .i64 0) (.slice o1' st.s.cs.length c1') (.slice o2' st.s.ps.length c2') (.slice o3' 0 c3') (.slice o4' st.ts.length c4') (.slice o5' st.rs.length c5') hV
  have uV := HE.out.2
  have lgV := ownsRow_upto lg7 uV (by omega)
  have opV := op7.upto uV (by omega)
  have obV := ownsRow_upto ob7 uV (by omega)
  have omV := om7.upto uV (by omega)
  have HX : Hid (Hw.Own ⟨up, pg, 0, st, lo', lc', o1', c1', o2', c2', o3', c3', o4', c4', o5', c5'⟩ w.heap.size V ∧ Hw.Ap ⟨up, pg, 0, st, lo', lc', o1', c1', o2', c2', o3', c3', o4', c4', o5', c5'⟩ ∧ Below w.heap.size w V) := by
    refine ⟨⟨owns_mono lgV (by omega), ⟨opV.mono (by omega), ⟨owns_mono obV (by omega), fun b hb => by cases hb⟩, List.Pairwise.nil⟩, omV.mono (by omega)⟩, ?_, D7.trans (uV.toBelow D7.size (by omega))⟩
    intro g h1 h2
    have := hAP g h1
    have := (om7.t.lt g h2).1
    omega
  have p0 := at_cell k37 0
  have p1 := at_cell k37 1
  have p2 := at_cell k37 2
  have p3 := at_cell k37 3
  have p4 := at_cell k37 4
  have p5 := at_cell k37 5
  have p6 := at_cell k37 6
  have p7 := at_cell k37 7
  have p8 := at_cell k37 8
  have q0 := at_cell k17 0
  have q1 := at_cell k17 1
  have q2 := at_cell k17 2
  have q3 := at_cell k17 3
  have q4 := at_cell k17 4
  have q5 := at_cell k17 5
  have q6 := at_cell k17 6
  have q7 := at_cell k17 7
  have q8 := at_cell k17 8
  have g0 := at_open k17 0
  have g1 := at_open k17 1
  have g2 := at_open k17 2
  have g3 := at_open k17 3
  have g4 := at_open k17 4
  have g5 := at_open k17 5
  have g6 := at_open k17 6
  have g7 := at_open k17 7
  have g8 := at_open k17 8
  clear hV k17 k37 lg7 op7 ob7 om7 lgV opV obV omV hAP uV
  go_wp2_with fail
  rw [← HV.out]
  refine bodyPost_ret (v := .agg #[.bool up, .int .i64 pg, .slice lo' 0 lc', .int .i64 0, .slice o1' st.s.cs.length c1', .slice o2' st.s.ps.length c2', .slice o3' 0 c3', .slice o4' st.ts.length c4', .slice o5' st.rs.length c5']) (by simp [results, Tryz.results66, go_sem, at_cell HE.out.1]) rfl ?_
  exact ⟨lo', lc', o1', c1', o2', c2', o3', c3', o4', c4', o5', c5', rfl, HX.out⟩
end Go.Proofs.YtibhepekmihagaaGreatDoor

