/-
  Contracts and plain laws, one chapter behind the other.
-/
import Derived.Tactics2
import Derived.ScopeJumps
import Derived.WalkMore
import Derived.Deep.Cut
import Derived.Deep.RegionLaw
import Derived.Test.YtgabhnhfomekfaaM06
import Derived.Test.YtgabhnhfomekfaaM07
import Derived.Test.YtgabhnhfomekfaaM10
import Derived.Test.YtgabhnhfomekfaaM37
namespace Go.Proofs.Ytgabhnhfomekfaa
open Go.RowKit

set_option linter.unusedVariables false

set_option maxRecDepth 100000


theorem six_two16 (x0 x1 x2 x3 x4 x5 z4 z5 : Value) : ((#[x0, x1, x2, x3, x4, x5].setIfInBounds 1 z4).setIfInBounds 2 z5) = #[x0, z4, z5, x3, x4, x5] := by
  apply Array.toList_inj.1
  simp only [Array.toList_setIfInBounds, List.set_cons_zero, List.set_cons_succ]

theorem six_all16 (x0 x1 x2 x3 x4 x5 z0 z1 z2 z3 z4 z5 : Value) : ((((((#[x0, x1, x2, x3, x4, x5].setIfInBounds 0 z0).setIfInBounds 1 z1).setIfInBounds 2 z2).setIfInBounds 3 z3).setIfInBounds 4 z4).setIfInBounds 5 z5) = #[z0, z1, z2, z3, z4, z5] := by
  apply Array.toList_inj.1
  simp only [Array.toList_setIfInBounds, List.set_cons_zero, List.set_cons_succ]

theorem nine_six (x0 x1 x2 x3 x4 x5 x6 x7 x8 z3 z4 z5 z6 z7 z8 : Value) : ((((((#[x0, x1, x2, x3, x4, x5, x6, x7, x8].setIfInBounds 3 z3).setIfInBounds 4 z4).setIfInBounds 5 z5).setIfInBounds 6 z6).setIfInBounds 7 z7).setIfInBounds 8 z8) = #[x0, x1, x2, z3, z4, z5, z6, z7, z8] := by
  apply Array.toList_inj.1
  simp only [Array.toList_setIfInBounds, List.set_cons_zero, List.set_cons_succ]

theorem nine_all (x0 x1 x2 x3 x4 x5 x6 x7 x8 z0 z1 z2 z3 z4 z5 z6 z7 z8 : Value) : (((((((((#[x0, x1, x2, x3, x4, x5, x6, x7, x8].setIfInBounds 0 z0).setIfInBounds 1 z1).setIfInBounds 2 z2).setIfInBounds 3 z3).setIfInBounds 4 z4).setIfInBounds 5 z5).setIfInBounds 6 z6).setIfInBounds 7 z7).setIfInBounds 8 z8) = #[z0, z1, z2, z3, z4, z5, z6, z7, z8] := by
  apply Array.toList_inj.1
  simp only [Array.toList_setIfInBounds, List.set_cons_zero, List.set_cons_succ]

theorem six_at16 {W : World} {b : Nat} {T : TypeId} {x0 x1 x2 x3 x4 x5 : Value} (k : W.heap[b]? = some (.cells #[x0, x1, x2, x3, x4, x5] T (0, 0))) (z0 z1 z2 z3 z4 z5 : Value) :
    ((((((W.setCell ⟨b, 0, none⟩ z0).setCell ⟨b, 1, none⟩ z1).setCell ⟨b, 2, none⟩ z2).setCell ⟨b, 3, none⟩ z3).setCell ⟨b, 4, none⟩ z4).setCell ⟨b, 5, none⟩ z5).heap[b]? = some (.cells #[z0, z1, z2, z3, z4, z5] T (0, 0)) := by
  have h := set_at (set_at (set_at (set_at (set_at (set_at k 0 z0) 1 z1) 2 z2) 3 z3) 4 z4) 5 z5
  rw [six_all16] at h
  exact h

theorem nine_at {W : World} {b : Nat} {T : TypeId} {x0 x1 x2 x3 x4 x5 x6 x7 x8 : Value} (k : W.heap[b]? = some (.cells #[x0, x1, x2, x3, x4, x5, x6, x7, x8] T (0, 0))) (z0 z1 z2 z3 z4 z5 z6 z7 z8 : Value) :
    (((((((((W.setCell ⟨b, 0, none⟩ z0).setCell ⟨b, 1, none⟩ z1).setCell ⟨b, 2, none⟩ z2).setCell ⟨b, 3, none⟩ z3).setCell ⟨b, 4, none⟩ z4).setCell ⟨b, 5, none⟩ z5).setCell ⟨b, 6, none⟩ z6).setCell ⟨b, 7, none⟩ z7).setCell ⟨b, 8, none⟩ z8).heap[b]? = some (.cells #[z0, z1, z2, z3, z4, z5, z6, z7, z8] T (0, 0)) := by
  have h := set_at (set_at (set_at (set_at (set_at (set_at (set_at (set_at (set_at k 0 z0) 1 z1) 2 z2) 3 z3) 4 z4) 5 z5) 6 z6) 7 z7) 8 z8
  rw [nine_all] at h
  exact h

/-- How a copy of an op ends: its box, the answer's. -/
theorem owno_end {w w6 : World} {b0 b1 : Nat} {e0 e3 e4 e5 : Value} {n1 n2 : ByteArray} {z0 z1 z2 z3 z4 z5 : Value} (k0 : w6.heap[b0]? = some (.cells #[e0, (.string n1), (.string n2), e3, e4, e5] 32 (0, 0))) (k1 : w6.heap[b1]? = some (.cells #[z0, z1, z2, z3, z4, z5] 32 (0, 0))) (hne : b0 ≠ b1) (h0 : w.heap.size ≤ b0) (h1 : w.heap.size ≤ b1) (d : Below w.heap.size w w6) :
    let W := (w6.setCell ⟨b0, 1, none⟩ (.string n1)).setCell ⟨b0, 2, none⟩ (.string n2)
    let V := (((((W.setCell ⟨b1, 0, none⟩ e0).setCell ⟨b1, 1, none⟩ (.string n1)).setCell ⟨b1, 2, none⟩ (.string n2)).setCell ⟨b1, 3, none⟩ e3).setCell ⟨b1, 4, none⟩ e4).setCell ⟨b1, 5, none⟩ e5
    W.heap[b0]? = some (.cells #[e0, (.string n1), (.string n2), e3, e4, e5] 32 (0, 0)) ∧ W.heap[b1]? = some (.cells #[z0, z1, z2, z3, z4, z5] 32 (0, 0)) ∧ V.heap[b1]? = some (.cells #[e0, (.string n1), (.string n2), e3, e4, e5] 32 (0, 0)) ∧ Below w.heap.size w V := by
  intro W V
  have uW : Upto b0 w6 W := ((Upto.refl _ _).setCell ⟨b0, 1, none⟩ (.inl rfl) _).setCell ⟨b0, 2, none⟩ (.inl rfl) _
  have uV : Upto b1 W V := ((((((Upto.refl _ _).setCell ⟨b1, 0, none⟩ (.inl rfl) _).setCell ⟨b1, 1, none⟩ (.inl rfl) _).setCell ⟨b1, 2, none⟩ (.inl rfl) _).setCell ⟨b1, 3, none⟩ (.inl rfl) _).setCell ⟨b1, 4, none⟩ (.inl rfl) _).setCell ⟨b1, 5, none⟩ (.inl rfl) _
  have kW : W.heap[b0]? = some (.cells #[e0, (.string n1), (.string n2), e3, e4, e5] 32 (0, 0)) := by
    have h := set_at (set_at k0 1 (.string n1)) 2 (.string n2)
    rw [six_two16] at h
    exact h
  have kW1 : W.heap[b1]? = some (.cells #[z0, z1, z2, z3, z4, z5] 32 (0, 0)) := (uW.block _ (heap_lt k1) (fun e => hne e.symm)).trans k1
  have l6 := heap_lt k0
  have z6 := uW.size
  have d6 := d.size
  exact ⟨kW, kW1, six_at16 kW1 _ _ _ _ _ _, (d.trans (uW.toBelow d6 h0)).trans (uV.toBelow (by omega) h1)⟩

/-- How a copy of an entry ends: its box, the answer's. -/
theorem owne_end {w w6 W : World} {b0 b1 : Nat} {e0 e1 e2 e3 e6 e7 e8 : Value} {n1 n2 : ByteArray} {z0 z1 z2 z3 z4 z5 z6 z7 z8 : Value} (k0 : w6.heap[b0]? = some (.cells #[e0, e1, e2, e3, (.string n1), (.string n2), e6, e7, e8] 34 (0, 0))) (k1 : w6.heap[b1]? = some (.cells #[z0, z1, z2, z3, z4, z5, z6, z7, z8] 34 (0, 0))) (hne : b0 ≠ b1) (h0 : w.heap.size ≤ b0) (h1 : w.heap.size ≤ b1) (d : Below w.heap.size w w6) (hW : W = (((((w6.setCell ⟨b0, 3, none⟩ e3).setCell ⟨b0, 4, none⟩ (.string n1)).setCell ⟨b0, 5, none⟩ (.string n2)).setCell ⟨b0, 6, none⟩ e6).setCell ⟨b0, 7, none⟩ e7).setCell ⟨b0, 8, none⟩ e8) :
    let V := ((((((((W.setCell ⟨b1, 0, none⟩ e0).setCell ⟨b1, 1, none⟩ e1).setCell ⟨b1, 2, none⟩ e2).setCell ⟨b1, 3, none⟩ e3).setCell ⟨b1, 4, none⟩ (.string n1)).setCell ⟨b1, 5, none⟩ (.string n2)).setCell ⟨b1, 6, none⟩ e6).setCell ⟨b1, 7, none⟩ e7).setCell ⟨b1, 8, none⟩ e8
    W.heap[b0]? = some (.cells #[e0, e1, e2, e3, (.string n1), (.string n2), e6, e7, e8] 34 (0, 0)) ∧ W.heap[b1]? = some (.cells #[z0, z1, z2, z3, z4, z5, z6, z7, z8] 34 (0, 0)) ∧ V.heap[b1]? = some (.cells #[e0, e1, e2, e3, (.string n1), (.string n2), e6, e7, e8] 34 (0, 0)) ∧ Below w.heap.size w V := by
  intro V
  subst hW
  have uW : Upto b0 w6 ((((((w6.setCell ⟨b0, 3, none⟩ e3).setCell ⟨b0, 4, none⟩ (.string n1)).setCell ⟨b0, 5, none⟩ (.string n2)).setCell ⟨b0, 6, none⟩ e6).setCell ⟨b0, 7, none⟩ e7).setCell ⟨b0, 8, none⟩ e8) := ((((((Upto.refl _ _).setCell ⟨b0, 3, none⟩ (.inl rfl) _).setCell ⟨b0, 4, none⟩ (.inl rfl) _).setCell ⟨b0, 5, none⟩ (.inl rfl) _).setCell ⟨b0, 6, none⟩ (.inl rfl) _).setCell ⟨b0, 7, none⟩ (.inl rfl) _).setCell ⟨b0, 8, none⟩ (.inl rfl) _
  have uV : Upto b1 ((((((w6.setCell ⟨b0, 3, none⟩ e3).setCell ⟨b0, 4, none⟩ (.string n1)).setCell ⟨b0, 5, none⟩ (.string n2)).setCell ⟨b0, 6, none⟩ e6).setCell ⟨b0, 7, none⟩ e7).setCell ⟨b0, 8, none⟩ e8) V := (((((((((Upto.refl _ _).setCell ⟨b1, 0, none⟩ (.inl rfl) _).setCell ⟨b1, 1, none⟩ (.inl rfl) _).setCell ⟨b1, 2, none⟩ (.inl rfl) _).setCell ⟨b1, 3, none⟩ (.inl rfl) _).setCell ⟨b1, 4, none⟩ (.inl rfl) _).setCell ⟨b1, 5, none⟩ (.inl rfl) _).setCell ⟨b1, 6, none⟩ (.inl rfl) _).setCell ⟨b1, 7, none⟩ (.inl rfl) _).setCell ⟨b1, 8, none⟩ (.inl rfl) _
  have kW : ((((((w6.setCell ⟨b0, 3, none⟩ e3).setCell ⟨b0, 4, none⟩ (.string n1)).setCell ⟨b0, 5, none⟩ (.string n2)).setCell ⟨b0, 6, none⟩ e6).setCell ⟨b0, 7, none⟩ e7).setCell ⟨b0, 8, none⟩ e8).heap[b0]? = some (.cells #[e0, e1, e2, e3, (.string n1), (.string n2), e6, e7, e8] 34 (0, 0)) := by
    have h := set_at (set_at (set_at (set_at (set_at (set_at k0 3 e3) 4 (.string n1)) 5 (.string n2)) 6 e6) 7 e7) 8 e8
    rw [nine_six] at h
    exact h
  have kW1 : ((((((w6.setCell ⟨b0, 3, none⟩ e3).setCell ⟨b0, 4, none⟩ (.string n1)).setCell ⟨b0, 5, none⟩ (.string n2)).setCell ⟨b0, 6, none⟩ e6).setCell ⟨b0, 7, none⟩ e7).setCell ⟨b0, 8, none⟩ e8).heap[b1]? = some (.cells #[z0, z1, z2, z3, z4, z5, z6, z7, z8] 34 (0, 0)) := (uW.block _ (heap_lt k1) (fun e => hne e.symm)).trans k1
  have l6 := heap_lt k0
  have z6 := uW.size
  have d6 := d.size
  exact ⟨kW, kW1, nine_at kW1 _ _ _ _ _ _ _ _ _, (d.trans (uW.toBelow d6 h0)).trans (uV.toBelow (by omega) h1)⟩

set_option maxHeartbeats 6400000 in
theorem ownOp_any (k at_ va ep : Int) (nm ot : ByteArray) (w : World) (hn : nm.size ≤ 1099511627776) (ho : ot.size ≤ 1099511627776) :
    Calls Try.prog 59 #[.agg #[.int .i64 k, .string nm, .string ot, .int .i64 at_, .int .i64 va, .int .i64 ep]] w fun e w' => e = .returned (.agg #[.int .i64 k, .string nm, .string ot, .int .i64 at_, .int .i64 va, .int .i64 ep]) ∧ Below w.heap.size w w' := by
  obtain ⟨W0, hW0, k0, k1, d0, z0⟩ := box2 w #[.int .i64 k, .string nm, .string ot, .int .i64 at_, .int .i64 va, .int .i64 ep] #[.int .i64 0, .string ⟨#[]⟩, .string ⟨#[]⟩, .int .i64 0, .int .i64 0, .int .i64 0] 32 32
  have HW0 : Hid (W0 = _) := hW0
  have l0 := heap_lt k0
  have l1 := heap_lt k1
  have S4 : W0.drew.cell? ⟨w.heap.size, 1, none⟩ = some (.string nm) := at_cell k0 1
  have S5 : W0.drew.cell? ⟨w.heap.size, 2, none⟩ = some (.string ot) := at_cell k0 2
  clear hW0
  go_enter Try.func59, Try.ntmps59
  go_upto_region 1 with fail
  rw [← HW0.out]
  clear HW0
  go_region_law (first
      | (have q := b5; clear q; go_simp; go_at_call 65; refine (clone_any ot _ ho).mono ?_; rintro e w6 ⟨rfl, b6⟩; have k60 := (b6.block _ (heap_lt k50)).trans k50; have k61 := (b6.block _ (heap_lt k51)).trans k51; have U4 := at_cell k60 1; have U5 := at_cell k60 2; have f4 := at_open k60 1; have f5 := at_open k60 2; dsimp only)
      | (go_simp; go_at_call 65; refine (clone_any nm _ hn).mono ?_; rintro e w5 ⟨rfl, b5⟩; have k50 := (b5.block _ (show w.heap.size < W0.heap.size by omega)).trans k0; have k51 := (b5.block _ (show w.heap.size + 1 < W0.heap.size by omega)).trans k1; have T4 := at_cell k50 1; have T5 := at_cell k50 2; dsimp only))
  all_goals
    have HE : Hid _ := owno_end (w := w) (n1 := nm) (n2 := ot) k60 k61 (by omega) (Nat.le_refl _) (by omega) (bw_call (bw_call (bw_drew d0) b5) b6)
    have q0 := at_cell HE.out.1 0
    have q1 := at_cell HE.out.1 1
    have q2 := at_cell HE.out.1 2
    have q3 := at_cell HE.out.1 3
    have q4 := at_cell HE.out.1 4
    have q5 := at_cell HE.out.1 5
    have g0 := at_open HE.out.2.1 0
    have g1 := at_open HE.out.2.1 1
    have g2 := at_open HE.out.2.1 2
    have g3 := at_open HE.out.2.1 3
    have g4 := at_open HE.out.2.1 4
    have g5 := at_open HE.out.2.1 5
    have p0 := at_cell HE.out.2.1 0
    have p1 := at_cell HE.out.2.1 1
    have p2 := at_cell HE.out.2.1 2
    have p3 := at_cell HE.out.2.1 3
    have p4 := at_cell HE.out.2.1 4
    have p5 := at_cell HE.out.2.1 5
    clear U4 U5 f4 f5 T4 T5 S4 S5 k0 k1 k50 k51 k60 k61 b5 b6
    go_wp2_with fail
    exact bodyPost_ret (v := .agg #[.int .i64 k, .string nm, .string ot, .int .i64 at_, .int .i64 va, .int .i64 ep]) (by simp [results, Try.results59, go_sem, at_cell HE.out.2.2.1]) rfl ⟨rfl, HE.out.2.2.2⟩

set_option maxHeartbeats 6400000 in
theorem ownEntry_any (sq cl tg k at_ va ep : Int) (nm ot : ByteArray) (w : World) (hn : nm.size ≤ 1099511627776) (ho : ot.size ≤ 1099511627776) :
    Calls Try.prog 46 #[.agg #[.int .i64 sq, .int .i64 cl, .int .i64 tg, .int .i64 k, .string nm, .string ot, .int .i64 at_, .int .i64 va, .int .i64 ep]] w fun e w' => e = .returned (.agg #[.int .i64 sq, .int .i64 cl, .int .i64 tg, .int .i64 k, .string nm, .string ot, .int .i64 at_, .int .i64 va, .int .i64 ep]) ∧ Below w.heap.size w w' := by
  obtain ⟨W0, hW0, k0, k1, d0, z0⟩ := box2 w #[.int .i64 sq, .int .i64 cl, .int .i64 tg, .int .i64 k, .string nm, .string ot, .int .i64 at_, .int .i64 va, .int .i64 ep] #[.int .i64 0, .int .i64 0, .int .i64 0, .int .i64 0, .string ⟨#[]⟩, .string ⟨#[]⟩, .int .i64 0, .int .i64 0, .int .i64 0] 34 34
  have HW0 : Hid (W0 = _) := hW0
  have l0 := heap_lt k0
  have l1 := heap_lt k1
  have S3 := at_cell k0 3
  have S4 := at_cell k0 4
  have S5 := at_cell k0 5
  have S6 := at_cell k0 6
  have S7 := at_cell k0 7
  have S8 := at_cell k0 8
  clear hW0
  go_enter Try.func46, Try.ntmps46
  go_upto_region 1 with fail
  rw [← HW0.out]
  clear HW0
  go_upto_region 2 with (go_at_call 59; refine (ownOp_any k at_ va ep nm ot _ hn ho).mono ?_; rintro e w6 ⟨rfl, b6⟩; have k60 := (b6.block _ (show w.heap.size < W0.heap.size by omega)).trans k0; have k61 := (b6.block _ (show w.heap.size + 1 < W0.heap.size by omega)).trans k1; have U3 := at_cell k60 3; have f3 := at_open k60 3; have U4 := at_cell k60 4; have f4 := at_open k60 4; have U5 := at_cell k60 5; have f5 := at_open k60 5; have U6 := at_cell k60 6; have f6 := at_open k60 6; have U7 := at_cell k60 7; have f7 := at_open k60 7; have U8 := at_cell k60 8; have f8 := at_open k60 8)
  obtain ⟨W, hW⟩ : ∃ W : World, W = (((((w6.setCell ⟨w.heap.size, 3, none⟩ (.int .i64 k)).setCell ⟨w.heap.size, 4, none⟩ (.string nm)).setCell ⟨w.heap.size, 5, none⟩ (.string ot)).setCell ⟨w.heap.size, 6, none⟩ (.int .i64 at_)).setCell ⟨w.heap.size, 7, none⟩ (.int .i64 va)).setCell ⟨w.heap.size, 8, none⟩ (.int .i64 ep) := ⟨_, rfl⟩
  have HE : Hid _ := owne_end (w := w) (n1 := nm) (n2 := ot) k60 k61 (by omega) (Nat.le_refl _) (by omega) (bw_call d0 b6) hW
  rw [← hW]
  have q0 := at_cell HE.out.1 0
  have q1 := at_cell HE.out.1 1
  have q2 := at_cell HE.out.1 2
  have q3 := at_cell HE.out.1 3
  have q4 := at_cell HE.out.1 4
  have q5 := at_cell HE.out.1 5
  have q6 := at_cell HE.out.1 6
  have q7 := at_cell HE.out.1 7
  have q8 := at_cell HE.out.1 8
  have g0 := at_open HE.out.2.1 0
  have g1 := at_open HE.out.2.1 1
  have g2 := at_open HE.out.2.1 2
  have g3 := at_open HE.out.2.1 3
  have g4 := at_open HE.out.2.1 4
  have g5 := at_open HE.out.2.1 5
  have g6 := at_open HE.out.2.1 6
  have g7 := at_open HE.out.2.1 7
  have g8 := at_open HE.out.2.1 8
  have p0 := at_cell HE.out.2.1 0
  have p1 := at_cell HE.out.2.1 1
  have p2 := at_cell HE.out.2.1 2
  have p3 := at_cell HE.out.2.1 3
  have p4 := at_cell HE.out.2.1 4
  have p5 := at_cell HE.out.2.1 5
  have p6 := at_cell HE.out.2.1 6
  have p7 := at_cell HE.out.2.1 7
  have p8 := at_cell HE.out.2.1 8
  clear hW k0 k1 k60 k61 b6 U3 U4 U5 U6 U7 U8 f3 f4 f5 f6 f7 f8 S3 S4 S5 S6 S7 S8
  go_wp2_with fail
  exact bodyPost_ret (v := .agg #[.int .i64 sq, .int .i64 cl, .int .i64 tg, .int .i64 k, .string nm, .string ot, .int .i64 at_, .int .i64 va, .int .i64 ep]) (by simp [results, Try.results46, go_sem, at_cell HE.out.2.2.1]) rfl ⟨rfl, HE.out.2.2.2⟩
end Go.Proofs.Ytgabhnhfomekfaa

