/-
  Contracts and plain laws, one chapter behind the other.
-/
import Derived.BigRegion
import Derived.Test.YtibhepekmihagaaGreatDoorM07
import Derived.Test.YtibhepekmihagaaGreatDoorM37
namespace Go.Proofs.YtibhepekmihagaaGreatDoor
open Go.RowKit

set_option linter.unusedVariables false

set_option maxRecDepth 100000


/-- A slice's value; a house's nine cells. -/
structure Slv where
  o : Option Addr
  n : Nat
  c : Nat

structure Hv where
  up : Bool
  pg : Int
  lg : Slv
  ak : Int
  c : Slv
  p : Slv
  b : Slv
  t : Slv
  r : Slv

def Slv.v (s : Slv) : Value := .slice s.o s.n s.c

def Hv.cells (h : Hv) : Array Value := #[.bool h.up, .int .i64 h.pg, .slice h.lg.o h.lg.n h.lg.c, .int .i64 h.ak, .slice h.c.o h.c.n h.c.c, .slice h.p.o h.p.n h.p.c, .slice h.b.o h.b.n h.b.c, .slice h.t.o h.t.n h.t.c, .slice h.r.o h.r.n h.r.c]

/-- What the work does: a house of which Q is so, or it gives up, and G is so. -/
def WorkP (Q : Hv → World → Prop) (G : Prop) (W : World) (e : Ending) (w' : World) : Prop :=
  Below W.heap.size W w' ∧ ((∃ h : Hv, e = .returned (.agg h.cells) ∧ Q h w') ∨ (∃ (u : TypeId) (pv : Value), e = .panicked [{ v := .iface u pv, recovered := false }] ∧ G))

def FaceP (Q : Hv → World → Prop) (G : Prop) (w : World) (e : Ending) (w' : World) : Prop :=
  Below w.heap.size w w' ∧ ((∃ (h : Hv) (W1 : World), e = .returned (.tuple #[.agg h.cells, .bool true]) ∧ Q h W1 ∧ Only (fun k => k = w.heap.size ∨ k = w.heap.size + 1) W1 w' ∧ w.heap.size + 1 + 1 ≤ W1.heap.size ∧ Below w.heap.size w W1) ∨ (e = .returned (.tuple #[.agg hz9, .bool false]) ∧ G))

theorem nine_setH (x0 x1 x2 x3 x4 x5 x6 x7 x8 z0 z1 z2 z3 z4 z5 z6 z7 z8 : Value) : (((((((((#[x0, x1, x2, x3, x4, x5, x6, x7, x8].setIfInBounds 0 z0).setIfInBounds 1 z1).setIfInBounds 2 z2).setIfInBounds 3 z3).setIfInBounds 4 z4).setIfInBounds 5 z5).setIfInBounds 6 z6).setIfInBounds 7 z7).setIfInBounds 8 z8) = #[z0, z1, z2, z3, z4, z5, z6, z7, z8] := by
  apply Array.toList_inj.1
  simp only [Array.toList_setIfInBounds, List.set_cons_zero, List.set_cons_succ]

theorem wiped_end {w w1 : World} {b c : Nat} {x0 x1 x2 x3 x4 x5 x6 x7 x8 y : Value} (kb : w1.heap[b]? = some (.cells #[x0, x1, x2, x3, x4, x5, x6, x7, x8] 33 (0, 0))) (kc : w1.heap[c]? = some (.cells #[y] 4 (0, 0))) (hbc : ¬ c = b) (hb : w.heap.size ≤ b) (hc : w.heap.size ≤ c) (d : Below w.heap.size w w1) :
    (wiped b c w1).heap[b]? = some (.cells hz9 33 (0, 0)) ∧ (wiped b c w1).heap[c]? = some (.cells #[.bool false] 4 (0, 0)) ∧ Below w.heap.size w (wiped b c w1) := by
  have k1 := (set_at (set_at (set_at (set_at (set_at (set_at (set_at (set_at (set_at kb 0 (.bool false)) 1 (.int .i64 0)) 2 (.slice none 0 0)) 3 (.int .i64 0)) 4 (.slice none 0 0)) 5 (.slice none 0 0)) 6 (.slice none 0 0)) 7 (.slice none 0 0)) 8 (.slice none 0 0))
  rw [nine_setH] at k1
  have d1 := ((((((((d.setCell (p := ⟨b, 0, none⟩) hb (.bool false)).setCell (p := ⟨b, 1, none⟩) hb (.int .i64 0)).setCell (p := ⟨b, 2, none⟩) hb (.slice none 0 0)).setCell (p := ⟨b, 3, none⟩) hb (.int .i64 0)).setCell (p := ⟨b, 4, none⟩) hb (.slice none 0 0)).setCell (p := ⟨b, 5, none⟩) hb (.slice none 0 0)).setCell (p := ⟨b, 6, none⟩) hb (.slice none 0 0)).setCell (p := ⟨b, 7, none⟩) hb (.slice none 0 0)).setCell (p := ⟨b, 8, none⟩) hb (.slice none 0 0)
  have o : ∀ (X : World) (i : Nat) (v : Value), (X.setCell ⟨b, i, none⟩ v).heap[c]? = X.heap[c]? := fun X i v => Below.heap_setCell X ⟨b, i, none⟩ v c (fun e => hbc e)
  have kc1 := (o _ 8 (.slice none 0 0)).trans ((o _ 7 (.slice none 0 0)).trans ((o _ 6 (.slice none 0 0)).trans ((o _ 5 (.slice none 0 0)).trans ((o _ 4 (.slice none 0 0)).trans ((o _ 3 (.int .i64 0)).trans ((o _ 2 (.slice none 0 0)).trans ((o _ 1 (.int .i64 0)).trans ((o w1 0 (.bool false)).trans kc))))))))
  refine ⟨(Below.heap_setCell _ ⟨c, 0, none⟩ _ b (fun e => hbc e.symm)).trans k1, set_at kc1 0 (.bool false), d1.setCell (p := ⟨c, 0, none⟩) hc (.bool false)⟩

set_option maxHeartbeats 1600000 in
/-- The house's box and the other's as they are written. -/
theorem faced_end {w w1 : World} {b c : Nat} {x0 x1 x2 x3 x4 x5 x6 x7 x8 y : Value} (h : Hv) (kb : w1.heap[b]? = some (.cells #[x0, x1, x2, x3, x4, x5, x6, x7, x8] 33 (0, 0))) (kc : w1.heap[c]? = some (.cells #[y] 4 (0, 0))) (hbc : ¬ c = b) (hb : w.heap.size ≤ b) (hc : w.heap.size ≤ c) (d : Below w.heap.size w w1) :
    ∃ W, W = ((((((((((w1.setCell ⟨b, 0, none⟩ (.bool h.up)).setCell ⟨b, 1, none⟩ (.int .i64 h.pg)).setCell ⟨b, 2, none⟩ (.slice h.lg.o h.lg.n h.lg.c)).setCell ⟨b, 3, none⟩ (.int .i64 h.ak)).setCell ⟨b, 4, none⟩ (.slice h.c.o h.c.n h.c.c)).setCell ⟨b, 5, none⟩ (.slice h.p.o h.p.n h.p.c)).setCell ⟨b, 6, none⟩ (.slice h.b.o h.b.n h.b.c)).setCell ⟨b, 7, none⟩ (.slice h.t.o h.t.n h.t.c)).setCell ⟨b, 8, none⟩ (.slice h.r.o h.r.n h.r.c)).setCell ⟨c, 0, none⟩ (.bool true)) ∧
      W.heap[b]? = some (.cells h.cells 33 (0, 0)) ∧ W.heap[c]? = some (.cells #[.bool true] 4 (0, 0)) ∧ Below w.heap.size w W ∧ Only (fun k => k = b ∨ k = c) w1 W := by
  have k1 := (set_at (set_at (set_at (set_at (set_at (set_at (set_at (set_at (set_at kb 0 (.bool h.up)) 1 (.int .i64 h.pg)) 2 (.slice h.lg.o h.lg.n h.lg.c)) 3 (.int .i64 h.ak)) 4 (.slice h.c.o h.c.n h.c.c)) 5 (.slice h.p.o h.p.n h.p.c)) 6 (.slice h.b.o h.b.n h.b.c)) 7 (.slice h.t.o h.t.n h.t.c)) 8 (.slice h.r.o h.r.n h.r.c))
  rw [nine_setH] at k1
  have o : ∀ (X : World) (i : Nat) (v : Value), (X.setCell ⟨b, i, none⟩ v).heap[c]? = X.heap[c]? := fun X i v => Below.heap_setCell X ⟨b, i, none⟩ v c (fun e => hbc e)
  have kc1 := (o _ 8 (.slice h.r.o h.r.n h.r.c)).trans ((o _ 7 (.slice h.t.o h.t.n h.t.c)).trans ((o _ 6 (.slice h.b.o h.b.n h.b.c)).trans ((o _ 5 (.slice h.p.o h.p.n h.p.c)).trans ((o _ 4 (.slice h.c.o h.c.n h.c.c)).trans ((o _ 3 (.int .i64 h.ak)).trans ((o _ 2 (.slice h.lg.o h.lg.n h.lg.c)).trans ((o _ 1 (.int .i64 h.pg)).trans ((o w1 0 (.bool h.up)).trans kc))))))))
  have u := ((((((((((Only.refl (fun k => k = b ∨ k = c) w1).setCell ⟨b, 0, none⟩ (.inl rfl) (.bool h.up)).setCell ⟨b, 1, none⟩ (.inl rfl) (.int .i64 h.pg)).setCell ⟨b, 2, none⟩ (.inl rfl) (.slice h.lg.o h.lg.n h.lg.c)).setCell ⟨b, 3, none⟩ (.inl rfl) (.int .i64 h.ak)).setCell ⟨b, 4, none⟩ (.inl rfl) (.slice h.c.o h.c.n h.c.c)).setCell ⟨b, 5, none⟩ (.inl rfl) (.slice h.p.o h.p.n h.p.c)).setCell ⟨b, 6, none⟩ (.inl rfl) (.slice h.b.o h.b.n h.b.c)).setCell ⟨b, 7, none⟩ (.inl rfl) (.slice h.t.o h.t.n h.t.c)).setCell ⟨b, 8, none⟩ (.inl rfl) (.slice h.r.o h.r.n h.r.c)).setCell ⟨c, 0, none⟩ (.inr rfl) (.bool true)
  exact ⟨_, rfl, (Below.heap_setCell _ ⟨c, 0, none⟩ _ b (fun e => hbc e.symm)).trans k1, set_at kc1 0 (.bool true), d.trans (u.toBelow d.size (fun k hk => by rcases hk with q | q <;> omega)), u⟩

set_option maxHeartbeats 3200000 in
theorem face_new (caps : Array Value) (Q : Hv → World → Prop) (G : Prop) (w : World) (hc : ∀ W, Below w.heap.size w W → w.heap.size + 1 + 1 ≤ W.heap.size → Calls Tryz.prog 34 caps W (WorkP Q G W)) :
    Calls Tryz.prog 33 #[.func (.func 34) #[] caps] w (FaceP Q G w) := by
  have hmf : ∀ (fn : Fn) (first cap : Array Value) (w : World), (Instr.makeFunc fn first cap).run Tryz.prog w = .ok (.func fn first cap) w := fun _ _ _ _ => rfl
  obtain ⟨W0, hW0, k0, k1, d0, z0⟩ := box2 w hz9 #[.bool false] 33 4
  unfold hz9 at hW0 k0
  have HW0 : Hid (W0 = _) := hW0
  have hcc := hc W0 d0 (by omega)
  have HC : Hid _ := hcc
  clear hW0 hc hcc
  go_enter_defers Tryz.func33, Tryz.ntmps33
  go_wp2_with (go_at_call 34; rw [← HW0.out]; refine Calls.mono HC.out ?_)
  rintro e w1 ⟨b1, ⟨h, rfl, hq⟩ | ⟨u, pv, rfl, hg⟩⟩
  · have kb := (b1.block _ (heap_lt k0)).trans k0
    have kc := (b1.block _ (heap_lt k1)).trans k1
    obtain ⟨W, hW, j0, j1, dW, uW⟩ := faced_end (w := w) h kb kc (by omega) (Nat.le_refl _) (by omega) (bw_call d0 b1)
    have HW : Hid (W = _) := hW
    have HE : Hid (FaceP Q G w (.returned (.tuple #[.agg h.cells, .bool true])) W) := ⟨dW, .inl ⟨h, w1, rfl, hq, uW, by have := b1.size; omega, bw_call d0 b1⟩⟩
    have q0 := at_cell kb 0
    have q1 := at_cell kb 1
    have q2 := at_cell kb 2
    have q3 := at_cell kb 3
    have q4 := at_cell kb 4
    have q5 := at_cell kb 5
    have q6 := at_cell kb 6
    have q7 := at_cell kb 7
    have q8 := at_cell kb 8
    have f0 := at_open kb 0
    have f1 := at_open kb 1
    have f2 := at_open kb 2
    have f3 := at_open kb 3
    have f4 := at_open kb 4
    have f5 := at_open kb 5
    have f6 := at_open kb 6
    have f7 := at_open kb 7
    have f8 := at_open kb 8
    have qc := at_cell kc 0
    have fc := at_open kc 0
    clear hW k0 k1 d0 z0 HC b1 hq dW uW kb kc
    unfold Hv.cells
    go_wp2_with fail
    refine leaves_cons (f := 84) (args := #[.pointer (some ⟨w.heap.size, 0, none⟩), .pointer (some ⟨w.heap.size + 1, 0, none⟩)]) (by simp) (by simp [go_sem]) ?_
    rw [← HW.out]
    refine (face_idle ⟨w.heap.size, 0, none⟩ ⟨w.heap.size + 1, 0, none⟩ _).mono ?_
    rintro e u' w'' ⟨rfl, rfl, rfl⟩
    have a0 := at_cell j0 0
    have a1 := at_cell j0 1
    have a2 := at_cell j0 2
    have a3 := at_cell j0 3
    have a4 := at_cell j0 4
    have a5 := at_cell j0 5
    have a6 := at_cell j0 6
    have a7 := at_cell j0 7
    have a8 := at_cell j0 8
    have ac := at_cell j1 0
    unfold Hv.cells at a0 a1 a2 a3 a4 a5 a6 a7 a8
    simp [Leaves, settle, results, Tryz.results33, go_sem, a0, a1, a2, a3, a4, a5, a6, a7, a8, ac]
    exact HE.out
  · have kb := (b1.block _ (heap_lt k0)).trans k0
    have kc := (b1.block _ (heap_lt k1)).trans k1
    obtain ⟨j0, j1, dW⟩ := wiped_end (w := w) kb kc (by omega) (Nat.le_refl _) (by omega) (bw_call d0 b1)
    have HE : Hid (FaceP Q G w (.returned (.tuple #[.agg hz9, .bool false])) (wiped w.heap.size (w.heap.size + 1) w1)) := ⟨dW, .inr ⟨rfl, hg⟩⟩
    clear k0 k1 d0 z0 HC b1 dW
    go_wp2_with fail
    refine leaves_cons (f := 84) (args := #[.pointer (some ⟨w.heap.size, 0, none⟩), .pointer (some ⟨w.heap.size + 1, 0, none⟩)]) (by simp) (by simp [go_sem]) ?_
    refine (face_panicking w.heap.size (w.heap.size + 1) _ _ _ _ _ _ _ _ _ _ u pv [] _ kb kc (by omega)).mono ?_
    rintro e u' w'' ⟨rfl, rfl, rfl⟩
    have a0 := at_cell j0 0
    have a1 := at_cell j0 1
    have a2 := at_cell j0 2
    have a3 := at_cell j0 3
    have a4 := at_cell j0 4
    have a5 := at_cell j0 5
    have a6 := at_cell j0 6
    have a7 := at_cell j0 7
    have a8 := at_cell j0 8
    have ac := at_cell j1 0
    unfold hz9 at a0 a1 a2 a3 a4 a5 a6 a7 a8
    simp [Leaves, settle, results, Tryz.results33, go_sem, a0, a1, a2, a3, a4, a5, a6, a7, a8, ac]
    exact HE.out
end Go.Proofs.YtibhepekmihagaaGreatDoor

namespace Go.Proofs.YtibhepekmihagaaGreatDoor
open Go.RowKit

set_option linter.unusedVariables false

set_option maxRecDepth 100000

set_option linter.unusedSimpArgs false


/-- A house that the log comes to, with memory of its own. -/
def HsQ (base : Nat) (n : Int) (l : List Ent) (h : Hv) (W : World) : Prop :=
  ∃ ms : List Bk, rpOk n l = true ∧ h.up = true ∧ h.pg = n ∧ h.ak = 0 ∧ W.ownsRow base 91 9 (.slice h.lg.o h.lg.n h.lg.c) l.length (l.flatMap entC) ∧ OwnS base W (.slice h.c.o h.c.n h.c.c) (.slice h.p.o h.p.n h.p.c) (.slice h.b.o h.b.n h.b.c) (rpFrom (rpNew n) l).s.cs (rpFrom (rpNew n) l).s.ps ms ∧ ms.map Bk.pb = (rpFrom (rpNew n) l).s.bs ∧ OwnM base W (.slice h.t.o h.t.n h.t.c) (.slice h.r.o h.r.n h.r.c) (rpFrom (rpNew n) l).ts (rpFrom (rpNew n) l).rs ∧ (∀ g, ((Value.slice h.c.o h.c.n h.c.c).ownBlock = some g ∨ (Value.slice h.p.o h.p.n h.p.c).ownBlock = some g) → (Value.slice h.t.o h.t.n h.t.c).ownBlock ≠ some g)
end Go.Proofs.YtibhepekmihagaaGreatDoor

namespace Go.Proofs.YtibhepekmihagaaGreatDoor
open Go.RowKit

set_option linter.unusedVariables false

set_option maxRecDepth 100000

set_option linter.unusedSimpArgs false


theorem only_rng2 {W W' : World} {a : Nat} (h : Only (fun k => k = a ∨ k = a + 1) W W') : Rng a (a + 1 + 1) W W' := ⟨h.os, h.tape, h.output, h.size, fun k hk hc => h.block k hk (by omega)⟩

theorem OwnS.nil (base : Nat) (w : World) : OwnS base w (.slice none 0 0) (.slice none 0 0) (.slice none 0 0) [] [] [] := ⟨OwnP.nil _ _, ⟨owns_nil _ _ _ _, fun b hb => by cases hb⟩, List.Pairwise.nil⟩

theorem replay_noI {n : Int} {l : List Ent} (h : rpOk n l = false) : replay n l = (Rp.zero, false) := by rw [replay, if_neg (by rw [h]; decide)]

theorem replay_yesI {n : Int} {l : List Ent} (h : rpOk n l = true) : replay n l = (rpFrom (rpNew n) l, true) := by rw [replay, if_pos h]
end Go.Proofs.YtibhepekmihagaaGreatDoor

