/-
  Chapter 4's draws for the laws: DrawTakenPage, DrawShared, DrawDropped, DrawNewPool.
-/
import Derived.Test.YtmejggnjmclefabDrawPool
namespace Go.Proofs.Ytmejggnjmclefab
open Go.RowKit
set_option linter.unusedVariables false

/-- What a draw of a pool and a number leaves: the answer's box written. -/
theorem drawn_two {c b0 : Nat} {w W : World} {a1 a2 p q : Value} {cs ps : List Int} (hb : w.heap.size = b0) (hc : b0 < c) (kR : W.heap[b0]? = some (.cells #[p, q] 26 (0, 0))) (r : RP W.heap.size W a1 a2 cs ps) (n1 : a1.ownBlock ≠ some b0) (n2 : a2.ownBlock ≠ some b0) (d : Below w.heap.size w W) :
    ((W.setCell ⟨b0, 0, none⟩ a1).setCell ⟨b0, 1, none⟩ a2).heap[b0]? = some (.cells #[a1, a2] 26 (0, 0)) ∧ RP ((W.setCell ⟨b0, 0, none⟩ a1).setCell ⟨b0, 1, none⟩ a2).heap.size ((W.setCell ⟨b0, 0, none⟩ a1).setCell ⟨b0, 1, none⟩ a2) a1 a2 cs ps ∧ Below w.heap.size w ((W.setCell ⟨b0, 0, none⟩ a1).setCell ⟨b0, 1, none⟩ a2) := by
  obtain ⟨s1, u1⟩ := set_two kR a1 a2
  exact ⟨s1, (r.upto u1 (Nat.le_refl _) n1 n2).mono u1.size, d.trans (u1.toBelow d.size (by omega))⟩

set_option maxHeartbeats 3200000 in
theorem drawShared_any (x : Option Addr) (len cap : Nat) (w : World) (hs : Src w w.heap.size x len) :
    Calls Try.prog 5 #[.slice x len cap] w fun e w' => ∃ (u1 u2 : Value) (cs ps : List Int) (a : Int), e = .returned (.tuple #[.agg #[u1, u2], .int .i64 a]) ∧ RP w'.heap.size w' u1 u2 cs ps ∧ (∀ b, b ≤ w.heap.size → u1.ownBlock ≠ some b ∧ u2.ownBlock ≠ some b) ∧ (-9223372036854775808 ≤ a ∧ a ≤ 9223372036854775807) ∧ Below w.heap.size w w' := by
  obtain ⟨W0, hW0, kR, d, z0⟩ := box1 w #[.slice none 0 0, .slice none 0 0] 26
  have hs0 : Src W0 W0.heap.size x len := (hs.below d).mono d.size
  have HW0 : Hid (W0 = _) := hW0
  have sR : w.heap.size < W0.heap.size := by omega
  clear hW0 z0
  go_enter Try.func5, Try.ntmps5
  go_wp2_with fail
  rw [← HW0.out]
  clear HW0
  refine (new_any x len cap _ hs0).mono ?_
  rintro e w1 ⟨rfl, b1, k1⟩
  replace kR := (b1.block _ sR).trans kR
  replace d := bw_call d b1
  have sc := k1.lt
  clear b1 hs0
  generalize W0.heap.size = c at *
  go_wp2_with fail
  refine (draw4_any _ x len cap _ k1).mono ?_
  rintro e w2 ⟨u1, u2, cs, ps, rfl, r, hn, u, k2⟩
  replace kR := (u.block _ (heap_lt kR) (by omega)).trans kR
  replace d := d.trans (u.toBelow (by omega) (by omega))
  have hn0 := hn w.heap.size (by omega)
  have HNB : Hid (∀ b, b ≤ w.heap.size → u1.ownBlock ≠ some b ∧ u2.ownBlock ≠ some b) := fun b hb => hn b (by omega)
  have hnc := hn c (by omega)
  obtain ⟨o1, k1', e1⟩ : ∃ o k, u1 = .slice o cs.length k := by obtain ⟨o, k, e, -⟩ := r.c; exact ⟨o, k, by rw [e, List.length_map]⟩
  obtain ⟨o2, k2', e2⟩ : ∃ o k, u2 = .slice o ps.length k := by obtain ⟨o, k, e, -⟩ := r.p; exact ⟨o, k, by rw [e, List.length_map]⟩
  subst e1 e2
  -- the pool's box
  have bP : Below w2.heap.size w2 (w2.alloc (.cells #[.slice o1 cs.length k1', .slice o2 ps.length k2'] 26)) := bw_alloc (Below.refl _ _)
  have kP := heap_alloc_new w2 (.cells #[.slice o1 cs.length k1', .slice o2 ps.length k2'] 26)
  replace kR := (bP.block _ (heap_lt kR)).trans kR
  replace d := bw_call d bP
  have k3 := k2.below bP
  have r3 := (r.below bP).mono bP.size
  have hPc : c < w2.heap.size := k2.lt
  have hn2 : w.heap.size < w2.heap.size := by have := d.size; have := heap_lt kR; omega
  clear k1 k2 bP r u hn sc
  go_wp2_with fail
  generalize w2.alloc (.cells #[.slice o1 cs.length k1', .slice o2 ps.length k2'] 26) = W3 at *
  generalize w2.heap.size = nP at *
  have S0 : W3.drew.cell? ⟨nP, 0, none⟩ = some (.slice o1 cs.length k1') := at_cell kP 0
  have S1 : W3.drew.cell? ⟨nP, 1, none⟩ = some (.slice o2 ps.length k2') := at_cell kP 1
  go_region_law (go_simp; go_at_call 17; refine (atDraw_any _ x len cap _ k3.drew).mono ?_; rintro e w5 ⟨a, rfl, ha, u5, k5⟩; have v5 := u5.undrew; have kP5 := (v5.block _ (heap_lt kP) (by omega)).trans kP; have kR5 := (v5.block _ (heap_lt kR) (by omega)).trans kR; have S50 := at_cell kP5 0; have S51 := at_cell kP5 1; have q0 := at_cell kR5 0; have q1 := at_cell kR5 1; have f0 := at_open kR5 0; have f1 := at_open kR5 1; dsimp only)
  all_goals
    have d5 := d.trans (v5.toBelow d.size (by omega))
    have r5 := (r3.upto v5 (Nat.le_refl _) hnc.1 hnc.2).mono v5.size
    have HS : Hid _ := drawn_two (c := c) rfl (by omega) kR5 r5 hn0.1 hn0.2 d5
    clear d5 r5 kR5 kP5 S50 S51 q0 q1 f0 f1 v5 u5 k5 S0 S1 r3 k3 kR kP
    go_wp2_with fail
    exact bodyPost_ret (v := .tuple #[.agg #[.slice o1 cs.length k1', .slice o2 ps.length k2'], .int .i64 a]) (by simp [results, Try.results5, go_sem, at_cell HS.out.1]) rfl ⟨_, _, _, _, a, rfl, HS.out.2.1, HNB.out, ha, HS.out.2.2⟩

theorem drawDropped_any (x : Option Addr) (len cap : Nat) (w : World) (hs : Src w w.heap.size x len) :
    Calls Try.prog 7 #[.slice x len cap] w fun e w' => ∃ (u1 u2 : Value) (cs ps : List Int) (a : Int), e = .returned (.tuple #[.agg #[u1, u2], .int .i64 a]) ∧ RP w'.heap.size w' u1 u2 cs ps ∧ (-9223372036854775808 ≤ a ∧ a ≤ 9223372036854775807) ∧ Below w.heap.size w w' := by
  obtain ⟨W0, hW0, kR, d, z0⟩ := box1 w #[.slice none 0 0, .slice none 0 0] 26
  have hs0 : Src W0 W0.heap.size x len := (hs.below d).mono d.size
  have HW0 : Hid (W0 = _) := hW0
  clear hW0
  go_enter Try.func7, Try.ntmps7
  go_wp2_with fail
  rw [← HW0.out]
  clear HW0
  refine (drawShared_any x len cap _ hs0).mono ?_
  rintro e w1 ⟨u1, u2, cs, ps, a, rfl, r, hn, ha, b⟩
  obtain ⟨o1, k1', e1⟩ : ∃ o k, u1 = .slice o cs.length k := by obtain ⟨o, k, e, -⟩ := r.c; exact ⟨o, k, by rw [e, List.length_map]⟩
  obtain ⟨o2, k2', e2⟩ : ∃ o k, u2 = .slice o ps.length k := by obtain ⟨o, k, e, -⟩ := r.p; exact ⟨o, k, by rw [e, List.length_map]⟩
  subst e1 e2
  replace kR := (b.block _ (by omega)).trans kR
  have q0 := at_cell kR 0
  have q1 := at_cell kR 1
  have f0 := at_open kR 0
  have f1 := at_open kR 1
  have n1 := hn w.heap.size (by omega)
  have HS : Hid _ := drawn_two (c := w.heap.size + 1) rfl (by omega) kR r n1.1 n1.2 (bw_call d b)
  clear kR r b d n1 hn
  go_wp2_with fail
  exact bodyPost_ret (v := .tuple #[.agg #[.slice o1 cs.length k1', .slice o2 ps.length k2'], .int .i64 a]) (by simp [results, Try.results7, go_sem, at_cell HS.out.1]) rfl ⟨_, _, _, _, a, rfl, HS.out.2.1, ha, HS.out.2.2⟩

end Go.Proofs.Ytmejggnjmclefab
