/-
  Chapter 4's draws for the laws: DrawTakenPage, DrawShared, DrawDropped, DrawNewPool.
-/
import Derived.Test.YtmejggnjmclefaaDrawPool
namespace Go.Proofs.Ytmejggnjmclefaa
open Go.RowKit
set_option linter.unusedVariables false

theorem drawNew_any (x : Option Addr) (len cap : Nat) (w : World) (hs : Src w w.heap.size x len) :
    Calls Try.prog 42 #[.slice x len cap] w fun e w' => ∃ n : Int, e = .returned (.int .i64 n) ∧ (-1 ≤ n ∧ n ≤ 26) ∧ Below w.heap.size w w' := by
  go_enter Try.func42, Try.ntmps42
  go_wp2_with fail
  refine (new_any x len cap _ hs).mono ?_
  rintro e w1 ⟨rfl, b1, k1⟩
  go_wp2_with fail
  refine (from_any _ x len cap (-1) 26 _ (by omega) (by omega) (by omega) k1).mono ?_
  rintro e w2 ⟨n, rfl, hn, u2, k2⟩
  have d := b1.trans (u2.toBelow b1.size (Nat.le_refl _))
  go_wp2_with fail
  go_ret
  exact ⟨n, rfl, hn, d⟩

/-- What a draw of a pool and a number leaves: the answer's box written. -/
theorem drawn_two {c b0 : Nat} {w W : World} {a1 a2 p q : Value} {cs ps : List Int} (hb : w.heap.size = b0) (hc : b0 < c) (kR : W.heap[b0]? = some (.cells #[p, q] 55 (0, 0))) (r : RP W.heap.size W a1 a2 cs ps) (n1 : a1.ownBlock ≠ some b0) (n2 : a2.ownBlock ≠ some b0) (d : Below w.heap.size w W) :
    ((W.setCell ⟨b0, 0, none⟩ a1).setCell ⟨b0, 1, none⟩ a2).heap[b0]? = some (.cells #[a1, a2] 55 (0, 0)) ∧ RP ((W.setCell ⟨b0, 0, none⟩ a1).setCell ⟨b0, 1, none⟩ a2).heap.size ((W.setCell ⟨b0, 0, none⟩ a1).setCell ⟨b0, 1, none⟩ a2) a1 a2 cs ps ∧ Below w.heap.size w ((W.setCell ⟨b0, 0, none⟩ a1).setCell ⟨b0, 1, none⟩ a2) := by
  obtain ⟨s1, u1⟩ := set_two kR a1 a2
  exact ⟨s1, (r.upto u1 (Nat.le_refl _) n1 n2).mono u1.size, d.trans (u1.toBelow d.size (by omega))⟩

set_option maxHeartbeats 6400000 in
theorem drawTaken_any (x : Option Addr) (len cap : Nat) (w : World) (hs : Src w w.heap.size x len) :
    Calls Try.prog 40 #[.slice x len cap] w fun e w' => ∃ (u1 u2 : Value) (cs ps : List Int) (a : Int), e = .returned (.tuple #[.agg #[u1, u2], .int .i64 a]) ∧ RP w'.heap.size w' u1 u2 cs ps ∧ (-1 ≤ a ∧ a ≤ 1000) ∧ Below w.heap.size w w' := by
  obtain ⟨W0, hW0, kR, d, z0⟩ := box1 w #[.slice none 0 0, .slice none 0 0] 55
  have hs0 : Src W0 W0.heap.size x len := (hs.below d).mono d.size
  have HW0 : Hid (W0 = _) := hW0
  have sR : w.heap.size < W0.heap.size := by omega
  clear hW0 z0
  go_enter Try.func40, Try.ntmps40
  go_wp2_with fail
  rw [← HW0.out]
  clear HW0
  refine (new_any x len cap _ hs0).mono ?_
  rintro e w1 ⟨rfl, b1, k1⟩
  replace kR := (b1.block _ sR).trans kR
  replace d := bw_call d b1
  have sc := k1.lt
  clear b1 hs0
  generalize W0.heap.size = c at *
  go_wp2_with fail
  refine (draw4_any _ x len cap _ k1).mono ?_
  rintro e w2 ⟨u1, u2, cs, ps, rfl, r, hn, u, k2⟩
  replace kR := (u.block _ (heap_lt kR) (by omega)).trans kR
  replace d := d.trans (u.toBelow (by omega) (by omega))
  have hn0 := hn w.heap.size (by omega)
  have hnc := hn c (by omega)
  obtain ⟨o1, k1', e1⟩ : ∃ o k, u1 = .slice o cs.length k := by obtain ⟨o, k, e, -⟩ := r.c; exact ⟨o, k, by rw [e, List.length_map]⟩
  obtain ⟨o2, k2', e2⟩ : ∃ o k, u2 = .slice o ps.length k := by obtain ⟨o, k, e, -⟩ := r.p; exact ⟨o, k, by rw [e, List.length_map]⟩
  subst e1 e2
  -- the pool's box
  have bP : Below w2.heap.size w2 (w2.alloc (.cells #[.slice o1 cs.length k1', .slice o2 ps.length k2'] 55)) := bw_alloc (Below.refl _ _)
  have kP := heap_alloc_new w2 (.cells #[.slice o1 cs.length k1', .slice o2 ps.length k2'] 55)
  replace kR := (bP.block _ (heap_lt kR)).trans kR
  replace d := bw_call d bP
  have k3 := k2.below bP
  have r3 := (r.below bP).mono bP.size
  have hPc : c < w2.heap.size := k2.lt
  have hn2 : w.heap.size < w2.heap.size := by have := d.size; have := heap_lt kR; omega
  clear k1 k2 bP r u hn sc
  go_wp2_with fail
  generalize w2.alloc (.cells #[.slice o1 cs.length k1', .slice o2 ps.length k2'] 55) = W3 at *
  generalize w2.heap.size = nP at *
  have S0 : W3.drew.cell? ⟨nP, 0, none⟩ = some (.slice o1 cs.length k1') := at_cell kP 0
  have S1 : W3.drew.cell? ⟨nP, 1, none⟩ = some (.slice o2 ps.length k2') := at_cell kP 1
  have HL : Hid (∀ jn : Nat, jn < 5 → ∃ z : Int, (#[.int .i64 0, .int .i64 7, .int .i64 999, .int .i64 1000, .int .i64 (-1)] : Array Value)[jn]? = some (.int .i64 z) ∧ (-1 ≤ z ∧ z ≤ 1000)) := fun jn h => by
    have h5 : jn = 0 ∨ jn = 1 ∨ jn = 2 ∨ jn = 3 ∨ jn = 4 := by omega
    rcases h5 with rfl | rfl | rfl | rfl | rfl
    · exact ⟨0, rfl, by decide⟩
    · exact ⟨7, rfl, by decide⟩
    · exact ⟨999, rfl, by decide⟩
    · exact ⟨1000, rfl, by decide⟩
    · exact ⟨-1, rfl, by decide⟩
  have T0 : W3.cell? ⟨nP, 0, none⟩ = some (.slice o1 cs.length k1') := at_cell kP 0
  have T1 : W3.cell? ⟨nP, 1, none⟩ = some (.slice o2 ps.length k2') := at_cell kP 1
  have M4 := heap_lt kP
  have N4 : ¬ nP = W3.heap.size := by omega
  have M6 := heap_lt kR
  go_cut [3] (fun v wx => ∃ a : Int, v = .int .i64 a ∧ (-1 ≤ a ∧ a ≤ 1000) ∧ wx.heap[w.heap.size]? = some (.cells #[.slice o1 cs.length k1', .slice o2 ps.length k2'] 55 (0, 0)) ∧ RP wx.heap.size wx (.slice o1 cs.length k1') (.slice o2 ps.length k2') cs ps ∧ Below w.heap.size w wx)
  case first =>
    go_region_law (go_simp; go_at_call 53; refine (below_any c x len cap 5 _ (by omega) (by first | exact k3.drew | exact (k3.alloc _).drew)).mono ?_; rintro e w5 ⟨y, rfl, hy, u5, k5⟩; have hy5 := hy.2.1 (by omega); obtain ⟨jn, rfl⟩ := Int.eq_ofNat_of_zero_le hy.1; obtain ⟨z, hz, hzb⟩ := HL.out jn (by omega); have hy6 : (0 : Int) ≤ (jn : Int) := (by omega); have hz2 : ∀ W : World, (W.alloc (.cells #[.int .i64 0, .int .i64 7, .int .i64 999, .int .i64 1000, .int .i64 (-1)] 2)).cell? ⟨W.heap.size, jn, none⟩ = some (.int .i64 z) := (fun W => (World.cell?_alloc_mark W _ _ (0, 0) jn).trans hz); have v5 : Upto c W3 w5 := (by first | exact u5.undrew | exact ((Upto.refl c W3).alloc _).trans u5.undrew); (first | (have hz1 : w5.cell? ⟨W3.heap.size, jn, none⟩ = some (.int .i64 z) := (pick_cell u5.undrew k3.lt jn).trans hz) | skip); have kP5 := (v5.block _ (heap_lt kP) (by omega)).trans kP; have kR5 := (v5.block _ (heap_lt kR) (by omega)).trans kR; have S50 := at_cell kP5 0; have S51 := at_cell kP5 1; have q0 := at_cell kR5 0; have q1 := at_cell kR5 1; have f0 := at_open kR5 0; have f1 := at_open kR5 1; have M5 := heap_lt kP5; have O5 : ¬ nP = w5.heap.size := (by omega); have M7 := heap_lt kR5; have O7 : ¬ w.heap.size = w5.heap.size := (by omega); dsimp only)
    all_goals (try go_wp2_with fail)
    all_goals go_meet
    all_goals
      have d5 := d.trans (v5.toBelow d.size (by omega))
      have r5 := (r3.upto v5 (Nat.le_refl _) hnc.1 hnc.2).mono v5.size
      obtain ⟨h1, h2, h3⟩ := drawn_two (c := c) rfl (by omega) kR5 r5 hn0.1 hn0.2 d5
      first
      | exact ⟨z, rfl, hzb, h1, h2, h3⟩
      | exact ⟨z, rfl, hzb, (Below.heap_alloc _ _ _ (heap_lt h1)).trans h1, (h2.below (bw_alloc (Below.refl _ _))).mono (by simp), bw_alloc h3⟩
  case rest =>
    obtain ⟨a, rfl, ha, kF, rF, dF⟩ := hcut
    have HS : Hid _ := And.intro kF (And.intro rF dF)
    clear kF rF dF S0 S1 T0 T1 HL r3 k3 kR kP
    go_wp2_with fail
    exact bodyPost_ret (v := .tuple #[.agg #[.slice o1 cs.length k1', .slice o2 ps.length k2'], .int .i64 a]) (by simp [results, Try.results40, go_sem, at_cell HS.out.1]) rfl ⟨_, _, _, _, a, rfl, HS.out.2.1, ha, HS.out.2.2⟩

end Go.Proofs.Ytmejggnjmclefaa
