/-
  The laws' helpers on pools: measured, copied, alike, marked, held.
-/
import Derived.Test.YtmejggnjmclefaaPool2
namespace Go.Proofs.Ytmejggnjmclefaa
open Go.RowKit
set_option linter.unusedVariables false

/-- A pool that is read: its rows. -/
structure RP (B : Nat) (w : World) (v1 v2 : Value) (cs ps : List Int) : Prop where
  c : Reads B w v1 (cs.map (Value.int .i64))
  p : Reads B w v2 (ps.map (Value.int .i64))
theorem RP.below {B : Nat} {w w' : World} {v1 v2 : Value} {cs ps : List Int} (h : RP B w v1 v2 cs ps) (k : Below B w w') : RP B w' v1 v2 cs ps := ⟨h.c.below k, h.p.below k⟩
theorem RP.mono {B B' : Nat} {w : World} {v1 v2 : Value} {cs ps : List Int} (h : RP B w v1 v2 cs ps) (k : B ≤ B') : RP B' w v1 v2 cs ps := ⟨h.c.mono k, h.p.mono k⟩
theorem RP.of {B : Nat} {W : World} {v1 v2 : Value} {cs ps : List Int} (h : RP B W v1 v2 cs ps) (y : B ≤ W.heap.size) (p : BelowOf W) : RP p.w'.heap.size p.w' v1 v2 cs ps := ((h.mono y).below p.h).mono p.h.size
theorem RP.forms {B : Nat} {w : World} {v1 v2 : Value} {cs ps : List Int} (h : RP B w v1 v2 cs ps) : ∃ o1 k1 o2 k2, v1 = .slice o1 cs.length k1 ∧ v2 = .slice o2 ps.length k2 := by
  obtain ⟨⟨o, k, e, -⟩, ⟨o', k', e', -⟩⟩ := h
  exact ⟨o, k, o', k', by rw [e, List.length_map], by rw [e', List.length_map]⟩
theorem OwnP.reads {base : Nat} {w : World} {v1 v2 : Value} {cs ps : List Int} (h : OwnP base w v1 v2 cs ps) : RP w.heap.size w v1 v2 cs ps := ⟨h.r1, h.r2⟩
theorem OwnP.rng {lo hi base : Nat} {w w' : World} {v1 v2 : Value} {cs ps : List Int} (h : OwnP base w v1 v2 cs ps) (k : Rng lo hi w w') (hb : hi ≤ base) : OwnP base w' v1 v2 cs ps := ⟨own_rng h.c k hb, own_rng h.p k hb, h.apart⟩
/-- The blocks of a pool of one's own lie from base on, below the end of memory. -/
theorem OwnP.span {base : Nat} {w : World} {v1 v2 : Value} {cs ps : List Int} (h : OwnP base w v1 v2 cs ps) : ∀ g, (v1.ownBlock = some g ∨ v2.ownBlock = some g) → base ≤ g ∧ g < w.heap.size := by
  rintro g (h1 | h1)
  · exact h.c.lt g h1
  · exact h.p.lt g h1
theorem OwnP.forms {base : Nat} {w : World} {v1 v2 : Value} {cs ps : List Int} (h : OwnP base w v1 v2 cs ps) : ∃ o1 c1 o2 c2, v1 = .slice o1 cs.length c1 ∧ v2 = .slice o2 ps.length c2 := by
  obtain ⟨o1, c1, h1⟩ := own_slice h.c
  obtain ⟨o2, c2, h2⟩ := own_slice h.p
  exact ⟨o1, c1, o2, c2, h1, h2⟩

set_option maxHeartbeats 800000 in
theorem likePool_any (a1 a2 b1 b2 : Value) (cs ps cs' ps' : List Int) (w : World) (r : RP w.heap.size w a1 a2 cs ps) (r' : RP w.heap.size w b1 b2 cs' ps') :
    Calls Try.prog 45 #[.agg #[a1, a2], .agg #[b1, b2]] w fun e w' => e = .returned (.bool (decide (cs = cs') && decide (ps = ps'))) ∧ Below w.heap.size w w' := by
  obtain ⟨W0, hW0, k0, k1, d0, z0⟩ := box2 w #[a1, a2] #[b1, b2] 55 55
  have r0 := (r.below d0).mono d0.size
  have r1 := (r'.below d0).mono d0.size
  have HW0 : Hid (W0 = _) := hW0
  clear hW0 r r'
  go_enter Try.func45, Try.ntmps45
  go_wp2_with fail
  rw [← HW0.out]
  clear HW0
  refine (likeInts_any a1 b1 cs cs' _ r0.c r1.c).mono ?_
  rintro e w1 ⟨rfl, b⟩
  replace k0 := (b.block _ (by omega)).trans k0
  replace k1 := (b.block _ (by omega)).trans k1
  replace d0 := bw_call d0 b
  replace r0 := (r0.below b).mono b.size
  replace r1 := (r1.below b).mono b.size
  have p0 := at_cell k0 1
  have p1 := at_cell k1 1
  by_cases hc : cs = cs'
  · rw [decide_eq_true hc]
    go_wp2_with fail
    refine (likeInts_any a2 b2 ps ps' _ r0.p r1.p).mono ?_
    rintro e w2 ⟨rfl, b2'⟩
    replace d0 := bw_call d0 b2'
    have HC : Hid (cs = cs') := hc
    clear hc
    generalize hd : decide (ps = ps') = dd
    go_wp2_with fail
    go_ret
    exact ⟨ret_bool (by rw [decide_eq_true HC.out, Bool.true_and, hd]), d0⟩
  · rw [decide_eq_false hc]
    have HP : Hid (¬ cs = cs') := hc
    clear hc
    go_wp2_with fail
    go_ret
    exact ⟨ret_bool (by rw [decide_eq_false HP.out, Bool.false_and]), d0⟩

end Go.Proofs.Ytmejggnjmclefaa
