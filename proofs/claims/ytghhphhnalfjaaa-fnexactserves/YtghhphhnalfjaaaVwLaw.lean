/-
  Chapter 14: the laws' helpers on views: measured, copied, alike, marked, held.
-/
import Derived.Test.YtghhphhnalfjaaaVw5
namespace Go.Proofs.Ytghhphhnalfjaaa
open Go.RowKit Nums
set_option linter.unusedVariables false
set_option maxRecDepth 100000

/-- A view's row that is read, and one of one's own. -/
structure RVw (B : Nat) (w : World) (v : Value) (ms : List Int) : Prop where
  r : Reads B w v (ms.map (Value.int .i64))
theorem RVw.below {B : Nat} {w w' : World} {v : Value} {ms : List Int} (h : RVw B w v ms) (k : Below B w w') : RVw B w' v ms := ⟨h.r.below k⟩
theorem RVw.mono {B B' : Nat} {w : World} {v : Value} {ms : List Int} (h : RVw B w v ms) (k : B ≤ B') : RVw B' w v ms := ⟨h.r.mono k⟩
theorem RVw.of {B : Nat} {W : World} {v : Value} {ms : List Int} (h : RVw B W v ms) (y : B ≤ W.heap.size) (p : BelowOf W) : RVw p.w'.heap.size p.w' v ms := ((h.mono y).below p.h).mono p.h.size
theorem RVw.forms {B : Nat} {w : World} {v : Value} {ms : List Int} (h : RVw B w v ms) : ∃ o k, v = .slice o ms.length k := by
  obtain ⟨⟨o, k, e, -⟩⟩ := h
  exact ⟨o, k, by rw [e, List.length_map]⟩
structure OwnVw (base : Nat) (w : World) (v : Value) (ms : List Int) : Prop where
  c : w.ownsRow base 2 1 v ms.length (ms.map (Value.int .i64))
theorem OwnVw.below {base : Nat} {w w' : World} {v : Value} {ms : List Int} (h : OwnVw base w v ms) (b : Below w.heap.size w w') : OwnVw base w' v ms := ⟨owns_below h.c b⟩
theorem OwnVw.mono {base base' : Nat} {w : World} {v : Value} {ms : List Int} (h : OwnVw base w v ms) (b : base' ≤ base) : OwnVw base' w v ms := ⟨owns_mono h.c b⟩
theorem OwnVw.reads {base : Nat} {w : World} {v : Value} {ms : List Int} (h : OwnVw base w v ms) : RVw w.heap.size w v ms := ⟨Reads.of_own h.c⟩
theorem OwnVw.r {base : Nat} {w : World} {v : Value} {ms : List Int} (h : OwnVw base w v ms) : Reads w.heap.size w v (ms.map (Value.int .i64)) := Reads.of_own h.c
theorem OwnVw.rng {lo hi base : Nat} {w w' : World} {v : Value} {ms : List Int} (h : OwnVw base w v ms) (k : Rng lo hi w w') (hb : hi ≤ base) : OwnVw base w' v ms := ⟨own_rng h.c k hb⟩
theorem OwnVw.span {base : Nat} {w : World} {v : Value} {ms : List Int} (h : OwnVw base w v ms) : ∀ g, v.ownBlock = some g → base ≤ g ∧ g < w.heap.size := fun g h1 => h.c.lt g h1
theorem OwnVw.forms {base : Nat} {w : World} {v : Value} {ms : List Int} (h : OwnVw base w v ms) : ∃ o c, v = .slice o ms.length c := own_slice h.c

theorem szView_any (n : Int) (v : Value) (ms : List Int) (left : Int) (w : World) (h0 : 0 ≤ left) (hl : left ≤ 1048576) (r : RVw w.heap.size w v ms) :
    Calls Try.prog 28 #[.agg #[.int .i64 n, v], .int .i64 left] w fun e w' => ∃ q : Int, e = .returned (.int .i64 q) ∧ (q = -1 ∨ (0 ≤ q ∧ q ≤ left ∧ ms.length ≤ 1048576)) ∧ Below w.heap.size w w' := by
  obtain ⟨o1, cap1, rfl, m1, -, -⟩ := r.r
  simp only [List.length_map] at m1 ⊢
  obtain ⟨W0, hW0, k0, d0, z0⟩ := box1 w #[.int .i64 n, .slice o1 ms.length cap1] 54
  have HW0 : Hid (W0 = _) := hW0
  have p1 := at_cell k0 1
  clear hW0 k0
  go_enter Try.func28, Try.ntmps28
  go_wp2_with fail
  rw [← HW0.out]
  clear HW0
  refine (szInts_any _ _ _ _ _ h0 hl m1).mono ?_
  rintro e w' ⟨rfl, rfl⟩
  by_cases hb : left < (ms.length : Int)
  · rw [if_pos hb]
    go_wp2_with fail
    go_ret
    exact ⟨-1, rfl, .inl rfl, d0⟩
  · rw [if_neg hb]
    have hl3 : 0 ≤ left - (ms.length : Int) := by omega
    go_wp2_with fail
    go_ret
    exact ⟨_, rfl, .inr ⟨hl3, by omega, by omega⟩, d0⟩

set_option maxHeartbeats 800000 in
theorem toView_any (n : Int) (v : Value) (ms : List Int) (w : World) (hc : ms.length ≤ 1048576) (r : RVw w.heap.size w v ms) :
    Calls Try.prog 31 #[.agg #[.int .i64 n, v]] w fun e w' => ∃ u : Value, e = .returned (.agg #[.int .i64 n, u]) ∧ OwnVw w.heap.size w' u ms ∧ Below w.heap.size w w' := by
  obtain ⟨w2, hW0, k0, k1, k3, d0, z0⟩ := box3 w #[.int .i64 n, v] #[.int .i64 0, .slice none 0 0] #[.int .i64 n, .slice none 0 0] 54 59 59
  have r0 := r.below d0
  have HW0 : Hid (w2 = _) := hW0
  have z0a : w.heap.size + 1 + 1 + 1 ≤ w2.heap.size := by omega
  clear hW0 r z0
  go_enter Try.func31, Try.ntmps31
  go_wp2_with fail
  rw [← HW0.out]
  clear HW0
  refine (toInts_any v ms _ hc (r0.r.mono (by omega))).mono ?_
  rintro e w3 ⟨rfl, own3, b3⟩
  replace k1 := (b3.block _ (by omega)).trans k1
  replace k3 := (b3.block _ (by omega)).trans k3
  have z3 := b3.size
  replace d0 := bw_call d0 b3
  clear k0
  have f0 := at_open k3 1
  have c0 := at_cell k3 1
  have c00 := at_cell k3 0
  have u : Upto (w.heap.size + 1 + 1) w3 (w3.setCell ⟨w.heap.size + 1 + 1, 1, none⟩ (.slice (some ⟨w2.heap.size, 0, none⟩) ms.length ms.length)) := (Upto.refl _ _).setCell ⟨w.heap.size + 1 + 1, 1, none⟩ (.inl rfl) _
  have k4 := set_1 k3 (.slice (some ⟨w2.heap.size, 0, none⟩) ms.length ms.length)
  replace k1 := (u.block _ (by omega) (by omega)).trans k1
  replace own3 := ownsRow_upto own3 u (by omega)
  replace d0 := d0.trans (u.toBelow (by omega) (by omega))
  have q0 := at_cell k1 0
  have q1 := at_cell k1 1
  have g0 := at_open k1 0
  have g1 := at_open k1 1
  have a0 := at_cell k4 0
  have a1 := at_cell k4 1
  have HS : Hid _ := view_end w _ n _ _ _ (w.heap.size + 1) ms (by omega) k1 (owns_mono own3 (by omega)) d0
  clear b3 u k1 k3 k4 own3 d0 r0
  go_wp2_with fail
  exact bodyPost_ret (v := .agg #[.int .i64 n, .slice (some ⟨w2.heap.size, 0, none⟩) ms.length ms.length]) (by simp [results, Try.results31, go_sem, at_cell HS.out.1]) rfl ⟨_, rfl, ⟨HS.out.2.1⟩, HS.out.2.2⟩

set_option maxHeartbeats 800000 in
theorem eqView_any (n n' : Int) (a b : Value) (ms ms' : List Int) (w : World) (r : RVw w.heap.size w a ms) (r' : RVw w.heap.size w b ms') :
    Calls Try.prog 34 #[.agg #[.int .i64 n, a], .agg #[.int .i64 n', b]] w fun e w' => e = .returned (.bool (decide (n = n') && decide (ms = ms'))) ∧ Below w.heap.size w w' := by
  obtain ⟨W0, hW0, k0, k1, d0, z0⟩ := box2 w #[.int .i64 n, a] #[.int .i64 n', b] 59 59
  have r0 := (r.below d0).mono d0.size
  have r1 := (r'.below d0).mono d0.size
  have HW0 : Hid (W0 = _) := hW0
  clear hW0 r r'
  have c0 := at_cell k0 0
  have c1 := at_cell k1 0
  have p0 := at_cell k0 1
  have p1 := at_cell k1 1
  by_cases hc : n = n'
  · subst hc
    go_enter Try.func34, Try.ntmps34
    go_wp2_with fail
    rw [← HW0.out]
    clear HW0
    refine (eqInts_any a b ms ms' _ r0.r r1.r).mono ?_
    rintro e w2 ⟨rfl, b2'⟩
    replace d0 := bw_call d0 b2'
    by_cases hp : ms = ms'
    · rw [decide_eq_true hp]
      have HP : Hid (ms = ms') := hp
      clear hp
      go_wp2_with fail
      go_ret
      exact ⟨ret_bool (by simp [HP.out]), d0⟩
    · rw [decide_eq_false hp]
      have HP : Hid (¬ ms = ms') := hp
      clear hp
      go_wp2_with fail
      go_ret
      exact ⟨ret_bool (by rw [decide_eq_false HP.out, Bool.and_false]), d0⟩
  · have HP : Hid (¬ n = n') := hc
    have hne : (n != n') = true := by rw [bne_iff_ne]; exact hc
    clear hc
    go_enter Try.func34, Try.ntmps34
    go_wp2_with fail
    go_ret
    rw [← HW0.out]
    exact ⟨ret_bool (by rw [decide_eq_false HP.out, Bool.false_and]), d0⟩

end Go.Proofs.Ytghhphhnalfjaaa
