/-
  The laws' helpers on pools: measured, copied, alike, marked, held.
-/
import Derived.Test.YtmejggnjmclefaiPool2
namespace Go.Proofs.Ytmejggnjmclefai
open Go.RowKit
set_option linter.unusedVariables false

/-- A pool that is read: its rows. -/
structure RP (B : Nat) (w : World) (v1 v2 : Value) (cs ps : List Int) : Prop where
  c : Reads B w v1 (cs.map (Value.int .i64))
  p : Reads B w v2 (ps.map (Value.int .i64))
theorem RP.below {B : Nat} {w w' : World} {v1 v2 : Value} {cs ps : List Int} (h : RP B w v1 v2 cs ps) (k : Below B w w') : RP B w' v1 v2 cs ps := ⟨h.c.below k, h.p.below k⟩
theorem RP.mono {B B' : Nat} {w : World} {v1 v2 : Value} {cs ps : List Int} (h : RP B w v1 v2 cs ps) (k : B ≤ B') : RP B' w v1 v2 cs ps := ⟨h.c.mono k, h.p.mono k⟩
theorem OwnP.reads {base : Nat} {w : World} {v1 v2 : Value} {cs ps : List Int} (h : OwnP base w v1 v2 cs ps) : RP w.heap.size w v1 v2 cs ps := ⟨h.r1, h.r2⟩
theorem OwnP.rng {lo hi base : Nat} {w w' : World} {v1 v2 : Value} {cs ps : List Int} (h : OwnP base w v1 v2 cs ps) (k : Rng lo hi w w') (hb : hi ≤ base) : OwnP base w' v1 v2 cs ps := ⟨own_rng h.c k hb, own_rng h.p k hb, h.apart⟩
/-- The blocks of a pool of one's own lie from base on, below the end of memory. -/
theorem OwnP.span {base : Nat} {w : World} {v1 v2 : Value} {cs ps : List Int} (h : OwnP base w v1 v2 cs ps) : ∀ g, (v1.ownBlock = some g ∨ v2.ownBlock = some g) → base ≤ g ∧ g < w.heap.size := by
  rintro g (h1 | h1)
  · exact h.c.lt g h1
  · exact h.p.lt g h1
theorem OwnP.forms {base : Nat} {w : World} {v1 v2 : Value} {cs ps : List Int} (h : OwnP base w v1 v2 cs ps) : ∃ o1 c1 o2 c2, v1 = .slice o1 cs.length c1 ∧ v2 = .slice o2 ps.length c2 := by
  obtain ⟨o1, c1, h1⟩ := own_slice h.c
  obtain ⟨o2, c2, h2⟩ := own_slice h.p
  exact ⟨o1, c1, o2, c2, h1, h2⟩

/-- What is left, or -1; where it is told, neither row was longer than what there was. -/
theorem szPool_any (v1 v2 : Value) (cs ps : List Int) (left : Int) (w : World) (h0 : 0 ≤ left) (hl : left ≤ 1048576) (r : RP w.heap.size w v1 v2 cs ps) :
    Calls Try.prog 7 #[.agg #[v1, v2], .int .i64 left] w fun e w' => ∃ q : Int, e = .returned (.int .i64 q) ∧ (q = -1 ∨ (0 ≤ q ∧ q ≤ left ∧ cs.length ≤ 1048576 ∧ ps.length ≤ 1048576)) ∧ Below w.heap.size w w' := by
  obtain ⟨h1, h2⟩ := r
  obtain ⟨o1, cap1, rfl, m1, -, -⟩ := h1
  obtain ⟨o2, cap2, rfl, m2, -, -⟩ := h2
  simp only [List.length_map] at m1 m2 ⊢
  obtain ⟨W0, hW0, k0, d0, z0⟩ := pool_box w (.slice o1 cs.length cap1) (.slice o2 ps.length cap2) 24
  have HW0 : Hid (W0 = _) := hW0
  have p0 := at_cell k0 0
  have p1 := at_cell k0 1
  clear hW0 k0
  go_enter Try.func7, Try.ntmps7
  go_wp2_with fail
  rw [← HW0.out]
  clear HW0
  refine (szInts_any _ _ _ _ _ h0 hl m1).mono ?_
  rintro e w' ⟨rfl, rfl⟩
  by_cases hb : left < (cs.length : Int)
  · rw [if_pos hb]
    go_wp2_with fail
    go_ret
    exact ⟨-1, rfl, .inl rfl, d0⟩
  · rw [if_neg hb]
    have hl1 : 0 ≤ left - (cs.length : Int) := by omega
    have hl2 : left - (cs.length : Int) ≤ 1048576 := by omega
    go_wp2_with fail
    refine (szInts_any _ _ _ _ _ hl1 hl2 m2).mono ?_
    rintro e w' ⟨rfl, rfl⟩
    by_cases hb2 : left - (cs.length : Int) < (ps.length : Int)
    · rw [if_pos hb2]
      go_wp2_with fail
      go_ret
      exact ⟨-1, rfl, .inl rfl, d0⟩
    · rw [if_neg hb2]
      have hl3 : 0 ≤ left - (cs.length : Int) - (ps.length : Int) := by omega
      go_wp2_with fail
      go_ret
      exact ⟨_, rfl, .inr ⟨hl3, by omega, by omega, by omega⟩, d0⟩

set_option maxHeartbeats 800000 in
theorem toPool_any (v1 v2 : Value) (cs ps : List Int) (w : World) (hc : cs.length ≤ 1048576) (hp : ps.length ≤ 1048576) (r : RP w.heap.size w v1 v2 cs ps) :
    Calls Try.prog 9 #[.agg #[v1, v2]] w fun e w' => ∃ u1 u2 : Value, e = .returned (.agg #[u1, u2]) ∧ OwnP w.heap.size w' u1 u2 cs ps ∧ Below w.heap.size w w' := by
  obtain ⟨W0, hW0, k0, k1, k2, d0, z0⟩ := box3 w #[v1, v2] #[.slice none 0 0, .slice none 0 0] #[.slice none 0 0, .slice none 0 0] 24 26 26
  have r0 := r.below d0
  have HW0 : Hid (W0 = _) := hW0
  have z0a : w.heap.size + 1 + 1 + 1 ≤ W0.heap.size := by omega
  clear hW0 r z0
  go_enter Try.func9, Try.ntmps9
  go_wp2_with fail
  rw [← HW0.out]
  clear HW0
  refine (toInts_any v1 cs _ hc (r0.c.mono d0.size)).mono ?_
  rintro e w1 ⟨rfl, own1, b1⟩
  replace k0 := (b1.block _ (by omega)).trans k0
  replace k1 := (b1.block _ (by omega)).trans k1
  replace k2 := (b1.block _ (by omega)).trans k2
  have z1 := b1.size
  replace d0 := bw_call d0 b1
  replace r0 := r0.below (b1.mono (by omega))
  -- the first row is stored
  have f0 := at_open k2 0
  have c0 := at_cell k2 0
  have u : Upto (w.heap.size + 1 + 1) w1 (w1.setCell ⟨w.heap.size + 1 + 1, 0, none⟩ (.slice (some ⟨W0.heap.size, 0, none⟩) cs.length cs.length)) := (Upto.refl _ _).setCell ⟨w.heap.size + 1 + 1, 0, none⟩ (.inl rfl) _
  have k3 := set_0 k2 (.slice (some ⟨W0.heap.size, 0, none⟩) cs.length cs.length)
  replace k0 := (u.block _ (by omega) (by omega)).trans k0
  replace k1 := (u.block _ (by omega) (by omega)).trans k1
  replace own1 := ownsRow_upto own1 u (by omega)
  replace d0 := d0.trans (u.toBelow (by omega) (by omega))
  replace r0 := r0.below (u.toBelow (by omega) (by omega))
  have z2 := u.size
  have p1 := at_cell k0 1
  clear b1 u k2
  go_wp2_with fail
  generalize w1.setCell ⟨w.heap.size + 1 + 1, 0, none⟩ (.slice (some ⟨W0.heap.size, 0, none⟩) cs.length cs.length) = w2 at *
  clear f0 c0 p1
  refine (toInts_any v2 ps _ hp (r0.p.mono (by omega))).mono ?_
  rintro e w3 ⟨rfl, own3, b3⟩
  replace k1 := (b3.block _ (by omega)).trans k1
  replace k3 := (b3.block _ (by omega)).trans k3
  have own13 := owns_below own1 b3
  have z3 := b3.size
  have hlt : W0.heap.size < w2.heap.size := (own1.lt _ rfl).2
  replace d0 := bw_call d0 b3
  clear own1 k0
  -- the second
  have f0 := at_open k3 1
  have c0 := at_cell k3 1
  have c00 := at_cell k3 0
  have u : Upto (w.heap.size + 1 + 1) w3 (w3.setCell ⟨w.heap.size + 1 + 1, 1, none⟩ (.slice (some ⟨w2.heap.size, 0, none⟩) ps.length ps.length)) := (Upto.refl _ _).setCell ⟨w.heap.size + 1 + 1, 1, none⟩ (.inl rfl) _
  have k4 := set_1 k3 (.slice (some ⟨w2.heap.size, 0, none⟩) ps.length ps.length)
  replace k1 := (u.block _ (by omega) (by omega)).trans k1
  replace own13 := ownsRow_upto own13 u (by omega)
  replace own3 := ownsRow_upto own3 u (by omega)
  replace d0 := d0.trans (u.toBelow (by omega) (by omega))
  have q0 := at_cell k1 0
  have q1 := at_cell k1 1
  have g0 := at_open k1 0
  have g1 := at_open k1 1
  have a0 := at_cell k4 0
  have a1 := at_cell k4 1
  have HS : Hid _ := pool_end w _ _ _ _ _ (w.heap.size + 1) cs ps (by omega) k1 ⟨owns_mono own13 (by omega), owns_mono own3 (by omega), fun g h1 h2 => by simp [Value.ownBlock] at h1 h2; omega⟩ d0
  clear b3 u k1 k3 k4 own13 own3 d0 r0
  go_wp2_with fail
  exact bodyPost_ret (v := .agg #[.slice (some ⟨W0.heap.size, 0, none⟩) cs.length cs.length, .slice (some ⟨w2.heap.size, 0, none⟩) ps.length ps.length]) (by simp [results, Try.results9, go_sem, at_cell HS.out.1]) rfl ⟨_, _, rfl, HS.out.2⟩

set_option maxHeartbeats 800000 in
theorem eqPool_any (a1 a2 b1 b2 : Value) (cs ps cs' ps' : List Int) (w : World) (r : RP w.heap.size w a1 a2 cs ps) (r' : RP w.heap.size w b1 b2 cs' ps') :
    Calls Try.prog 11 #[.agg #[a1, a2], .agg #[b1, b2]] w fun e w' => e = .returned (.bool (decide (cs = cs') && decide (ps = ps'))) ∧ Below w.heap.size w w' := by
  obtain ⟨W0, hW0, k0, k1, d0, z0⟩ := box2 w #[a1, a2] #[b1, b2] 26 26
  have r0 := (r.below d0).mono d0.size
  have r1 := (r'.below d0).mono d0.size
  have HW0 : Hid (W0 = _) := hW0
  clear hW0 r r'
  go_enter Try.func11, Try.ntmps11
  go_wp2_with fail
  rw [← HW0.out]
  clear HW0
  refine (eqInts_any a1 b1 cs cs' _ r0.c r1.c).mono ?_
  rintro e w1 ⟨rfl, b⟩
  replace k0 := (b.block _ (by omega)).trans k0
  replace k1 := (b.block _ (by omega)).trans k1
  replace d0 := bw_call d0 b
  replace r0 := (r0.below b).mono b.size
  replace r1 := (r1.below b).mono b.size
  have p0 := at_cell k0 1
  have p1 := at_cell k1 1
  by_cases hc : cs = cs'
  · rw [decide_eq_true hc]
    go_wp2_with fail
    refine (eqInts_any a2 b2 ps ps' _ r0.p r1.p).mono ?_
    rintro e w2 ⟨rfl, b2'⟩
    replace d0 := bw_call d0 b2'
    by_cases hp : ps = ps'
    · rw [decide_eq_true hp]
      have HC : Hid (cs = cs') := hc
      have HP : Hid (ps = ps') := hp
      clear hc hp
      go_wp2_with fail
      go_ret
      exact ⟨ret_bool (by simp [HC.out, HP.out]), d0⟩
    · rw [decide_eq_false hp]
      have HP : Hid (¬ ps = ps') := hp
      clear hc hp
      go_wp2_with fail
      go_ret
      exact ⟨ret_bool (by rw [decide_eq_false HP.out, Bool.and_false]), d0⟩
  · rw [decide_eq_false hc]
    have HP : Hid (¬ cs = cs') := hc
    clear hc
    go_wp2_with fail
    go_ret
    exact ⟨ret_bool (by rw [decide_eq_false HP.out, Bool.false_and]), d0⟩

set_option maxHeartbeats 800000 in
theorem markPool_any (v1 v2 : Value) (cs ps : List Int) (lo hi : Nat) (k : Int) (w : World) (hk : 0 ≤ k) (hc : cs.length ≤ 1048576) (hp : ps.length ≤ 1048576) (hk2 : k ≤ 1073741824) (own : OwnP lo w v1 v2 cs ps) (hhi : ∀ g, (v1.ownBlock = some g ∨ v2.ownBlock = some g) → lo ≤ g ∧ g < hi) (hlo : lo ≤ w.heap.size) (hhw : hi ≤ w.heap.size) :
    Calls Try.prog 12 #[.agg #[v1, v2], .int .i64 k] w fun e w' => e = .returned (.int .i64 (k + cs.length + ps.length)) ∧ OwnP lo w' v1 v2 (marksI k cs.length) (marksI (k + cs.length) ps.length) ∧ Rng lo hi w w' := by
  obtain ⟨W0, hW0, k0, d0, z0⟩ := box1 w #[v1, v2] 26
  have own0 := own.below d0
  have HW0 : Hid (W0 = _) := hW0
  have HA : Hid _ := own.apart
  have HH : Hid _ := hhi
  clear hW0 own hhi
  go_enter Try.func12, Try.ntmps12
  go_wp2_with fail
  rw [← HW0.out]
  clear HW0
  have HB1 : Hid (v1.ownBlock ≠ some w.heap.size) := own_not_box own0.c k0 (by decide)
  have HB2 : Hid (v2.ownBlock ≠ some w.heap.size) := own_not_box own0.p k0 (by decide)
  refine (markedIRow_any v1 cs.length lo k _ _ hk (by omega) (by omega) own0.c).mono ?_
  rintro e w1 ⟨rfl, o1, b1, s1, f1⟩
  have k01 := (f1 _ (by omega) HB1.out).trans k0
  have o2 : w1.ownsRow lo 2 1 v2 ps.length (ps.map (Value.int .i64)) := own_rng_not own0.p (fun g hg hv => f1 g hg (fun h => HA.out g h hv))
  have p1 := at_cell k01 1
  have R1 : Rng lo hi w w1 := ⟨b1.os.trans d0.os, b1.tape.trans d0.tape, b1.output.trans d0.output, by omega, fun i hi' hc => by
    refine (f1 i (by omega) ?_).trans (d0.block i hi')
    intro h
    have := HH.out i (.inl h)
    omega⟩
  clear f1 k0 own0 b1 d0
  go_wp2_with fail
  clear p1
  refine (markedIRow_any v2 ps.length lo (k + cs.length) _ _ (by omega) (by omega) (by omega) o2).mono ?_
  rintro e w2 ⟨rfl, o3, b2, s2, f2⟩
  have o4 : w2.ownsRow lo 2 1 v1 cs.length ((marksI k cs.length).map (Value.int .i64)) := own_rng_not o1 (fun g hg hv => f2 g hg (fun h => HA.out g hv h))
  have R2 : Rng lo hi w w2 := R1.trans ⟨b2.os, b2.tape, b2.output, s2, fun i hi' hc => f2 i hi' (fun h => by have := HH.out i (.inr h); omega)⟩
  have HO : Hid (OwnP lo w2 v1 v2 (marksI k cs.length) (marksI (k + cs.length) ps.length)) := ⟨by rw [marksI_length]; exact o4, by rw [marksI_length]; exact o3, HA.out⟩
  clear f2 o1 o2 o3 o4 b2 R1 k01
  go_wp2_with fail
  go_ret
  exact ⟨rfl, HO.out, R2⟩

set_option maxHeartbeats 800000 in
theorem heldPool_any (v1 v2 : Value) (n m : Nat) (k : Int) (w : World) (hk : 0 ≤ k) (hk2 : k ≤ 1073741824) (hn : n ≤ 1048576) (hm : m ≤ 1048576) (r : RP w.heap.size w v1 v2 (marksI k n) (marksI (k + n) m)) :
    Calls Try.prog 13 #[.agg #[v1, v2], .int .i64 k] w fun e w' => e = .returned (.int .i64 (k + n + m)) ∧ Below w.heap.size w w' := by
  obtain ⟨W0, hW0, k0, d0, z0⟩ := box1 w #[v1, v2] 26
  have r0 := (r.below d0).mono d0.size
  have HW0 : Hid (W0 = _) := hW0
  clear hW0 r
  go_enter Try.func13, Try.ntmps13
  go_wp2_with fail
  rw [← HW0.out]
  clear HW0
  refine (heldI_any v1 n k _ hk (by omega) r0.c).mono ?_
  rintro e w1 ⟨rfl, b⟩
  replace k0 := (b.block _ (by omega)).trans k0
  replace d0 := bw_call d0 b
  replace r0 := (r0.below b).mono b.size
  have p1 := at_cell k0 1
  have h1 : 0 ≤ k + (n : Int) := by omega
  go_wp2_with fail
  refine (heldI_any v2 m (k + n) _ h1 (by omega) r0.p).mono ?_
  rintro e w2 ⟨rfl, b'⟩
  replace d0 := bw_call d0 b'
  have h2 : 0 ≤ k + (n : Int) + (m : Int) := by omega
  go_wp2_with fail
  go_ret
  exact ⟨rfl, d0⟩

end Go.Proofs.Ytmejggnjmclefai
