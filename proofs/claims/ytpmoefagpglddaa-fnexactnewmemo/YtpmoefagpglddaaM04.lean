/-
  Contracts and plain laws, one chapter behind the other.
-/
import Derived.Deep.DeepCutAuto
import Derived.Deep.RegionHeld3
import Derived.Deep.WholeRow
import Derived.Laws.CopyOwn
import Derived.Test.YtpmoefagpglddaaM01
import Derived.Test.YtpmoefagpglddaaM02
import Derived.Test.YtpmoefagpglddaaM03
namespace Go.Proofs.Ytpmoefagpglddaa
open Go.RowKit

set_option linter.unusedVariables false

set_option maxRecDepth 100000


theorem OwnM.forms {base : Nat} {w : World} {v1 v2 : Value} {ts : List Int} {rs : List (Int × Int)} (h : OwnM base w v1 v2 ts rs) : ∃ o1 c1 o2 c2, v1 = .slice o1 ts.length c1 ∧ v2 = .slice o2 rs.length c2 := by
  obtain ⟨o1, c1, h1⟩ := own_slice h.t
  obtain ⟨o2, c2, h2⟩ := own_slice h.r
  exact ⟨o1, c1, o2, c2, h1, h2⟩

/-- What is left, or -1; where it is told, neither row was longer than what there was. -/
theorem szMemo_any (v1 v2 : Value) (cs : List Int) (ps : List (Int × Int)) (left : Int) (w : World) (h0 : 0 ≤ left) (hl : left ≤ 1048576) (r : RM w.heap.size w v1 v2 cs ps) :
    Calls Try.prog 19 #[.agg #[v1, v2], .int .i64 left] w fun e w' => ∃ q : Int, e = .returned (.int .i64 q) ∧ (q = -1 ∨ (0 ≤ q ∧ q ≤ left ∧ cs.length ≤ 1048576 ∧ ps.length ≤ 1048576)) ∧ Below w.heap.size w w' := by
  obtain ⟨h1, h2⟩ := r
  obtain ⟨o1, cap1, rfl, m1, -, -⟩ := h1
  obtain ⟨o2, cap2, rfl, m2, -, -⟩ := h2
  simp only [List.length_map] at m1 ⊢
  obtain ⟨W0, hW0, k0, d0, z0⟩ := box1 w #[.slice o1 cs.length cap1, .slice o2 ps.length cap2] 42
  have HW0 : Hid (W0 = _) := hW0
  have p0 := at_cell k0 0
  have p1 := at_cell k0 1
  clear hW0 k0
  go_enter Try.func19, Try.ntmps19
  go_wp2_with fail
  rw [← HW0.out]
  clear HW0
  refine (szInts_any _ _ _ _ _ h0 hl m1).mono ?_
  rintro e w' ⟨rfl, rfl⟩
  by_cases hb : left < (cs.length : Int)
  · rw [if_pos hb]
    go_wp2_with fail
    go_ret
    exact ⟨-1, rfl, .inl rfl, d0⟩
  · rw [if_neg hb]
    have hl1 : 0 ≤ left - (cs.length : Int) := by omega
    have hl2 : left - (cs.length : Int) ≤ 1048576 := by omega
    go_wp2_with fail
    refine (szReps_any _ _ _ _ _ hl1 hl2 m2).mono ?_
    rintro e w' ⟨rfl, rfl⟩
    by_cases hb2 : left - (cs.length : Int) < (ps.length : Int)
    · rw [if_pos hb2]
      go_wp2_with fail
      go_ret
      exact ⟨-1, rfl, .inl rfl, d0⟩
    · rw [if_neg hb2]
      have hl3 : 0 ≤ left - (cs.length : Int) - (ps.length : Int) := by omega
      go_wp2_with fail
      go_ret
      exact ⟨_, rfl, .inr ⟨hl3, by omega, by omega, by omega⟩, d0⟩

set_option maxHeartbeats 800000 in
theorem toMemo_any (v1 v2 : Value) (cs : List Int) (ps : List (Int × Int)) (w : World) (hc : cs.length ≤ 1048576) (hp : ps.length ≤ 1048576) (r : RM w.heap.size w v1 v2 cs ps) :
    Calls Try.prog 20 #[.agg #[v1, v2]] w fun e w' => ∃ u1 u2 : Value, e = .returned (.agg #[u1, u2]) ∧ OwnM w.heap.size w' u1 u2 cs ps ∧ Below w.heap.size w w' := by
  obtain ⟨W0, hW0, k0, k1, k2, d0, z0⟩ := box3 w #[v1, v2] #[.slice none 0 0, .slice none 0 0] #[.slice none 0 0, .slice none 0 0] 42 27 27
  have r0 := r.below d0
  have HW0 : Hid (W0 = _) := hW0
  have z0a : w.heap.size + 1 + 1 + 1 ≤ W0.heap.size := by omega
  clear hW0 r z0
  go_enter Try.func20, Try.ntmps20
  go_wp2_with fail
  rw [← HW0.out]
  clear HW0
  refine (toInts_any v1 cs _ hc (r0.t.mono d0.size)).mono ?_
  rintro e w1 ⟨rfl, own1, b1⟩
  replace k0 := (b1.block _ (by omega)).trans k0
  replace k1 := (b1.block _ (by omega)).trans k1
  replace k2 := (b1.block _ (by omega)).trans k2
  have z1 := b1.size
  replace d0 := bw_call d0 b1
  replace r0 := r0.below (b1.mono (by omega))
  -- the first row is stored
  have f0 := at_open k2 0
  have c0 := at_cell k2 0
  have u : Upto (w.heap.size + 1 + 1) w1 (w1.setCell ⟨w.heap.size + 1 + 1, 0, none⟩ (.slice (some ⟨W0.heap.size, 0, none⟩) cs.length cs.length)) := (Upto.refl _ _).setCell ⟨w.heap.size + 1 + 1, 0, none⟩ (.inl rfl) _
  have k3 := set_0 k2 (.slice (some ⟨W0.heap.size, 0, none⟩) cs.length cs.length)
  replace k0 := (u.block _ (by omega) (by omega)).trans k0
  replace k1 := (u.block _ (by omega) (by omega)).trans k1
  replace own1 := ownsRow_upto own1 u (by omega)
  replace d0 := d0.trans (u.toBelow (by omega) (by omega))
  replace r0 := r0.below (u.toBelow (by omega) (by omega))
  have z2 := u.size
  have p1 := at_cell k0 1
  clear b1 u k2
  go_wp2_with fail
  generalize w1.setCell ⟨w.heap.size + 1 + 1, 0, none⟩ (.slice (some ⟨W0.heap.size, 0, none⟩) cs.length cs.length) = w2 at *
  clear f0 c0 p1
  refine (toReps_any v2 ps _ hp (r0.r.mono (by omega))).mono ?_
  rintro e w3 ⟨rfl, own3, b3⟩
  replace k1 := (b3.block _ (by omega)).trans k1
  replace k3 := (b3.block _ (by omega)).trans k3
  have own13 := owns_below own1 b3
  have z3 := b3.size
  have hlt : W0.heap.size < w2.heap.size := (own1.lt _ rfl).2
  replace d0 := bw_call d0 b3
  clear own1 k0
  -- the second
  have f0 := at_open k3 1
  have c0 := at_cell k3 1
  have c00 := at_cell k3 0
  have u : Upto (w.heap.size + 1 + 1) w3 (w3.setCell ⟨w.heap.size + 1 + 1, 1, none⟩ (.slice (some ⟨w2.heap.size, 0, none⟩) ps.length ps.length)) := (Upto.refl _ _).setCell ⟨w.heap.size + 1 + 1, 1, none⟩ (.inl rfl) _
  have k4 := set_1 k3 (.slice (some ⟨w2.heap.size, 0, none⟩) ps.length ps.length)
  replace k1 := (u.block _ (by omega) (by omega)).trans k1
  replace own13 := ownsRow_upto own13 u (by omega)
  replace own3 := ownsRow_upto own3 u (by omega)
  replace d0 := d0.trans (u.toBelow (by omega) (by omega))
  have q0 := at_cell k1 0
  have q1 := at_cell k1 1
  have g0 := at_open k1 0
  have g1 := at_open k1 1
  have a0 := at_cell k4 0
  have a1 := at_cell k4 1
  have HS : Hid _ := mem_end w _ _ _ _ _ (w.heap.size + 1) cs ps (by omega) k1 ⟨owns_mono own13 (by omega), owns_mono own3 (by omega)⟩ d0
  clear b3 u k1 k3 k4 own13 own3 d0 r0
  go_wp2_with fail
  exact bodyPost_ret (v := .agg #[.slice (some ⟨W0.heap.size, 0, none⟩) cs.length cs.length, .slice (some ⟨w2.heap.size, 0, none⟩) ps.length ps.length]) (by simp [results, Try.results20, go_sem, at_cell HS.out.1]) rfl ⟨_, _, rfl, HS.out.2⟩

set_option maxHeartbeats 800000 in
theorem eqMemo_any (a1 a2 b1 b2 : Value) (cs : List Int) (ps : List (Int × Int)) (cs' : List Int) (ps' : List (Int × Int)) (w : World) (r : RM w.heap.size w a1 a2 cs ps) (r' : RM w.heap.size w b1 b2 cs' ps') :
    Calls Try.prog 21 #[.agg #[a1, a2], .agg #[b1, b2]] w fun e w' => e = .returned (.bool (decide (cs = cs') && decide (ps = ps'))) ∧ Below w.heap.size w w' := by
  obtain ⟨W0, hW0, k0, k1, d0, z0⟩ := box2 w #[a1, a2] #[b1, b2] 27 27
  have r0 := (r.below d0).mono d0.size
  have r1 := (r'.below d0).mono d0.size
  have HW0 : Hid (W0 = _) := hW0
  clear hW0 r r'
  go_enter Try.func21, Try.ntmps21
  go_wp2_with fail
  rw [← HW0.out]
  clear HW0
  refine (eqInts_any a1 b1 cs cs' _ r0.t r1.t).mono ?_
  rintro e w1 ⟨rfl, b⟩
  replace k0 := (b.block _ (by omega)).trans k0
  replace k1 := (b.block _ (by omega)).trans k1
  replace d0 := bw_call d0 b
  replace r0 := (r0.below b).mono b.size
  replace r1 := (r1.below b).mono b.size
  have p0 := at_cell k0 1
  have p1 := at_cell k1 1
  by_cases hc : cs = cs'
  · rw [decide_eq_true hc]
    go_wp2_with fail
    refine (eqReps_any a2 b2 ps ps' _ r0.r r1.r).mono ?_
    rintro e w2 ⟨rfl, b2'⟩
    replace d0 := bw_call d0 b2'
    by_cases hp : ps = ps'
    · rw [decide_eq_true hp]
      have HC : Hid (cs = cs') := hc
      have HP : Hid (ps = ps') := hp
      clear hc hp
      go_wp2_with fail
      go_ret
      exact ⟨ret_bool (by simp [HC.out, HP.out]), d0⟩
    · rw [decide_eq_false hp]
      have HP : Hid (¬ ps = ps') := hp
      clear hc hp
      go_wp2_with fail
      go_ret
      exact ⟨ret_bool (by rw [decide_eq_false HP.out, Bool.and_false]), d0⟩
  · rw [decide_eq_false hc]
    have HP : Hid (¬ cs = cs') := hc
    clear hc
    go_wp2_with fail
    go_ret
    exact ⟨ret_bool (by rw [decide_eq_false HP.out, Bool.false_and]), d0⟩

set_option maxHeartbeats 800000 in
theorem markMemo_any (v1 v2 : Value) (cs : List Int) (ps : List (Int × Int)) (lo hi : Nat) (k : Int) (w : World) (hk : 0 ≤ k) (hc : cs.length ≤ 1048576) (hp : ps.length ≤ 1048576) (hk2 : k ≤ 1048576) (own : OwnM lo w v1 v2 cs ps) (hhi : ∀ g, (v1.ownBlock = some g ∨ v2.ownBlock = some g) → lo ≤ g ∧ g < hi) (hlo : lo ≤ w.heap.size) (hhw : hi ≤ w.heap.size) :
    Calls Try.prog 23 #[.agg #[v1, v2], .int .i64 k] w fun e w' => e = .returned (.int .i64 (k + cs.length + 2 * ps.length)) ∧ OwnM lo w' v1 v2 (marksI k cs.length) (marksP (k + cs.length) ps.length) ∧ Rng lo hi w w' := by
  obtain ⟨W0, hW0, k0, d0, z0⟩ := box1 w #[v1, v2] 27
  have own0 := own.below d0
  have HW0 : Hid (W0 = _) := hW0
  have HA : Hid _ := own.apart
  have HH : Hid _ := hhi
  clear hW0 own hhi
  go_enter Try.func23, Try.ntmps23
  go_wp2_with fail
  rw [← HW0.out]
  clear HW0
  have HB1 : Hid (v1.ownBlock ≠ some w.heap.size) := own_not_box own0.t k0 (by decide)
  have HB2 : Hid (v2.ownBlock ≠ some w.heap.size) := own_not_box own0.r k0 (by decide)
  refine (markedIRow_any v1 cs.length lo k _ _ hk (by omega) (by omega) own0.t).mono ?_
  rintro e w1 ⟨rfl, o1, b1, s1, f1⟩
  have k01 := (f1 _ (by omega) HB1.out).trans k0
  have o2 : w1.ownsRow lo 29 2 v2 ps.length (ps.flatMap repC) := own_rng_not own0.r (fun g hg hv => f1 g hg (fun h => HA.out g h hv))
  have p1 := at_cell k01 1
  have R1 : Rng lo hi w w1 := ⟨b1.os.trans d0.os, b1.tape.trans d0.tape, b1.output.trans d0.output, by omega, fun i hi' hc => by
    refine (f1 i (by omega) ?_).trans (d0.block i hi')
    intro h
    have := HH.out i (.inl h)
    omega⟩
  clear f1 k0 own0 b1 d0
  go_wp2_with fail
  clear p1
  refine (markedPRow_any v2 lo (k + cs.length) ps _ (by omega) (by omega) (by omega) (by omega) o2).mono ?_
  rintro e w2 ⟨rfl, o3, b2, s2, f2⟩
  have o4 : w2.ownsRow lo 2 1 v1 cs.length ((marksI k cs.length).map (Value.int .i64)) := own_rng_not o1 (fun g hg hv => f2 g hg (fun h => HA.out g hv h))
  have R2 : Rng lo hi w w2 := R1.trans ⟨b2.os, b2.tape, b2.output, s2, fun i hi' hc => f2 i hi' (fun h => by have := HH.out i (.inr h); omega)⟩
  have HO : Hid (OwnM lo w2 v1 v2 (marksI k cs.length) (marksP (k + cs.length) ps.length)) := ⟨by rw [marksI_length]; exact o4, o3⟩
  clear f2 o1 o2 o3 o4 b2 R1 k01
  go_wp2_with fail
  go_ret
  exact ⟨rfl, HO.out, R2⟩

set_option maxHeartbeats 800000 in
theorem heldMemo_any (v1 v2 : Value) (n m : Nat) (k : Int) (w : World) (hk : 0 ≤ k) (hk2 : k ≤ 1048576) (hn : n ≤ 1048576) (hm : m ≤ 1048576) (r : RM w.heap.size w v1 v2 (marksI k n) (marksP (k + n) m)) :
    Calls Try.prog 24 #[.agg #[v1, v2], .int .i64 k] w fun e w' => e = .returned (.int .i64 (k + n + 2 * m)) ∧ Below w.heap.size w w' := by
  obtain ⟨W0, hW0, k0, d0, z0⟩ := box1 w #[v1, v2] 27
  have r0 := (r.below d0).mono d0.size
  have HW0 : Hid (W0 = _) := hW0
  clear hW0 r
  go_enter Try.func24, Try.ntmps24
  go_wp2_with fail
  rw [← HW0.out]
  clear HW0
  refine (heldI_any v1 n k _ hk (by omega) r0.t).mono ?_
  rintro e w1 ⟨rfl, b⟩
  replace k0 := (b.block _ (by omega)).trans k0
  replace d0 := bw_call d0 b
  replace r0 := (r0.below b).mono b.size
  have p1 := at_cell k0 1
  have h1 : 0 ≤ k + (n : Int) := by omega
  go_wp2_with fail
  refine (heldP_any v2 m (k + n) _ h1 (by omega) hm r0.r).mono ?_
  rintro e w2 ⟨rfl, b'⟩
  replace d0 := bw_call d0 b'
  have h2 : 0 ≤ k + (n : Int) + 2 * (m : Int) := by omega
  go_wp2_with fail
  go_ret
  exact ⟨rfl, d0⟩
end Go.Proofs.Ytpmoefagpglddaa

namespace Go.Proofs.Ytpmoefagpglddaa
open Go.RowKit

set_option linter.unusedVariables false

set_option maxRecDepth 100000


set_option maxHeartbeats 3200000 in
theorem specNoted_any (v1 v2 : Value) (ts : List Int) (rs : List (Int × Int)) (client tag c v : Int) (w : World) (r : RM w.heap.size w v1 v2 ts rs) :
    Calls Try.prog 14 #[.agg #[v1, v2], .int .i64 client, .int .i64 tag, .agg #[.int .i64 c, .int .i64 v]] w fun e w' => ∃ u1 u2 : Value, e = .returned (.tuple #[.agg #[u1, u2], .bool (notedM ts rs client tag (c, v)).2]) ∧ OwnM w.heap.size w' u1 u2 (notedM ts rs client tag (c, v)).1.1 (notedM ts rs client tag (c, v)).1.2 ∧ Below w.heap.size w w' := by
  obtain ⟨o1, cap1, o2, cap2, rfl, rfl⟩ := r.forms
  obtain ⟨W0, hW0, k0, k1, k2, d0, z0⟩ := box3 w #[.slice o1 ts.length cap1, .slice o2 rs.length cap2] #[.int .i64 c, .int .i64 v] #[.slice none 0 0, .slice none 0 0] 27 29 27
  have HW0 : Hid (W0 = _) := hW0
  have r0 := (r.below d0).mono d0.size
  clear hW0 r z0
  cases hok : memOk ts rs
  · have hv : notedM ts rs client tag (c, v) = (([], []), false) := by rw [notedM, hok]; rfl
    rw [hv]
    clear hv
    go_enter Try.func14, Try.ntmps14
    go_upto_region 1 with fail
    rw [← HW0.out]
    clear HW0
    have p0 := at_cell k0 0
    have p1 := at_cell k0 1
    go_wp2_with fail
    refine (specMemoOk_any _ _ ts rs _ r0).mono ?_
    rw [hok]
    rintro e w1 ⟨rfl, b1⟩
    have k21 := (b1.block _ (heap_lt k2)).trans k2
    have HS : Hid _ := mem_end w w1 (.slice none 0 0) (.slice none 0 0) _ _ (w.heap.size + 1 + 1) [] [] (by omega) k21 (OwnM.nil _ _) (bw_call d0 b1)
    have q0 := at_cell k21 0
    have q1 := at_cell k21 1
    have f0 := at_open k21 0
    have f1 := at_open k21 1
    clear k0 k1 k2 k21 r0 d0 b1 p0 p1 hok
    go_wp2_with fail
    exact bodyPost_ret (v := .tuple #[.agg #[.slice none 0 0, .slice none 0 0], .bool false]) (by simp [results, Try.results14, go_sem, at_cell HS.out.1]) rfl ⟨_, _, rfl, HS.out.2⟩
  obtain ⟨hl1, hl2⟩ := memOk_len hok
  have HOK : Hid (memOk ts rs = true) := hok
  have HV : Hid (notedM ts rs client tag (c, v) = if knownT ts client tag = 0 ∧ repOk c v = true then ((ts.set client.toNat tag, rs.set client.toNat (c, v)), true) else ((ts, rs), false)) := by rw [Hid, notedM, hok]; rfl
  have HKM : Hid (knownM ts rs client tag = knownT ts client tag) := by rw [Hid, knownM, hok]; rfl
  have HL1 : Hid (ts.length = 4) := hl1
  have HL2 : Hid (rs.length = 4) := hl2
  clear hl1 hl2
  go_enter Try.func14, Try.ntmps14
  go_upto_region 1 with fail
  rw [← HW0.out]
  clear HW0
  have p0 := at_cell k0 0
  have p1 := at_cell k0 1
  go_wp2_with fail
  refine (specMemoOk_any _ _ ts rs _ r0).mono ?_
  rw [hok]
  rintro e w1 ⟨rfl, b1⟩
  replace k0 := (b1.block _ (heap_lt k0)).trans k0
  replace k1 := (b1.block _ (heap_lt k1)).trans k1
  replace k2 := (b1.block _ (heap_lt k2)).trans k2
  replace d0 := bw_call d0 b1
  replace r0 := (r0.below b1).mono b1.size
  clear b1 p0 p1 hok
  have p0 := at_cell k0 0
  have p1 := at_cell k0 1
  go_wp2_with fail
  refine (l12Copy_any _ _ ts rs _ HL1.out HL2.out r0).mono ?_
  rintro e w2 ⟨u1, u2, rfl, own, b2⟩
  have hs2 := heap_lt k2
  obtain ⟨o3, c3, rfl⟩ := own_slice own.t
  obtain ⟨o4, c4, rfl⟩ := own_slice own.r
  obtain ⟨W3, hW3, k3, b3, z3⟩ := box1 w2 #[.slice o3 ts.length c3, .slice o4 rs.length c4] 27
  have HW3 : Hid (W3 = _) := hW3
  replace k0 := (b3.block _ (heap_lt ((b2.block _ (heap_lt k0)).trans k0))).trans ((b2.block _ (heap_lt k0)).trans k0)
  replace k1 := (b3.block _ (heap_lt ((b2.block _ (heap_lt k1)).trans k1))).trans ((b2.block _ (heap_lt k1)).trans k1)
  replace k2 := (b3.block _ (heap_lt ((b2.block _ (heap_lt k2)).trans k2))).trans ((b2.block _ (heap_lt k2)).trans k2)
  have hds : w.heap.size ≤ w1.heap.size := d0.size
  have hB : w.heap.size + 1 + 1 < w1.heap.size := hs2
  have hk3 : w.heap.size ≤ w2.heap.size := Nat.le_trans hds b2.size
  replace d0 := bw_call (bw_call d0 b2) b3
  replace r0 := (((r0.below b2).mono b2.size).below b3).mono b3.size
  replace own := own.below b3
  clear b2 b3 p0 p1 hW3 z3 hs2
  go_upto_region 4 with fail
  rw [← HW3.out]
  clear HW3
  generalize w2.heap.size = nB at *
  generalize w1.heap.size = B at *
  clear w2 w1
  have p0 := at_cell k0 0
  have p1 := at_cell k0 1
  go_wp2_with fail
  refine (specKnown_any _ _ ts rs client tag _ r0).mono ?_
  rintro e w4 ⟨rfl, b4⟩
  rw [HKM.out]
  have hbd := knownT_bd ts client tag
  replace k1 := (b4.block _ (heap_lt k1)).trans k1
  replace k2 := (b4.block _ (heap_lt k2)).trans k2
  replace k3 := (b4.block _ (heap_lt k3)).trans k3
  replace d0 := bw_call d0 b4
  replace own := own.below b4
  clear b4 p0 p1 k0 r0 HKM W3
  by_cases hk : knownT ts client tag = 0
  · obtain ⟨⟨hc0, hc3⟩, ⟨ht1, ht2⟩, -⟩ := knownT_new hk
    rw [hk]
    rw [hk] at HV
    have e0 := at_cell k1 0
    have e1 := at_cell k1 1
    clear hbd hk
    go_wp2_with fail
    refine (specReplyOk_any c v _).mono ?_
    rintro e w5 ⟨rfl, b5⟩
    replace k1 := (b5.block _ (heap_lt k1)).trans k1
    replace k2 := (b5.block _ (heap_lt k2)).trans k2
    replace k3 := (b5.block _ (heap_lt k3)).trans k3
    replace d0 := bw_call d0 b5
    replace own := own.below b5
    clear b5 e0 e1 w4
    cases hr : repOk c v
    · rw [hr, if_neg (by simp)] at HV
      have HS : Hid _ := mem_end w w5 _ _ _ _ (w.heap.size + 1 + 1) ts rs (by omega) k2 (own.mono hds) d0
      have q0 := at_cell k2 0
      have q1 := at_cell k2 1
      have f0 := at_open k2 0
      have f1 := at_open k2 1
      have e0 := at_cell k3 0
      have e1 := at_cell k3 1
      clear k1 k2 k3 own d0 hr HOK
      go_wp2_with fail
      exact bodyPost_ret (v := .tuple #[.agg #[.slice o3 ts.length c3, .slice o4 rs.length c4], .bool false]) (by simp [results, Try.results14, go_sem, at_cell HS.out.1]) rfl ⟨_, _, by rw [HV.out], by rw [HV.out]; exact HS.out.2⟩
    · rw [hr, if_pos (by simp)] at HV
      obtain ⟨C, rfl⟩ := Int.eq_ofNat_of_zero_le hc0
      have hC : C < 4 := by omega
      have HCT : Hid (((C : Int)).toNat = C) := rfl
      rw [HCT.out] at HV
      have i0 : (0 : Int) ≤ (C : Int) := by omega
      have i1 : (C : Int) < 4 := by omega
      obtain ⟨g3, rfl⟩ : ∃ g3, o3 = some ⟨g3, 0, none⟩ := by
        have h := own.t
        rw [HL1.out] at h
        obtain ⟨g, cp, e⟩ := owns_form h
        simp only [Value.slice.injEq] at e
        exact ⟨g, e.1⟩
      obtain ⟨g4, rfl⟩ : ∃ g4, o4 = some ⟨g4, 0, none⟩ := by
        have h := own.r
        rw [HL2.out] at h
        obtain ⟨g, cp, e⟩ := owns_form h
        simp only [Value.slice.injEq] at e
        exact ⟨g, e.1⟩
      -- the tag
      have hj1 : C < ts.length := by rw [HL1.out]; exact hC
      have hj2 : C < rs.length := by rw [HL2.out]; exact hC
      have i2 : (C : Int) < (ts.length : Int) := by omega
      have i3 : (C : Int) < (rs.length : Int) := by omega
      have t3 := own.t.cellAt C (by omega)
      have tf := own.t.frozenAt C
      rw [getD_some ts C hj1] at t3
      generalize ts.getD C 0 = y at t3
      have l3 := own.t.lt g3 rfl
      have l4 := own.r.lt g4 rfl
      have n3 : nB ≠ g3 := fun e => own_not_box own.t k3 (by decide) (by rw [e]; rfl)
      have m3 : nB ≠ g4 := fun e => own_not_box own.r k3 (by decide) (by rw [e]; rfl)
      have n4 : g4 ≠ g3 := fun e => own.apart g3 rfl (by rw [e]; rfl)
      have hst := (own.t.stored C (.int .i64 tag)).1
      rw [← List.map_set] at hst
      have u6 : Upto g3 w5 (w5.setCell ⟨g3, C, none⟩ (.int .i64 tag)) := (Upto.refl _ _).setCell ⟨g3, C, none⟩ (.inl rfl) _
      have k16 := (u6.block _ (heap_lt k1) (by omega)).trans k1
      have k26 := (u6.block _ (heap_lt k2) (by omega)).trans k2
      have k36 := (u6.block _ (heap_lt k3) n3).trans k3
      have o6 := own_rng_not own.r (fun g hg hv => u6.block g hg (fun e => own.apart g3 rfl (by rw [← e]; exact hv)))
      have d6 := d0.trans (u6.toBelow d0.size (by omega))
      have e0 := at_cell k3 0
      have e1 := at_cell k3 1
      have HX : Hid _ := And.intro hst (And.intro k16 (And.intro k26 (And.intro k36 (And.intro o6 d6))))
      clear hst k16 k26 k36 o6 d6 u6 own d0 k1 k2 k3 HOK hr
      go_upto_region 7 with fail
      obtain ⟨hst, k1, k2, k3, o6, d6⟩ := HX.out
      clear HX t3 tf e0 e1
      generalize w5.setCell ⟨g3, C, none⟩ (.int .i64 tag) = w6 at *
      obtain ⟨⟨r0, r1⟩, s0, s1⟩ := own_two o6 C hj2
      generalize rs[C] = z at r0 r1
      have hst2 := own_rep o6 C hj2 c v
      have u7 : Upto g4 w6 ((w6.setCell ⟨g4, C * 2, none⟩ (.int .i64 c)).setCell ⟨g4, C * 2 + 1, none⟩ (.int .i64 v)) := ((Upto.refl _ _).setCell ⟨g4, C * 2, none⟩ (.inl rfl) _).setCell ⟨g4, C * 2 + 1, none⟩ (.inl rfl) _
      have k27 := (u7.block _ (heap_lt k2) (by omega)).trans k2
      have k37 := (u7.block _ (heap_lt k3) m3).trans k3
      have ht7 := own_rng_not hst (fun g hg hv => u7.block g hg (fun e => n4 (by have hv' : some g3 = some g := hv; rw [← e]; exact (Option.some.inj hv').symm)))
      have d7 := d6.trans (u7.toBelow d6.size (by omega))
      have e0 := at_cell k3 0
      have e1 := at_cell k3 1
      have a0 := at_cell k1 0
      have a1 := at_cell k1 1
      have HX : Hid _ := And.intro hst2 (And.intro ht7 (And.intro k27 (And.intro k37 d7)))
      clear hst hst2 k27 k37 ht7 o6 d6 d7 u7 k1 k2 k3
      go_upto_region 8 with fail
      obtain ⟨hr8, ht8, k2, k3, d8⟩ := HX.out
      clear HX r0 r1 s0 s1 e0 e1 a0 a1
      generalize (w6.setCell ⟨g4, C * 2, none⟩ (.int .i64 c)).setCell ⟨g4, C * 2 + 1, none⟩ (.int .i64 v) = w8 at *
      have ow8 : OwnM w.heap.size w8 (.slice (some ⟨g3, 0, none⟩) ts.length c3) (.slice (some ⟨g4, 0, none⟩) rs.length c4) (ts.set C tag) (rs.set C (c, v)) := ⟨by rw [List.length_set]; exact owns_mono ht8 hds, owns_mono hr8 hds⟩
      have HS : Hid _ := mem_end w w8 _ _ _ _ (w.heap.size + 1 + 1) (ts.set C tag) (rs.set C (c, v)) (by omega) k2 ow8 d8
      have q0 := at_cell k2 0
      have q1 := at_cell k2 1
      have f0 := at_open k2 0
      have f1 := at_open k2 1
      have e0 := at_cell k3 0
      have e1 := at_cell k3 1
      clear ow8 d8 k2 k3 hr8 ht8
      go_wp2_with fail
      exact bodyPost_ret (v := .tuple #[.agg #[.slice (some ⟨g3, 0, none⟩) ts.length c3, .slice (some ⟨g4, 0, none⟩) rs.length c4], .bool true]) (by simp [results, Try.results14, go_sem, at_cell HS.out.1]) rfl ⟨_, _, by rw [HV.out], by rw [HV.out]; exact HS.out.2⟩
  · rw [if_neg (fun h => hk h.1)] at HV
    have hkb : (knownT ts client tag != 0) = true := by rw [bne_iff_ne]; exact hk
    generalize knownT ts client tag = kk at *
    have HS : Hid _ := mem_end w w4 _ _ _ _ (w.heap.size + 1 + 1) ts rs (by omega) k2 (own.mono hds) d0
    have q0 := at_cell k2 0
    have q1 := at_cell k2 1
    have f0 := at_open k2 0
    have f1 := at_open k2 1
    have e0 := at_cell k3 0
    have e1 := at_cell k3 1
    clear k1 k2 k3 own d0 HOK hk
    go_wp2_with fail
    exact bodyPost_ret (v := .tuple #[.agg #[.slice o3 ts.length c3, .slice o4 rs.length c4], .bool false]) (by simp [results, Try.results14, go_sem, at_cell HS.out.1]) rfl ⟨_, _, by rw [HV.out], by rw [HV.out]; exact HS.out.2⟩
end Go.Proofs.Ytpmoefagpglddaa

namespace Go.Proofs.Ytpmoefagpglddaa
open Go.RowKit

set_option linter.unusedVariables false

set_option maxRecDepth 100000


theorem within_any (x lo hi : Int) (w : World) :
    Calls Try.prog 57 #[.int .i64 x, .int .i64 lo, .int .i64 hi] w fun e w' => e = .returned (.bool (inB x lo hi)) ∧ w' = w := by
  by_cases h : lo ≤ x
  · go_enter Try.func57, Try.ntmps57
    go_wp2
    go_ret
    exact ⟨ret_bool (by simp [inB, h]), rfl⟩
  · go_enter Try.func57, Try.ntmps57
    go_wp2
    go_ret
    exact ⟨ret_bool (by simp [inB]; omega), rfl⟩
end Go.Proofs.Ytpmoefagpglddaa

namespace Go.Proofs.Ytpmoefagpglddaa
open Go.RowKit

set_option linter.unusedVariables false

set_option maxRecDepth 100000


theorem clientOk_any (x : Int) (w : World) : Calls Try.prog 55 #[.int .i64 x] w fun e w' => e = .returned (.bool (inB x 0 3)) ∧ w' = w := by
  go_enter Try.func55, Try.ntmps55
  go_wp2_with fail
  refine (within_any x 0 3 _).mono ?_
  rintro e w' ⟨rfl, rfl⟩
  go_wp2_with fail
  go_ret
  exact ⟨rfl, rfl⟩

theorem tagOk_any (x : Int) (w : World) : Calls Try.prog 56 #[.int .i64 x] w fun e w' => e = .returned (.bool (inB x 1 1000)) ∧ w' = w := by
  go_enter Try.func56, Try.ntmps56
  go_wp2_with fail
  refine (within_any x 1 1000 _).mono ?_
  rintro e w' ⟨rfl, rfl⟩
  go_wp2_with fail
  go_ret
  exact ⟨rfl, rfl⟩
end Go.Proofs.Ytpmoefagpglddaa

namespace Go.Proofs.Ytpmoefagpglddaa
open Go.RowKit

set_option linter.unusedVariables false

set_option maxRecDepth 100000


theorem within_rep (x lo hi : Int) (w : World) :
    Calls Try.prog 57 #[.int .i64 x, .int .i64 lo, .int .i64 hi] w fun e w' => e = .returned (.bool (inB x lo hi)) ∧ w' = w := by
  by_cases h : lo ≤ x
  · go_enter Try.func57, Try.ntmps57
    go_wp2
    go_ret
    exact ⟨ret_bool (by simp [inB, h]), rfl⟩
  · go_enter Try.func57, Try.ntmps57
    go_wp2
    go_ret
    exact ⟨ret_bool (by simp [inB]; omega), rfl⟩

theorem implReplyOk_any (c v : Int) (w : World) :
    Calls Try.prog 33 #[.agg #[.int .i64 c, .int .i64 v]] w fun e w' => e = .returned (.bool (repOk c v)) ∧ Below w.heap.size w w' := by
  obtain ⟨W0, hW0, k0, d0, z0⟩ := box1 w #[.int .i64 c, .int .i64 v] 29
  have HW0 : Hid (W0 = _) := hW0
  have p0 := at_cell k0 0
  have p1 := at_cell k0 1
  have HB : Hid (repOk c v = (inB c 0 9 && inB v 0 (if c = 0 then 1000 else 0))) := repOk_by c v
  clear hW0 k0
  by_cases h0 : c = 0
  · subst h0
    rw [if_pos rfl] at HB
    go_enter Try.func33, Try.ntmps33
    go_wp2_with fail
    rw [← HW0.out]
    clear HW0
    refine (within_rep 0 0 9 _).mono ?_
    have hin : inB 0 0 9 = true := rfl
    rw [hin] at HB ⊢
    rintro e w' ⟨rfl, rfl⟩
    clear hin
    go_wp2_with fail
    refine (within_rep v 0 1000 _).mono ?_
    generalize inB v 0 1000 = b1 at *
    rintro e w' ⟨rfl, rfl⟩
    go_wp2_with fail
    go_ret
    exact ⟨ret_bool (by rw [HB.out]; rfl), d0⟩
  · rw [if_neg h0] at HB
    go_enter Try.func33, Try.ntmps33
    go_wp2_with fail
    rw [← HW0.out]
    clear HW0 h0
    refine (within_rep c 0 9 _).mono ?_
    generalize inB c 0 9 = b0 at *
    rintro e w' ⟨rfl, rfl⟩
    cases b0
    · go_wp2_with fail
      go_ret
      exact ⟨ret_bool (by rw [HB.out]; rfl), d0⟩
    go_wp2_with fail
    refine (within_rep v 0 0 _).mono ?_
    generalize inB v 0 0 = b1 at *
    rintro e w' ⟨rfl, rfl⟩
    go_wp2_with fail
    go_ret
    exact ⟨ret_bool (by rw [HB.out]; rfl), d0⟩
end Go.Proofs.Ytpmoefagpglddaa

namespace Go.Proofs.Ytpmoefagpglddaa
open Go.RowKit

set_option linter.unusedVariables false

set_option maxRecDepth 100000

theorem setRow_row {w : World} {g : Nat} {old cs : Array Value} {ty : TypeId} {fr : Nat × Nat} (hg : w.heap[g]? = some (.cells old ty fr)) : (w.setRow g cs).heap[g]? = some (.cells cs ty fr) := by
  simp only [World.setRow, Array.getElem?_modify, hg, if_true]
  rfl

theorem setRow_below {w : World} {g B : Nat} {cs : Array Value} (h : B ≤ g) : Below B w (w.setRow g cs) := by
  refine ⟨rfl, rfl, rfl, by simp [World.setRow], fun k hk => ?_⟩
  simp only [World.setRow, Array.getElem?_modify]
  rw [if_neg (by omega)]

theorem one_cells (xs : List Int) (c : Array Value) (h : c.toList = xs.map (Value.int .i64)) : c.all (·.oneCell') = true := by
  rw [Array.all_eq_true_iff_forall_mem]
  intro u hu
  have : u ∈ c.toList := by simpa using hu
  rw [h] at this
  obtain ⟨x, _, rfl⟩ := List.mem_map.1 this
  rfl
end Go.Proofs.Ytpmoefagpglddaa

namespace Go.Proofs.Ytpmoefagpglddaa
open Go.RowKit

set_option linter.unusedVariables false

set_option maxRecDepth 100000


theorem four_tags (a b c d : Int) (k : Nat) (hk : k < 4) : (#[Value.int .i64 a, .int .i64 b, .int .i64 c, .int .i64 d] : Array Value)[k]? = some (.int .i64 ([a, b, c, d].getD k 0)) := by
  have h : k = 0 ∨ k = 1 ∨ k = 2 ∨ k = 3 := by omega
  rcases h with rfl | rfl | rfl | rfl <;> rfl

theorem hasTag_any (a b c d : Int) (k : Nat) (w : World) (hk : k < 4) :
    Calls Try.prog 62 #[.agg #[.int .i64 a, .int .i64 b, .int .i64 c, .int .i64 d], .int .i64 k] w fun e w' => e = .returned (.bool (!decide ([a, b, c, d].getD k 0 = 0))) ∧ Below w.heap.size w w' := by
  obtain ⟨W0, hW0, k0, d0, z0⟩ := box1 w #[.int .i64 a, .int .i64 b, .int .i64 c, .int .i64 d] 59
  have HW0 : Hid (W0 = _) := hW0
  have p := (at_cell k0 k).trans (four_tags a b c d k hk)
  have i0 : (0 : Int) ≤ (k : Int) := by omega
  have i1 : (k : Int) < 4 := by omega
  generalize [a, b, c, d].getD k 0 = x at p ⊢
  clear hW0 k0 z0
  go_enter Try.func62, Try.ntmps62
  go_upto_region 1 with fail
  rw [← HW0.out]
  clear HW0
  go_wp2_with fail
  go_ret
  exact ⟨ret_bool (by by_cases h : x = 0 <;> simp [h]), d0⟩

theorem index4 (c : Array Value) (k : Nat) (y : Int) (hk : k < 4) (hck : c[k]? = some (.int .i64 y)) (w : World) : (Instr.index 59 (.agg c) (.int .i64 (k : Int))).run Try.prog w = .ok (.int .i64 y) w := by
  obtain ⟨hlt, hv⟩ := Array.getElem?_eq_some_iff.1 hck
  simp [Instr.index, run_underlying Try.underlying59, hv, go_sem, hk, hlt]

theorem tagsRight_any (a b c d : Int) (w : World) :
    Calls Try.prog 53 #[.agg #[.int .i64 a, .int .i64 b, .int .i64 c, .int .i64 d]] w fun e w' => e = .returned (.bool (tagN [a, b, c, d] 4)) ∧ Below w.heap.size w w' := by
  obtain ⟨W0, hW0, k0, d0, z0⟩ := box1 w #[.int .i64 a, .int .i64 b, .int .i64 c, .int .i64 d] 59
  have HW0 : Hid (W0 = _) := hW0
  have p0 := at_cell k0 0
  have p1 := at_cell k0 1
  have p2 := at_cell k0 2
  have p3 := at_cell k0 3
  have s0 := heap_lt k0
  clear hW0 z0
  go_enter Try.func53, Try.ntmps53
  go_upto_region 1 with fail
  rw [← HW0.out]
  clear HW0
  go_wp2_with fail
  clear p0 p1 p2 p3
  go_loopw [6] (fun i wr => ∃ k : Nat, k ≤ 4 ∧ i = .int .i64 k ∧ tagN [a, b, c, d] k = true ∧ Below W0.heap.size W0 wr) (fun i _ => 4 - (intOf i).toNat)
  case atStart => exact ⟨0, Nat.zero_le _, rfl, rfl, Below.refl _ _⟩
  case round =>
    obtain ⟨k, hk, rfl, hall, hb⟩ := hrel
    have HA : Hid (tagN [a, b, c, d] k = true) := hall
    have kr := (hb.block _ s0).trans k0
    have dr := bw_call d0 hb
    clear hall
    by_cases hlt : k < 4
    · have hix := index4 _ k _ hlt (four_tags a b c d k hlt)
      have HY : Hid (tagAt ([a, b, c, d].getD k 0) = true → tagN [a, b, c, d] (k + 1) = true) := fun h => by rw [tagN, allB_succ, Bool.and_eq_true]; exact ⟨HA.out, h⟩
      have HN : Hid (tagAt ([a, b, c, d].getD k 0) = false → tagN [a, b, c, d] 4 = false) := fun h => allB_false _ 4 k hlt h
      have HH := fun W => hasTag_any a b c d k W hlt
      generalize [a, b, c, d].getD k 0 = x at hix HY HN HH
      have HT : Hid (tagAt x = !(!decide (x = 0) && !inB x 1 1000)) := rfl
      have i0 : (0 : Int) ≤ (k : Int) := by omega
      have i1 : (k : Int) < 4 := by omega
      have p0 := at_cell kr 0
      have p1 := at_cell kr 1
      have p2 := at_cell kr 2
      have p3 := at_cell kr 3
      clear HA
      go_wp2_with fail
      refine (HH _).mono ?_
      rintro e w3 ⟨rfl, b3⟩
      have hb3 := bw_call hb b3
      have dr3 := bw_call dr b3
      clear HH hb dr b3 kr p0 p1 p2 p3
      by_cases hx : x = 0
      · have HF : Hid _ := HY.out (by rw [HT.out, decide_eq_true hx]; rfl)
        rw [decide_eq_true hx]
        clear hx
        go_wp2_with fail
        go_roundw
        case rel => exact ⟨k + 1, by omega, by go_num, HF.out, hb3⟩
        case measure => simp [intOf]; omega
      · rw [decide_eq_false hx]
        rw [decide_eq_false hx] at HT
        go_wp2_with fail
        refine (tagOk_any x _).mono ?_
        rintro e w4 ⟨rfl, rfl⟩
        generalize inB x 1 1000 = bT at HT ⊢
        cases bT
        · have HF : Hid _ := HN.out (by rw [HT.out]; rfl)
          go_wp2_with fail
          go_ret
          exact ⟨ret_bool HF.out.symm, dr3⟩
        · have HF : Hid _ := HY.out (by rw [HT.out]; rfl)
          go_wp2_with fail
          go_roundw
          case rel => exact ⟨k + 1, by omega, by go_num, HF.out, hb3⟩
          case measure => simp [intOf]; omega
    · obtain rfl : k = 4 := by omega
      go_wp2_with fail
      go_ret
      exact ⟨ret_bool HA.out.symm, dr⟩

/-- A memo's eight numbers behind its four tags. -/
theorem index4r0 (a0 a1 b0 b1 c0 c1 d0 d1 : Int) (w : World) : (Instr.index 60 (.agg #[.int .i64 a0, .int .i64 a1, .int .i64 b0, .int .i64 b1, .int .i64 c0, .int .i64 c1, .int .i64 d0, .int .i64 d1]) (.int .i64 0)).run Try.prog w = .ok (.agg #[.int .i64 a0, .int .i64 a1]) w := by kernel_rfl

theorem index4r1 (a0 a1 b0 b1 c0 c1 d0 d1 : Int) (w : World) : (Instr.index 60 (.agg #[.int .i64 a0, .int .i64 a1, .int .i64 b0, .int .i64 b1, .int .i64 c0, .int .i64 c1, .int .i64 d0, .int .i64 d1]) (.int .i64 1)).run Try.prog w = .ok (.agg #[.int .i64 b0, .int .i64 b1]) w := by kernel_rfl

theorem index4r2 (a0 a1 b0 b1 c0 c1 d0 d1 : Int) (w : World) : (Instr.index 60 (.agg #[.int .i64 a0, .int .i64 a1, .int .i64 b0, .int .i64 b1, .int .i64 c0, .int .i64 c1, .int .i64 d0, .int .i64 d1]) (.int .i64 2)).run Try.prog w = .ok (.agg #[.int .i64 c0, .int .i64 c1]) w := by kernel_rfl

theorem index4r3 (a0 a1 b0 b1 c0 c1 d0 d1 : Int) (w : World) : (Instr.index 60 (.agg #[.int .i64 a0, .int .i64 a1, .int .i64 b0, .int .i64 b1, .int .i64 c0, .int .i64 c1, .int .i64 d0, .int .i64 d1]) (.int .i64 3)).run Try.prog w = .ok (.agg #[.int .i64 d0, .int .i64 d1]) w := by kernel_rfl

theorem index4r (a0 a1 b0 b1 c0 c1 d0 d1 : Int) (k : Nat) (hk : k < 4) (w : World) : (Instr.index 60 (.agg #[.int .i64 a0, .int .i64 a1, .int .i64 b0, .int .i64 b1, .int .i64 c0, .int .i64 c1, .int .i64 d0, .int .i64 d1]) (.int .i64 (k : Int))).run Try.prog w = .ok (.agg #[.int .i64 ([(a0, a1), (b0, b1), (c0, c1), (d0, d1)].getD k (0, 0)).1, .int .i64 ([(a0, a1), (b0, b1), (c0, c1), (d0, d1)].getD k (0, 0)).2]) w := by
  have h : k = 0 ∨ k = 1 ∨ k = 2 ∨ k = 3 := by omega
  rcases h with rfl | rfl | rfl | rfl
  · exact index4r0 a0 a1 b0 b1 c0 c1 d0 d1 w
  · exact index4r1 a0 a1 b0 b1 c0 c1 d0 d1 w
  · exact index4r2 a0 a1 b0 b1 c0 c1 d0 d1 w
  · exact index4r3 a0 a1 b0 b1 c0 c1 d0 d1 w

set_option maxHeartbeats 1600000 in
theorem repliesRight_any (a b c d a0 a1 b0 b1 c0 c1 e0 e1 : Int) (w : World) :
    Calls Try.prog 54 #[.agg #[.int .i64 a, .int .i64 b, .int .i64 c, .int .i64 d, .int .i64 a0, .int .i64 a1, .int .i64 b0, .int .i64 b1, .int .i64 c0, .int .i64 c1, .int .i64 e0, .int .i64 e1]] w fun e w' => e = .returned (.bool (repN [a, b, c, d] [(a0, a1), (b0, b1), (c0, c1), (e0, e1)] 4)) ∧ Below w.heap.size w w' := by
  obtain ⟨W0, hW0, k0, d0, z0⟩ := box1 w #[.int .i64 a, .int .i64 b, .int .i64 c, .int .i64 d, .int .i64 a0, .int .i64 a1, .int .i64 b0, .int .i64 b1, .int .i64 c0, .int .i64 c1, .int .i64 e0, .int .i64 e1] 62
  have HW0 : Hid (W0 = _) := hW0
  have p4 := at_cell k0 4
  have p5 := at_cell k0 5
  have p6 := at_cell k0 6
  have p7 := at_cell k0 7
  have p8 := at_cell k0 8
  have p9 := at_cell k0 9
  have pa := at_cell k0 10
  have pb := at_cell k0 11
  have s0 := heap_lt k0
  clear hW0 z0
  go_enter Try.func54, Try.ntmps54
  go_upto_region 1 with fail
  rw [← HW0.out]
  clear HW0
  go_wp2_with fail
  clear p4 p5 p6 p7 p8 p9 pa pb
  go_loopw [7] (fun i wr => ∃ k : Nat, k ≤ 4 ∧ i = .int .i64 k ∧ repN [a, b, c, d] [(a0, a1), (b0, b1), (c0, c1), (e0, e1)] k = true ∧ Below W0.heap.size W0 wr) (fun i _ => 4 - (intOf i).toNat)
  case atStart => exact ⟨0, Nat.zero_le _, rfl, rfl, Below.refl _ _⟩
  case round =>
    obtain ⟨k, hk, rfl, hall, hb⟩ := hrel
    have HA : Hid (repN [a, b, c, d] [(a0, a1), (b0, b1), (c0, c1), (e0, e1)] k = true) := hall
    have kr := (hb.block _ s0).trans k0
    have dr := bw_call d0 hb
    clear hall
    by_cases hlt : k < 4
    · have hix := index4r a0 a1 b0 b1 c0 c1 e0 e1 k hlt
      have HY : Hid (repAt ([a, b, c, d].getD k 0) ([(a0, a1), (b0, b1), (c0, c1), (e0, e1)].getD k (0, 0)) = true → repN [a, b, c, d] [(a0, a1), (b0, b1), (c0, c1), (e0, e1)] (k + 1) = true) := fun h => by rw [repN, allB_succ, Bool.and_eq_true]; exact ⟨HA.out, h⟩
      have HN : Hid (repAt ([a, b, c, d].getD k 0) ([(a0, a1), (b0, b1), (c0, c1), (e0, e1)].getD k (0, 0)) = false → repN [a, b, c, d] [(a0, a1), (b0, b1), (c0, c1), (e0, e1)] 4 = false) := fun h => allB_false _ 4 k hlt h
      have HH := fun W => hasTag_any a b c d k W hlt
      generalize [a, b, c, d].getD k 0 = x at HY HN HH
      generalize [(a0, a1), (b0, b1), (c0, c1), (e0, e1)].getD k (0, 0) = rr at hix HY HN
      obtain ⟨rc, rv⟩ := rr
      simp only at hix
      have HT : Hid (repAt x (rc, rv) = (repOk rc rv && (!decide (x = 0) || decide ((rc, rv) = (0, 0))))) := rfl
      have i0 : (0 : Int) ≤ (k : Int) := by omega
      have i1 : (k : Int) < 4 := by omega
      have hg := Try.eqGuardType29
      obtain ⟨W1, hW1, k1, b1, z1⟩ := box1 wr #[.int .i64 rc, .int .i64 rv] 29
      have HW1 : Hid (W1 = _) := hW1
      replace kr := (b1.block _ (heap_lt kr)).trans kr
      replace hb := bw_call hb b1
      replace dr := bw_call dr b1
      clear HA hW1 z1 b1
      go_upto_region 4 with fail
      rw [← HW1.out]
      clear HW1 hix
      generalize wr.heap.size = nB at *
      have f0 := at_cell k1 0
      have f1 := at_cell k1 1
      go_wp2_with fail
      refine (implReplyOk_any rc rv _).mono ?_
      rintro e w3 ⟨rfl, b3⟩
      replace kr := (b3.block _ (heap_lt kr)).trans kr
      replace k1 := (b3.block _ (heap_lt k1)).trans k1
      replace hb := bw_call hb b3
      replace dr := bw_call dr b3
      clear b3 f0 f1
      generalize repOk rc rv = bR at HT ⊢
      cases bR
      · have HF : Hid _ := HN.out (by rw [HT.out]; rfl)
        go_wp2_with fail
        go_ret
        exact ⟨ret_bool HF.out.symm, dr⟩
      have p0 := at_cell kr 0
      have p1 := at_cell kr 1
      have p2 := at_cell kr 2
      have p3 := at_cell kr 3
      go_wp2_with fail
      refine (HH _).mono ?_
      rintro e w4 ⟨rfl, b4⟩
      replace k1 := (b4.block _ (heap_lt k1)).trans k1
      replace hb := bw_call hb b4
      replace dr := bw_call dr b4
      clear b4 kr HH p0 p1 p2 p3
      by_cases hx : x = 0
      · rw [decide_eq_true hx]
        obtain ⟨bb, hbb⟩ : ∃ y, decide ((rc, rv) = ((0 : Int), (0 : Int))) = y := ⟨_, rfl⟩
        have HEQ : ∀ W : World, (Op.equalIn 10000 29 (.agg #[.int .i64 rc, .int .i64 rv]) (.agg #[.int .i64 0, .int .i64 0])).run Try.prog W = .ok bb W := fun W => by rw [← hbb]; exact rep_equal _ _ _ _ W
        have HM2 : Hid (repAt x (rc, rv) = bb) := by rw [Hid, HT.out, hbb, decide_eq_true hx]; rfl
        have f0 := at_cell k1 0
        have f1 := at_cell k1 1
        clear hbb HT hx k1
        cases bb
        · have HF : Hid _ := HN.out HM2.out
          go_wp2_with fail
          go_ret
          exact ⟨ret_bool HF.out.symm, dr⟩
        · have HF : Hid _ := HY.out HM2.out
          go_wp2_with fail
          go_roundw
          case rel => exact ⟨k + 1, by omega, by go_num, HF.out, hb⟩
          case measure => simp [intOf]; omega
      · have HF : Hid _ := HY.out (by rw [HT.out, decide_eq_false hx]; rfl)
        rw [decide_eq_false hx]
        clear hx
        go_wp2_with fail
        go_roundw
        case rel => exact ⟨k + 1, by omega, by go_num, HF.out, hb⟩
        case measure => simp [intOf]; omega
    · obtain rfl : k = 4 := by omega
      go_wp2_with fail
      go_ret
      exact ⟨ret_bool HA.out.symm, dr⟩

theorem implKnownT_any (a b c d client tag : Int) (w : World) :
    Calls Try.prog 32 #[.agg #[.int .i64 a, .int .i64 b, .int .i64 c, .int .i64 d], .int .i64 client, .int .i64 tag] w fun e w' => e = .returned (.int .i64 (knownT [a, b, c, d] client tag)) ∧ Below w.heap.size w w' := by
  obtain ⟨W0, hW0, k0, d0, z0⟩ := box1 w #[.int .i64 a, .int .i64 b, .int .i64 c, .int .i64 d] 59
  have HW0 : Hid (W0 = _) := hW0
  have HT : Hid (knownT [a, b, c, d] client tag = if inB client 0 3 = true ∧ inB tag 1 1000 = true then knownIn [a, b, c, d] client tag else -1) := rfl
  have HCB : Hid (inB client 0 3 = true → 0 ≤ client ∧ client ≤ 3) := fun h => (inB_iff _ _ _).1 h
  clear hW0 z0
  go_enter Try.func32, Try.ntmps32
  go_upto_region 1 with fail
  rw [← HW0.out]
  clear HW0
  go_wp2_with fail
  refine (clientOk_any client _).mono ?_
  rintro e w1 ⟨rfl, rfl⟩
  generalize inB client 0 3 = bC at HT HCB ⊢
  cases bC
  · go_wp2_with fail
    go_ret
    exact ⟨ret_int (by rw [HT.out]; rfl), d0⟩
  go_wp2_with fail
  refine (tagOk_any tag _).mono ?_
  rintro e w1 ⟨rfl, rfl⟩
  generalize inB tag 1 1000 = bT at HT ⊢
  cases bT
  · go_wp2_with fail
    go_ret
    exact ⟨ret_int (by rw [HT.out]; rfl), d0⟩
  rw [if_pos (by simp)] at HT
  obtain ⟨hc0, hc3⟩ := HCB.out (by simp)
  obtain ⟨C, rfl⟩ := Int.eq_ofNat_of_zero_le hc0
  have hC : C < 4 := by omega
  have p := (at_cell k0 C).trans (four_tags a b c d C hC)
  have HV : Hid (knownIn [a, b, c, d] (C : Int) tag = if [a, b, c, d].getD C 0 < tag then 0 else if tag = [a, b, c, d].getD C 0 then 1 else 2) := rfl
  generalize [a, b, c, d].getD C 0 = x at p HV
  have i0 : (0 : Int) ≤ (C : Int) := by omega
  have i1 : (C : Int) < 4 := by omega
  clear HCB hc0 hc3 k0
  by_cases hx : x < tag
  · rw [if_pos hx] at HV
    go_wp2_with fail
    go_ret
    exact ⟨ret_int (by rw [HT.out, HV.out]), d0⟩
  · rw [if_neg hx] at HV
    by_cases he : tag = x
    · rw [if_pos he] at HV
      subst he
      go_wp2_with fail
      go_ret
      exact ⟨ret_int (by rw [HT.out, HV.out]), d0⟩
    · rw [if_neg he] at HV
      have hb : (tag == x) = false := by rw [beq_eq_false_iff_ne]; exact he
      go_wp2_with fail
      go_ret
      exact ⟨ret_int (by rw [HT.out, HV.out]), d0⟩
end Go.Proofs.Ytpmoefagpglddaa

namespace Go.Proofs.Ytpmoefagpglddaa
open Go.RowKit

set_option linter.unusedVariables false

set_option maxRecDepth 100000


theorem run_copy_all {P : Program} (w : World) (T ty e : TypeId) (hu : P.underlying T = some (.slice e)) (hsz : (P.info? e).map (·.size) = some 1)
    (base g n cap : Nat) (ys news : List Value) (hown : w.ownsRow base e 1 (.slice (some ⟨g, 0, none⟩) n cap) n ys)
    (ad : Option Addr) (c : Nat) (hl : news.length = n) (hnews : ∀ j u, news[j]? = some u → ∃ g off, ad = some ⟨g, off, none⟩ ∧ w.cell? ⟨g, off + j, none⟩ = some u) (h1 : ∀ u ∈ news, u.oneCell' = true) :
    ∃ w', (Builtin.copy_ #[T, T] ty #[.slice (some ⟨g, 0, none⟩) n cap, .slice ad n c]).run P w = .ok (.int .i64 n) w' ∧ w'.ownsRow base e 1 (.slice (some ⟨g, 0, none⟩) n cap) n news ∧ Upto g w w' := by
  rcases Nat.eq_zero_or_pos n with hn | hn
  · subst hn
    have e1 : news = [] := List.length_eq_zero_iff.1 hl
    have e2 : ys = [] := List.length_eq_zero_iff.1 (by simpa using hown.1)
    subst e1
    subst e2
    exact ⟨w, run_copy_none (P := P) w T T ty e _ _ 0 cap 0 c hu hsz rfl, hown, Upto.refl _ _⟩
  · obtain ⟨g', off, rfl, _⟩ := hnews 0 _ (List.getElem?_eq_getElem (show 0 < news.length by omega))
    have hsrc : ∀ j v, news[j]? = some v → w.cell? ((⟨g', off, none⟩ : Addr).add j) = some v := fun j u hj => by
      obtain ⟨g2, off2, e2, hc⟩ := hnews j u hj
      cases e2
      have ea : (⟨g', off, none⟩ : Addr).add j = ⟨g', off + j, none⟩ := by unfold Addr.add; split <;> simp_all
      rw [ea]; exact hc
    rcases hown.2 with ⟨h', _⟩ | ⟨g2, cap2, cur, h', hbg, hg, hnc, hcm, hcs, htake⟩
    · cases h'
    · simp only [Value.slice.injEq, Option.some.injEq, Addr.mk.injEq, and_true, true_and] at h'
      obtain ⟨rfl, rfl⟩ := h'
      have hr := run_copy_row (P := P) w T T ty e g 0 n cap ⟨g', off, none⟩ n c cur e news hu hsz hg (by rw [hl]; exact (Nat.min_self n).symm) hsrc (by omega) h1
      rw [hl] at hr
      refine ⟨_, hr, ⟨by omega, .inr ⟨g, cap, _, rfl, hbg, setRow_heap w g cur _ e _ hg, hnc, hcm, ?_, ?_⟩⟩, ⟨rfl, rfl, rfl, by simp, fun k _ hk => setRow_other w g k _ hk⟩⟩
      · simp; omega
      · rw [Nat.mul_one, List.take_zero, List.nil_append, ← hl]
        exact List.take_left
end Go.Proofs.Ytpmoefagpglddaa

