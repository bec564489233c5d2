/-
  Chapter 6's draws for the laws: DrawAlike.
-/
import Derived.Test.YtehjahegokeofabDrawBook2
namespace Go.Proofs.Ytehjahegokeofab
open Go.RowKit
set_option linter.unusedVariables false

theorem own_upto {w w' : World} {base : Nat} {e : TypeId} {size : Nat} {v : Value} {n : Nat} {xs : List Value} {g : Nat} {cs : Array Value} {t : TypeId} (h : w.ownsRow base e size v n xs) (k : w.heap[g]? = some (.cells cs t (0, 0))) (ht : t ≠ e) (u : Upto g w w') : w'.ownsRow base e size v n xs := by
  have hv := own_not_box h k ht
  exact own_rng_not h (fun q hq hqv => u.block q hq (fun e => hv (by rw [← e]; exact hqv)))
theorem upto_five (W : World) (b : Nat) (y0 y1 y2 y3 y4 : Value) : Upto b W (((((W.setCell ⟨b, 0, none⟩ y0).setCell ⟨b, 1, none⟩ y1).setCell ⟨b, 2, none⟩ y2).setCell ⟨b, 3, none⟩ y3).setCell ⟨b, 4, none⟩ y4) :=
  (((((Upto.refl _ _).setCell ⟨b, 0, none⟩ (.inl rfl) _).setCell ⟨b, 1, none⟩ (.inl rfl) _).setCell ⟨b, 2, none⟩ (.inl rfl) _).setCell ⟨b, 3, none⟩ (.inl rfl) _).setCell ⟨b, 4, none⟩ (.inl rfl) _

/-- Both answers are written, in one order or the other. -/
theorem alike_end {w W : World} {g h ba bb : Nat} {a b : Bk} {x0 x1 x2 x3 x4 z0 z1 z2 z3 z4 : Value} (hgh : g ≠ h) (hg : w.heap.size ≤ g) (hh : w.heap.size ≤ h) (kg : W.heap[g]? = some (.cells #[x0, x1, x2, x3, x4] 50 (0, 0))) (kh : W.heap[h]? = some (.cells #[z0, z1, z2, z3, z4] 50 (0, 0)))
    (oa : W.ownsRow ba 80 3 a.m a.rs.length (a.rs.flatMap runC)) (ob : W.ownsRow bb 80 3 b.m b.rs.length (b.rs.flatMap runC)) (fa : FitRuns a.rs ∧ a.nm.size ≤ 5) (fb : FitRuns b.rs ∧ b.nm.size ≤ 5) (d : Below w.heap.size w W) (y0 y1 y2 y3 y4 v0 v1 v2 v3 v4 : Value) :
    ((((((((((W.setCell ⟨g, 0, none⟩ y0).setCell ⟨g, 1, none⟩ y1).setCell ⟨g, 2, none⟩ y2).setCell ⟨g, 3, none⟩ y3).setCell ⟨g, 4, none⟩ y4).setCell ⟨h, 0, none⟩ v0).setCell ⟨h, 1, none⟩ v1).setCell ⟨h, 2, none⟩ v2).setCell ⟨h, 3, none⟩ v3).setCell ⟨h, 4, none⟩ v4).heap[g]? = some (.cells #[y0, y1, y2, y3, y4] 50 (0, 0)) ∧
    ((((((((((W.setCell ⟨g, 0, none⟩ y0).setCell ⟨g, 1, none⟩ y1).setCell ⟨g, 2, none⟩ y2).setCell ⟨g, 3, none⟩ y3).setCell ⟨g, 4, none⟩ y4).setCell ⟨h, 0, none⟩ v0).setCell ⟨h, 1, none⟩ v1).setCell ⟨h, 2, none⟩ v2).setCell ⟨h, 3, none⟩ v3).setCell ⟨h, 4, none⟩ v4).heap[h]? = some (.cells #[v0, v1, v2, v3, v4] 50 (0, 0)) ∧
    Drawn ((((((((((W.setCell ⟨g, 0, none⟩ y0).setCell ⟨g, 1, none⟩ y1).setCell ⟨g, 2, none⟩ y2).setCell ⟨g, 3, none⟩ y3).setCell ⟨g, 4, none⟩ y4).setCell ⟨h, 0, none⟩ v0).setCell ⟨h, 1, none⟩ v1).setCell ⟨h, 2, none⟩ v2).setCell ⟨h, 3, none⟩ v3).setCell ⟨h, 4, none⟩ v4) a ∧
    Drawn ((((((((((W.setCell ⟨g, 0, none⟩ y0).setCell ⟨g, 1, none⟩ y1).setCell ⟨g, 2, none⟩ y2).setCell ⟨g, 3, none⟩ y3).setCell ⟨g, 4, none⟩ y4).setCell ⟨h, 0, none⟩ v0).setCell ⟨h, 1, none⟩ v1).setCell ⟨h, 2, none⟩ v2).setCell ⟨h, 3, none⟩ v3).setCell ⟨h, 4, none⟩ v4) b ∧
    Below w.heap.size w ((((((((((W.setCell ⟨g, 0, none⟩ y0).setCell ⟨g, 1, none⟩ y1).setCell ⟨g, 2, none⟩ y2).setCell ⟨g, 3, none⟩ y3).setCell ⟨g, 4, none⟩ y4).setCell ⟨h, 0, none⟩ v0).setCell ⟨h, 1, none⟩ v1).setCell ⟨h, 2, none⟩ v2).setCell ⟨h, 3, none⟩ v3).setCell ⟨h, 4, none⟩ v4) := by
  have u := upto_five W g y0 y1 y2 y3 y4
  have k1 := set_five kg y0 y1 y2 y3 y4
  have k2 := (u.block _ (heap_lt kh) (Ne.symm hgh)).trans kh
  have oa1 := own_upto oa kg (by decide) u
  have ob1 := own_upto ob kg (by decide) u
  have d1 := bw_five d hg y0 y1 y2 y3 y4
  generalize ((((W.setCell ⟨g, 0, none⟩ y0).setCell ⟨g, 1, none⟩ y1).setCell ⟨g, 2, none⟩ y2).setCell ⟨g, 3, none⟩ y3).setCell ⟨g, 4, none⟩ y4 = W1 at *
  have u2 := upto_five W1 h v0 v1 v2 v3 v4
  have e : (5 : Nat) ≤ maxLen := by unfold maxLen; omega
  exact ⟨(u2.block _ (heap_lt k1) hgh).trans k1, set_five k2 v0 v1 v2 v3 v4, ⟨ReadsR.of_own runC_len (own_upto oa1 k2 (by decide) u2), fa.1, Nat.le_trans fa.2 e⟩, ⟨ReadsR.of_own runC_len (own_upto ob1 k2 (by decide) u2), fb.1, Nat.le_trans fb.2 e⟩, bw_five d1 hh v0 v1 v2 v3 v4⟩

set_option maxRecDepth 100000 in
set_option maxHeartbeats 6400000 in
theorem drawAlike_any (x : Option Addr) (len cap : Nat) (w : World) (hs : Src w w.heap.size x len) :
    Calls Try.prog 35 #[.slice x len cap] w fun e w' => ∃ a b : Bk, e = .returned (.tuple #[.agg #[.string a.nm, .int .i64 a.sz, a.m, .bool a.fx, .int .i64 a.ep], .agg #[.string b.nm, .int .i64 b.sz, b.m, .bool b.fx, .int .i64 b.ep]]) ∧ Drawn w' a ∧ Drawn w' b ∧ Below w.heap.size w w' := by
  obtain ⟨W0, hW0, k0, k1, d0, z0⟩ := box2 w #[.string ⟨#[]⟩, .int .i64 0, .slice none 0 0, .bool false, .int .i64 0] #[.string ⟨#[]⟩, .int .i64 0, .slice none 0 0, .bool false, .int .i64 0] 50 50
  have HW0 : Hid (W0 = _) := hW0
  have hs0 := (hs.below d0).mono d0.size
  have z0a : w.heap.size + 1 + 1 ≤ W0.heap.size := by omega
  clear hW0 z0 hs
  go_enter Try.func35, Try.ntmps35
  go_wp2_with fail
  rw [← HW0.out]
  clear HW0
  refine (new_any x len cap _ hs0).mono ?_
  rintro e w1 ⟨rfl, b1, kc⟩
  generalize W0.heap.size = c at *
  replace k0 := (b1.block _ (by omega)).trans k0
  replace k1 := (b1.block _ (by omega)).trans k1
  replace d0 := d0.trans (b1.mono (by omega))
  have z1 := kc.lt
  clear b1 hs0
  go_wp2_with fail
  refine (draw6_any c x len cap _ kc).mono ?_
  rintro e w2 ⟨a, rfl, st⟩
  obtain ⟨o1, c1, hf⟩ := st.form
  obtain ⟨an, az, am, ar, af, ae⟩ := a
  simp only at hf
  subst hf
  replace k0 := (st.u.block _ (by omega) (by omega)).trans k0
  replace k1 := (st.u.block _ (by omega) (by omega)).trans k1
  replace d0 := d0.trans (st.u.toBelow (by omega) (by omega))
  have z2 := st.u.size
  clear kc
  have bP : Below w2.heap.size w2 (w2.alloc (.cells #[.string an, .int .i64 az, .slice o1 ar.length c1, .bool af, .int .i64 ae] 50)) := bw_alloc (Below.refl _ _)
  have kA := heap_alloc_new w2 (.cells #[.string an, .int .i64 az, .slice o1 ar.length c1, .bool af, .int .i64 ae] 50)
  replace k0 := (bP.block _ (by omega)).trans k0
  replace k1 := (bP.block _ (by omega)).trans k1
  replace d0 := bw_call d0 bP
  replace st := st.below bP
  simp only at st ⊢
  go_wp2_with fail
  generalize w2.alloc (.cells #[.string an, .int .i64 az, .slice o1 ar.length c1, .bool af, .int .i64 ae] 50) = W3 at *
  generalize w2.heap.size = nA at *
  refine (once_any c x len cap 2 _ (by omega) st.kc).mono ?_
  rintro e w4 ⟨y, rfl, u4, k4⟩
  have hAl := heap_lt kA
  replace k0 := (u4.block _ (by omega) (by omega)).trans k0
  replace k1 := (u4.block _ (by omega) (by omega)).trans k1
  replace kA := (u4.block _ (by omega) (by omega)).trans kA
  replace d0 := d0.trans (u4.toBelow (by omega) (by omega))
  replace st := st.step u4 k4
  have z4 := u4.size
  clear bP u4 k4
  have lA : nA < w4.heap.size := Nat.lt_of_lt_of_le hAl z4
  have l0 : w.heap.size < w4.heap.size := heap_lt k0
  have l1 : w.heap.size + 1 < w4.heap.size := heap_lt k1
  have nA1 : nA ≠ c := by omega
  have n0 : w.heap.size ≠ c := by omega
  have n1 : w.heap.size + 1 ≠ c := by omega
  cases y
  · go_wp2_with fail
    have S0 : w4.drew.cell? ⟨nA, 0, none⟩ = #[Value.string an, .int .i64 az, .slice o1 ar.length c1, .bool af, .int .i64 ae][0]? := at_cell kA 0
    have S1 : w4.drew.cell? ⟨nA, 1, none⟩ = #[Value.string an, .int .i64 az, .slice o1 ar.length c1, .bool af, .int .i64 ae][1]? := at_cell kA 1
    have S2 : w4.drew.cell? ⟨nA, 2, none⟩ = #[Value.string an, .int .i64 az, .slice o1 ar.length c1, .bool af, .int .i64 ae][2]? := at_cell kA 2
    have S3 : w4.drew.cell? ⟨nA, 3, none⟩ = #[Value.string an, .int .i64 az, .slice o1 ar.length c1, .bool af, .int .i64 ae][3]? := at_cell kA 3
    have S4 : w4.drew.cell? ⟨nA, 4, none⟩ = #[Value.string an, .int .i64 az, .slice o1 ar.length c1, .bool af, .int .i64 ae][4]? := at_cell kA 4
    go_region_law (go_simp; go_at_call 73; refine (draw6_any c x len cap _ st.kc.drew).mono ?_; rintro e w5 ⟨b, rfl, sb⟩; obtain ⟨o2, c2, hf2⟩ := sb.form; obtain ⟨bn, bz, bm, br, bf, be⟩ := b; simp only at hf2; subst hf2; have U5 := upto_undrew sb.u; have kA5 := (U5.block _ lA nA1).trans kA; have k05 := (U5.block _ l0 n0).trans k0; have k15 := (U5.block _ l1 n1).trans k1; have st5 := st.step U5 sb.kc; have A0 := at_cell kA5 0; have Q0 := at_cell k05 0; have R0 := at_cell k15 0; have F0 := at_open k05 0; have H0 := at_open k15 0; have A1 := at_cell kA5 1; have Q1 := at_cell k05 1; have R1 := at_cell k15 1; have F1 := at_open k05 1; have H1 := at_open k15 1; have A2 := at_cell kA5 2; have Q2 := at_cell k05 2; have R2 := at_cell k15 2; have F2 := at_open k05 2; have H2 := at_open k15 2; have A3 := at_cell kA5 3; have Q3 := at_cell k05 3; have R3 := at_cell k15 3; have F3 := at_open k05 3; have H3 := at_open k15 3; have A4 := at_cell kA5 4; have Q4 := at_cell k05 4; have R4 := at_cell k15 4; have F4 := at_open k05 4; have H4 := at_open k15 4; dsimp only)
    all_goals
      have d5 := d0.trans (U5.toBelow (by omega) (by omega))
      have HE1 : Hid _ := alike_end (w := w) (g := w.heap.size) (h := w.heap.size + 1) (a := ⟨an, az, .slice o1 ar.length c1, ar, af, ae⟩) (b := ⟨bn, bz, .slice o2 br.length c2, br, bf, be⟩) (by omega) (by omega) (by omega) k05 k15 st5.own sb.own ⟨st5.fit, st5.nm⟩ ⟨sb.fit, sb.nm⟩ d5 (.string an) (.int .i64 az) (.slice o1 ar.length c1) (.bool af) (.int .i64 ae) (.string bn) (.int .i64 bz) (.slice o2 br.length c2) (.bool bf) (.int .i64 be)
      clear k0 k1 kA st d0 k05 k15 kA5 st5 sb U5 d5
      go_wp2_with fail
      exact bodyPost_ret (v := .tuple #[.agg #[.string an, .int .i64 az, .slice o1 ar.length c1, .bool af, .int .i64 ae], .agg #[.string bn, .int .i64 bz, .slice o2 br.length c2, .bool bf, .int .i64 be]]) (by simp [results, Try.results35, go_sem, at_cell HE1.out.1, at_cell HE1.out.2.1]) rfl ⟨⟨an, az, .slice o1 ar.length c1, ar, af, ae⟩, ⟨bn, bz, .slice o2 br.length c2, br, bf, be⟩, rfl, HE1.out.2.2.1, HE1.out.2.2.2.1, HE1.out.2.2.2.2⟩
  · have p0 := at_cell kA 0
    have p1 := at_cell kA 1
    have p2 := at_cell kA 2
    have p3 := at_cell kA 3
    have p4 := at_cell kA 4
    have bP : Below w4.heap.size w4 (w4.alloc (.cells #[.string ⟨#[122, 122]⟩, .int .i64 az, .slice o1 ar.length c1, .bool af, .int .i64 0] 50)) := bw_alloc (Below.refl _ _)
    have kB := heap_alloc_new w4 (.cells #[.string ⟨#[122, 122]⟩, .int .i64 az, .slice o1 ar.length c1, .bool af, .int .i64 0] 50)
    go_wp2_with fail
    clear p0 p1 p2 p3 p4
    replace k0 := (bP.block _ (by omega)).trans k0
    replace k1 := (bP.block _ (by omega)).trans k1
    replace kA := (bP.block _ (by omega)).trans kA
    replace d0 := bw_call d0 bP
    replace st := st.below bP
    have z5 := heap_lt kB
    clear bP
    generalize w4.alloc (.cells #[.string ⟨#[122, 122]⟩, .int .i64 az, .slice o1 ar.length c1, .bool af, .int .i64 0] 50) = W5 at *
    generalize w4.heap.size = nB at *
    refine (once_any c x len cap 3 _ (by omega) st.kc).mono ?_
    rintro e w6 ⟨y, rfl, u4, k4⟩
    replace k0 := (u4.block _ (by omega) (by omega)).trans k0
    replace k1 := (u4.block _ (by omega) (by omega)).trans k1
    replace kA := (u4.block _ (by omega) (by omega)).trans kA
    replace kB := (u4.block _ (by omega) (by omega)).trans kB
    replace d0 := d0.trans (u4.toBelow (by omega) (by omega))
    replace st := st.step u4 k4
    have z6 := u4.size
    clear u4 k4
    cases y
    · have HE1 : Hid _ := alike_end (w := w) (g := w.heap.size) (h := w.heap.size + 1) (a := ⟨an, az, .slice o1 ar.length c1, ar, af, ae⟩) (b := ⟨⟨#[122, 122]⟩, az, .slice o1 ar.length c1, ar, af, 0⟩) (by omega) (by omega) (by omega) k0 k1 st.own st.own ⟨st.fit, st.nm⟩ ⟨st.fit, by show (⟨#[122, 122]⟩ : ByteArray).size ≤ 5; decide⟩ d0 (.string an) (.int .i64 az) (.slice o1 ar.length c1) (.bool af) (.int .i64 ae) (.string ⟨#[122, 122]⟩) (.int .i64 (az)) (.slice o1 ar.length c1) (.bool af) (.int .i64 0)
      have p0 := at_cell kA 0
      have p1 := at_cell kA 1
      have p2 := at_cell kA 2
      have p3 := at_cell kA 3
      have p4 := at_cell kA 4
      have b0 := at_cell kB 0
      have b1 := at_cell kB 1
      have b2 := at_cell kB 2
      have b3 := at_cell kB 3
      have b4 := at_cell kB 4
      have q0 := at_cell k0 0
      have q1 := at_cell k0 1
      have q2 := at_cell k0 2
      have q3 := at_cell k0 3
      have q4 := at_cell k0 4
      have r0 := at_cell k1 0
      have r1 := at_cell k1 1
      have r2 := at_cell k1 2
      have r3 := at_cell k1 3
      have r4 := at_cell k1 4
      have f0 := at_open k0 0
      have f1 := at_open k0 1
      have f2 := at_open k0 2
      have f3 := at_open k0 3
      have f4 := at_open k0 4
      have h0 := at_open k1 0
      have h1 := at_open k1 1
      have h2 := at_open k1 2
      have h3 := at_open k1 3
      have h4 := at_open k1 4
      clear k0 k1 kA kB st d0
      go_wp2_with fail
      go_region
      all_goals
        go_wp2_with fail
        exact bodyPost_ret (v := .tuple #[.agg #[.string an, .int .i64 az, .slice o1 ar.length c1, .bool af, .int .i64 ae], .agg #[.string ⟨#[122, 122]⟩, .int .i64 (az), .slice o1 ar.length c1, .bool af, .int .i64 0]]) (by simp [results, Try.results35, go_sem, at_cell HE1.out.1, at_cell HE1.out.2.1]) rfl ⟨⟨an, az, .slice o1 ar.length c1, ar, af, ae⟩, ⟨⟨#[122, 122]⟩, az, .slice o1 ar.length c1, ar, af, 0⟩, rfl, HE1.out.2.2.1.below ((Below.refl _ _).drew), HE1.out.2.2.2.1.below ((Below.refl _ _).drew), HE1.out.2.2.2.2.trans ((Below.refl _ _).drew)⟩
    · have hsz := st.sz
      simp only at hsz
      have hw : IntKind.i64.wrap (az + 1) = az + 1 := by rw [IntKind.wrap_i64]; omega
      have t1 := at_cell kB 1
      have g1 := at_open kB 1
      have uB : Upto nB w6 (w6.setCell ⟨nB, 1, none⟩ (.int .i64 (az + 1))) := (Upto.refl _ _).setCell ⟨nB, 1, none⟩ (.inl rfl) _
      have stB := st.put (i := 1) kB (by omega) (.int .i64 (az + 1))
      go_upto_region 9 with fail
      clear t1 g1 st
      have st := stB
      clear stB
      replace k0 := (uB.block _ (by omega) (by omega)).trans k0
      replace k1 := (uB.block _ (by omega) (by omega)).trans k1
      replace kA := (uB.block _ (by omega) (by omega)).trans kA
      replace kB := set_at kB 1 (.int .i64 (az + 1))
      replace d0 := d0.trans (uB.toBelow (by omega) (by omega))
      clear uB
      generalize w6.setCell ⟨nB, 1, none⟩ (.int .i64 (az + 1)) = W7 at *
      have HE1 : Hid _ := alike_end (w := w) (g := w.heap.size) (h := w.heap.size + 1) (a := ⟨an, az, .slice o1 ar.length c1, ar, af, ae⟩) (b := ⟨⟨#[122, 122]⟩, az + 1, .slice o1 ar.length c1, ar, af, 0⟩) (by omega) (by omega) (by omega) k0 k1 st.own st.own ⟨st.fit, st.nm⟩ ⟨st.fit, by show (⟨#[122, 122]⟩ : ByteArray).size ≤ 5; decide⟩ d0 (.string an) (.int .i64 az) (.slice o1 ar.length c1) (.bool af) (.int .i64 ae) (.string ⟨#[122, 122]⟩) (.int .i64 (az + 1)) (.slice o1 ar.length c1) (.bool af) (.int .i64 0)
      have p0 := at_cell kA 0
      have p1 := at_cell kA 1
      have p2 := at_cell kA 2
      have p3 := at_cell kA 3
      have p4 := at_cell kA 4
      have b0 := at_cell kB 0
      have b1 := at_cell kB 1
      have b2 := at_cell kB 2
      have b3 := at_cell kB 3
      have b4 := at_cell kB 4
      have q0 := at_cell k0 0
      have q1 := at_cell k0 1
      have q2 := at_cell k0 2
      have q3 := at_cell k0 3
      have q4 := at_cell k0 4
      have r0 := at_cell k1 0
      have r1 := at_cell k1 1
      have r2 := at_cell k1 2
      have r3 := at_cell k1 3
      have r4 := at_cell k1 4
      have f0 := at_open k0 0
      have f1 := at_open k0 1
      have f2 := at_open k0 2
      have f3 := at_open k0 3
      have f4 := at_open k0 4
      have h0 := at_open k1 0
      have h1 := at_open k1 1
      have h2 := at_open k1 2
      have h3 := at_open k1 3
      have h4 := at_open k1 4
      clear k0 k1 kA kB st d0
      go_wp2_with fail
      go_region
      all_goals
        go_wp2_with fail
        exact bodyPost_ret (v := .tuple #[.agg #[.string an, .int .i64 az, .slice o1 ar.length c1, .bool af, .int .i64 ae], .agg #[.string ⟨#[122, 122]⟩, .int .i64 (az + 1), .slice o1 ar.length c1, .bool af, .int .i64 0]]) (by simp [results, Try.results35, go_sem, at_cell HE1.out.1, at_cell HE1.out.2.1]) rfl ⟨⟨an, az, .slice o1 ar.length c1, ar, af, ae⟩, ⟨⟨#[122, 122]⟩, az + 1, .slice o1 ar.length c1, ar, af, 0⟩, rfl, HE1.out.2.2.1.below ((Below.refl _ _).drew), HE1.out.2.2.2.1.below ((Below.refl _ _).drew), HE1.out.2.2.2.2.trans ((Below.refl _ _).drew)⟩

end Go.Proofs.Ytehjahegokeofab
