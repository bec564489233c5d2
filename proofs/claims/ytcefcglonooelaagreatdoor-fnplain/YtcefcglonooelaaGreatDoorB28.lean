/-
  Contracts and plain laws, one chapter behind the other.
-/
import Derived.Test.YtcefcglonooelaaGreatDoorB04
import Derived.Test.YtcefcglonooelaaGreatDoorB08
import Derived.Test.YtcefcglonooelaaGreatDoorB12
import Derived.Test.YtcefcglonooelaaGreatDoorB27
namespace Go.Proofs.YtcefcglonooelaaGreatDoor
open Go.RowKit

set_option linter.unusedVariables false


theorem rows_twoK {w : World} {b1 b2 k1 k2 n1 n2 : Nat} {e1 e2 : TypeId} {v1 v2 : Value} {x1 x2 : List Value} (h1 : w.ownsRow b1 e1 k1 v1 n1 x1) (h2 : w.ownsRow b2 e2 k2 v2 n2 x2) (he : e1 ≠ e2) : ∀ g, v1.ownBlock = some g → v2.ownBlock ≠ some g := by
  intro g hg
  rcases h1.2 with ⟨rfl, _⟩ | ⟨g1, cap1, cur1, rfl, _, hh, _⟩
  · cases hg
  · simp [Value.ownBlock] at hg
    subst hg
    intro h
    rcases h2.2 with ⟨rfl, _⟩ | ⟨g2, cap2, cur2, rfl, _, hh2, _⟩
    · cases h
    · simp [Value.ownBlock] at h
      subst h
      rw [hh] at hh2
      simp at hh2
      exact he hh2.2

theorem apart_m {ms ms' : List Pk} (h : ApartK ms) (e : ms'.map Pk.m = ms.map Pk.m) : ApartK ms' := by
  have h1 : (ms.map Pk.m).Pairwise (fun a b => ∀ g, a.ownBlock = some g → b.ownBlock ≠ some g) := List.pairwise_map.2 h
  rw [← e] at h1
  exact List.pairwise_map.1 h1

theorem apart_at9 {ms : List Pk} (h : ApartK ms) (i j : Nat) (hi : i < ms.length) (hj : j < ms.length) (hij : i ≠ j) : ∀ g, ms[i].m.ownBlock = some g → ms[j].m.ownBlock ≠ some g := by
  have hp := List.pairwise_iff_getElem.1 h
  rcases Nat.lt_or_ge i j with q | q
  · exact hp i j hi hj q
  · intro g hg e
    exact hp j i hj hi (by omega) g e hg

/-- One value of one plain is written. -/
theorem OwnK.write {base gm cap nM i : Nat} {w : World} {v : Value} {ms : List Pk} (h : OwnK base w v ms) (ap : ApartK ms) (hi : i < ms.length) {xn : ByteArray} {xz : Int} {xr : List Int} {xf : Bool} {xe : Int} (hx : ms[i] = ⟨xn, xz, .slice (some ⟨gm, 0, none⟩) nM cap, xr, xf, xe⟩) (A : Nat) (z : Int) (hA : A < xr.length) :
    OwnK base (w.setCell ⟨gm, A, none⟩ (.int .i64 z)) v (ms.set i ⟨xn, xz, .slice (some ⟨gm, 0, none⟩) nM cap, xr.set A z, xf, xe⟩) ∧ ApartK (ms.set i ⟨xn, xz, .slice (some ⟨gm, 0, none⟩) nM cap, xr.set A z, xf, xe⟩) := by
  have owm : w.ownsRow base 2 1 (.slice (some ⟨gm, 0, none⟩) nM cap) xr.length (xr.flatMap intC) := by have q := h.maps ms[i] (List.getElem_mem hi); rw [hx] at q; exact q
  have u : Upto gm w (w.setCell ⟨gm, A, none⟩ (.int .i64 z)) := (Upto.refl _ _).setCell ⟨gm, A, none⟩ (.inl rfl) _
  have hst := own_put intC_len owm A 0 xr[A] z (.int .i64 z) (List.getElem?_eq_getElem hA) (by decide) rfl
  rw [Nat.mul_one, Nat.add_zero] at hst
  have hrow : (ms.set i ⟨xn, xz, .slice (some ⟨gm, 0, none⟩) nM cap, xr.set A z, xf, xe⟩).flatMap pkC = ms.flatMap pkC := by
    have hc : ∀ (l : List Pk) (y : Pk) (j : Nat) (hj : j < l.length), pkC y = pkC l[j] → (l.set j y).flatMap pkC = l.flatMap pkC := by
      intro l
      induction l with
      | nil => intro y j hj; simp at hj
      | cons a l ih =>
        intro y j hj hy
        cases j with
        | zero => simp only [List.set_cons_zero, List.flatMap_cons]; rw [hy]; rfl
        | succ j => simp only [List.set_cons_succ, List.flatMap_cons]; rw [ih y j (by simpa using hj) (by simpa using hy)]
    exact hc ms _ i hi (by rw [hx]; rfl)
  refine ⟨⟨?_, fun m hm => ?_⟩, apart_m ap ?_⟩
  · rw [List.length_set, hrow]
    exact own_rng_not h.row (fun g hg hv => u.block g hg (fun e => rows_twoK h.row owm (by decide) g hv (by rw [e]; rfl)))
  · obtain ⟨j, hj, rfl⟩ := List.mem_iff_getElem.1 hm
    rw [List.length_set] at hj
    by_cases e : i = j
    · subst e
      rw [List.getElem_set_self]
      exact hst
    · rw [List.getElem_set_ne e]
      have hne := apart_at9 ap i j hi hj e gm (by rw [hx]; rfl)
      exact own_rng_not (h.maps ms[j] (List.getElem_mem hj)) (fun g hg hv => u.block g hg (fun e2 => hne (by rw [← e2]; exact hv)))
  · rw [List.map_set]
    apply List.ext_getElem
    · simp
    · intro n h1 h2
      by_cases e : i = n
      · subst e
        rw [List.getElem_set_self, List.getElem_map, hx]
      · rw [List.getElem_set_ne e]

set_option maxRecDepth 100000 in
set_option maxHeartbeats 6400000 in
theorem l9Did_3 (v : Value) (bks : List Pk) (nm ot : ByteArray) (at_ va ep : Int) (told : Int) (w : World) (hn : nm.size ≤ maxLen) (ho : ot.size ≤ maxLen) (hr : ∀ b ∈ bks, b.rs.length ≤ 1048576) (hpo : plainsOk (bks.map Pk.pv) = true) (r : ReadsK w.heap.size w v bks) (hok : opOk ⟨3, nm, ot, at_, va, ep⟩ = true) (href : refused ((bks.map Pk.pv).map Pv.pb) ⟨3, nm, ot, at_, va, ep⟩ = 0) :
    Calls Tryz.prog 43 #[v, .agg #[.int .i64 3, .string nm, .string ot, .int .i64 at_, .int .i64 va, .int .i64 ep], .int .i64 told] w (DoKP (bks.map Pk.pv) ⟨3, nm, ot, at_, va, ep⟩ told w) := by
  obtain ⟨i, hi, hfp, hpk, hpa, hpe⟩ := foundV (o := ⟨3, nm, ot, at_, va, ep⟩) hpo href (show (3 : Int) ≠ 1 by decide)
  simp only at hfp hpa hpe
  have hib : i < bks.length := by rw [List.length_map] at hi; exact hi
  have hat0 := (opOk_bd _ hok).2.2.2.1.1
  simp only at hat0
  have hpp := pv_parts hpk
  have hlt := hpa (by decide)
  obtain ⟨A, rfl⟩ := Int.eq_ofNat_of_zero_le hat0
  have HDO : Hid (doPlain (bks.map Pk.pv) ⟨3, nm, ot, (A : Int), va, ep⟩ told = ((bks.map Pk.pv).set i { (bks.map Pk.pv)[i] with vs := (bks.map Pk.pv)[i].vs.set A 0 }, (0, 0))) := doPlain_one hi hok href (by simp) (show (3 : Int) ≠ 1 ∧ (3 : Int) ≠ 6 ∧ kOther 3 = false by decide) hfp
  obtain ⟨ov, cv, hvf⟩ := r.row.form
  subst hvf
  have hfew : bks.length ≤ 6 := by have := (plains_ok hpo).1; rwa [List.length_map] at this
  obtain ⟨W0, hW0, k0, k1, d0, z0⟩ := box2 w #[.int .i64 3, .string nm, .string ot, .int .i64 (A : Int), .int .i64 va, .int .i64 ep] #[.int .i64 0, .int .i64 0] 26 30
  have HW0 : Hid (W0 = _) := hW0
  have r0 := (r.below d0).mono d0.size
  clear hW0 z0 r
  go_enter Tryz.func43, Tryz.ntmps43
  go_upto_region 1 with fail
  rw [← HW0.out]
  clear HW0
  go_wp2_with fail
  refine (l9Copy_any _ bks _ (by omega) hr r0).mono ?_
  rintro e w1 ⟨v8, ms, rfl, hpv, own, ap, hnil, b1⟩
  have own0 := own.mono d0.size
  clear own
  replace k0 := (b1.block _ (heap_lt k0)).trans k0
  replace k1 := (b1.block _ (heap_lt k1)).trans k1
  replace d0 := bw_call d0 b1
  replace r0 := (r0.below b1).mono b1.size
  have HPV : Hid (ms.map Pk.pv = bks.map Pk.pv) := hpv
  have hml1 : ms.length ≤ bks.length := by have := congrArg List.length hpv; simp at this; omega
  have hml2 : bks.length ≤ ms.length := by have := congrArg List.length hpv; simp at this; omega
  clear b1 hpv
  have p0 := at_cell k0 0
  have p1 := at_cell k0 1
  have p2 := at_cell k0 2
  have p3 := at_cell k0 3
  have p4 := at_cell k0 4
  have p5 := at_cell k0 5
  go_wp2_with fail
  clear p0 p1 p2 p3 p4 p5
  refine (specOpOk_any 3 nm ot (A : Int) va ep _ hn ho).mono ?_
  rw [hok]
  rintro e w2 ⟨rfl, b1⟩
  replace k0 := (b1.block _ (heap_lt k0)).trans k0
  replace k1 := (b1.block _ (heap_lt k1)).trans k1
  replace d0 := bw_call d0 b1
  replace r0 := (r0.below b1).mono b1.size
  replace own0 := own0.below b1
  clear b1
  obtain ⟨o8, c8, rfl⟩ := own_slice own0.row
  go_wp2_with fail
  refine (l9Books_any _ bks _ (by omega) r0).mono ?_
  rintro e w3 ⟨v9, bs, rfl, hbs, ob, hnil9, b1⟩
  replace k0 := (b1.block _ (heap_lt k0)).trans k0
  replace k1 := (b1.block _ (heap_lt k1)).trans k1
  replace d0 := bw_call d0 b1
  replace own0 := own0.below b1
  have rb : ReadsR 5 bookC w3.heap.size w3 v9 bs := ReadsR.of_own bookC_len ob.row
  have hfm : ∀ b ∈ bs, ∃ o k cp, b.m = .slice o k cp := fun b hb => by obtain ⟨o, cp, e⟩ := own_slice (ob.maps b hb); exact ⟨o, _, cp, e⟩
  obtain ⟨o9, c9, h9⟩ := rb.form
  subst h9
  clear b1 r0 ob
  have p0 := at_cell k0 0
  have p1 := at_cell k0 1
  have p2 := at_cell k0 2
  have p3 := at_cell k0 3
  have p4 := at_cell k0 4
  have p5 := at_cell k0 5
  go_wp2_with fail
  clear p0 p1 p2 p3 p4 p5
  refine (l8Refused_any _ bs 3 nm ot (A : Int) va ep _ (by omega) rb hfm).mono ?_
  rw [hbs, href]
  rintro e w4 ⟨rfl, b1⟩
  replace k0 := (b1.block _ (heap_lt k0)).trans k0
  replace k1 := (b1.block _ (heap_lt k1)).trans k1
  replace d0 := bw_call d0 b1
  replace own0 := own0.below b1
  replace rb := (rb.below b1).mono b1.size
  clear b1 hfm
  have p1 := at_cell k0 1
  have p0 := at_cell k0 0
  have hfb : findB bs nm = i := by rw [← findP_map, hbs]; exact hfp
  go_wp2_with fail
  clear p0 p1
  refine (specFindBook_any _ bs nm _ rb).mono ?_
  rw [hfb]
  rintro e w5 ⟨rfl, rfl⟩
  clear rb hfb
  have hims : i < ms.length := by omega
  obtain ⟨⟨xn, xz, xm, xr, xf, xe⟩, hX⟩ : ∃ X : Pk, ms[i] = X := ⟨_, rfl⟩
  have HX : Hid (ms[i] = ⟨xn, xz, xm, xr, xf, xe⟩) := hX
  have HMI : Hid ((bks.map Pk.pv)[i] = ⟨xn, xz, xr, xf, xe⟩) := by
    have h := HPV.out
    have h2 : ms[i].pv = (bks.map Pk.pv)[i] := by simp [← h]
    rw [Hid, ← h2, hX]
    rfl
  have owm : w5.ownsRow w.heap.size 2 1 xm xr.length (xr.flatMap intC) := by have h := own0.maps ms[i] (List.getElem_mem hims); rw [hX] at h; exact h
  clear hX
  obtain ⟨g8, hg8⟩ : ∃ g8, o8 = some ⟨g8, 0, none⟩ := by
    rcases own0.row.2 with ⟨_, h0⟩ | ⟨g, cap', cur, e, _⟩
    · omega
    · simp only [Value.slice.injEq] at e
      exact ⟨g, e.1⟩
  subst hg8
  have hvl : (xr.length : Int) = xz := by have h1 := hpp.2.2; rw [HMI.out] at h1; exact h1
  have hAl : A < xr.length := by rw [HMI.out] at hlt; have h2 : (A : Int) < xz := hlt; omega
  obtain ⟨om, cm, hmf⟩ := own_slice owm
  subst hmf
  obtain ⟨gm, hgm⟩ : ∃ gm, om = some ⟨gm, 0, none⟩ := by
    rcases owm.2 with ⟨_, h0⟩ | ⟨g, cap', cur, e, _⟩
    · omega
    · simp only [Value.slice.injEq] at e
      exact ⟨g, e.1⟩
  subst hgm
  obtain ⟨a2, b2⟩ := own_cell pkC_len own0.row i 2 _ (List.getElem?_eq_getElem hims) (by decide)
  have a2' : w5.cell? ⟨g8, i * 5 + 2, none⟩ = some (.slice (some ⟨gm, 0, none⟩) xr.length cm) := by rw [a2, HX.out]; rfl
  obtain ⟨av, bv⟩ := own_cell intC_len owm A 0 _ (List.getElem?_eq_getElem hAl) (by decide)
  have av' : w5.cell? ⟨gm, A, none⟩ = some (.int .i64 xr[A]) := by rw [Nat.mul_one, Nat.add_zero] at av; exact av
  have bv' : w5.frozen? ⟨gm, A, none⟩ = false := by rw [Nat.mul_one, Nat.add_zero] at bv; exact bv
  generalize xr[A] = z at av'
  have i0 : (0 : Int) ≤ (i : Int) := by omega
  have i1 : (i : Int) < (ms.length : Int) := by omega
  have i2 : (0 : Int) ≤ (A : Int) := by omega
  have i3 : (A : Int) < (xr.length : Int) := by omega
  have p0 := at_cell k0 0
  have n1 : g8 ≠ gm := fun e => rows_twoK own0.row owm (by decide) g8 rfl (by rw [e]; rfl)
  have n2 : w.heap.size ≠ gm := fun e => own_not_box owm k0 (by decide) (by rw [e]; rfl)
  have n3 : w.heap.size + 1 ≠ gm := fun e => own_not_box owm k1 (by decide) (by rw [e]; rfl)
  have l8 := (own0.row.lt g8 rfl).2
  have lm := (owm.lt gm rfl)
  have HKeep : ∀ X, Upto gm w5 X → (X.cell? ⟨g8, i * 5 + 2, none⟩ = some (.slice (some ⟨gm, 0, none⟩) xr.length cm) ∧ X.cell? ⟨w.heap.size, 3, none⟩ = some (.int .i64 (A : Int)) ∧ X.cell? ⟨w.heap.size, 4, none⟩ = some (.int .i64 va)) := fun X u =>
    ⟨(u.cell (p := ⟨g8, i * 5 + 2, none⟩) l8 n1).trans a2', (u.cell (p := ⟨w.heap.size, 3, none⟩) (heap_lt k0) n2).trans (at_cell k0 3), (u.cell (p := ⟨w.heap.size, 4, none⟩) (heap_lt k0) n2).trans (at_cell k0 4)⟩
  obtain ⟨owW, apW⟩ := own0.write ap hims HX.out A 0 hAl
  have uW : Upto gm w5 (w5.setCell ⟨gm, A, none⟩ (.int .i64 0)) := (Upto.refl _ _).setCell ⟨gm, A, none⟩ (.inl rfl) _
  have k1W := (uW.block _ (heap_lt k1) n3).trans k1
  have dW := d0.trans (uW.toBelow d0.size lm.1)
  have HPW : Hid ((ms.set i ⟨xn, xz, .slice (some ⟨gm, 0, none⟩) xr.length cm, xr.set A 0, xf, xe⟩).map Pk.pv = (bks.map Pk.pv).set i { (bks.map Pk.pv)[i] with vs := (bks.map Pk.pv)[i].vs.set A 0 }) := by
    rw [Hid, List.map_set, HPV.out, HMI.out]
    rfl
  have HW : Hid _ := And.intro owW (And.intro apW (And.intro k1W dW))
  clear k0 k1 own0 d0 ap a2 b2 a2' av owm bv HX hvl hpp hpa hpe hpk hbs hfp owW apW k1W dW uW
  have a2d := HKeep w5 (Upto.refl _ _)
  obtain ⟨e2, e3, e4⟩ := a2d
  go_wp2_with fail
  clear p0 e2 e3 e4
  have avd : w5.drew.cell? ⟨gm, A, none⟩ = some (.int .i64 z) := av'
  have bvd : w5.drew.frozen? ⟨gm, A, none⟩ = false := bv'
  go_region_held3 (fun X => X.cell? ⟨g8, i * 5 + 2, none⟩ = some (.slice (some ⟨gm, 0, none⟩) xr.length cm) ∧ X.cell? ⟨w.heap.size, 3, none⟩ = some (.int .i64 (A : Int)) ∧ X.cell? ⟨w.heap.size, 4, none⟩ = some (.int .i64 va))
    ((refine HKeep _ ?_; repeat (first | exact Upto.refl _ _ | (apply Upto.setCell; rotate_left; exact Or.inl rfl) | refine Upto.drew ?_)))
    ((fail))
  obtain ⟨owW, apW, k1W, dW⟩ := HW.out
  have k6 : (w5.setCell ⟨gm, A, none⟩ (.int .i64 0)).drew.heap[w.heap.size + 1]? = some (.cells #[.int .i64 0, .int .i64 0] 30 (0, 0)) := k1W
  have ow6 := owW.below (w' := (w5.setCell ⟨gm, A, none⟩ (.int .i64 0)).drew) ((Below.refl _ _).drew)
  have d6 := bw_drew dW
  clear owW k1W dW HW HKeep avd bvd av' bv'
  generalize (w5.setCell ⟨gm, A, none⟩ (.int .i64 0)).drew = W6 at *
  have HS : Hid _ := k_end (c := 0) (v := 0) k6 ow6 d6 (Nat.le_succ _)
  have HAP : Hid _ := apW
  have q0 := at_cell k6 0
  have q1 := at_cell k6 1
  have f0 := at_open k6 0
  have f1 := at_open k6 1
  clear k6 ow6 d6 apW
  go_wp2_with fail
  exact bodyPost_ret (v := .tuple #[.slice (some ⟨g8, 0, none⟩) ms.length c8, .agg #[.int .i64 0, .int .i64 0]]) (by simp [results, Tryz.results43, go_sem, at_cell HS.out.1]) rfl ⟨_, _, by rw [HDO.out], by rw [HDO.out]; exact HPW.out, HS.out.2.1, HAP.out, HS.out.2.2⟩

set_option maxRecDepth 100000 in
set_option maxHeartbeats 6400000 in
theorem l9Did_2 (v : Value) (bks : List Pk) (nm ot : ByteArray) (at_ va ep : Int) (told : Int) (w : World) (hn : nm.size ≤ maxLen) (ho : ot.size ≤ maxLen) (hr : ∀ b ∈ bks, b.rs.length ≤ 1048576) (hpo : plainsOk (bks.map Pk.pv) = true) (r : ReadsK w.heap.size w v bks) (hok : opOk ⟨2, nm, ot, at_, va, ep⟩ = true) (href : refused ((bks.map Pk.pv).map Pv.pb) ⟨2, nm, ot, at_, va, ep⟩ = 0) (hf : told ≠ 9) :
    Calls Tryz.prog 43 #[v, .agg #[.int .i64 2, .string nm, .string ot, .int .i64 at_, .int .i64 va, .int .i64 ep], .int .i64 told] w (DoKP (bks.map Pk.pv) ⟨2, nm, ot, at_, va, ep⟩ told w) := by
  obtain ⟨i, hi, hfp, hpk, hpa, hpe⟩ := foundV (o := ⟨2, nm, ot, at_, va, ep⟩) hpo href (show (2 : Int) ≠ 1 by decide)
  simp only at hfp hpa hpe
  have hib : i < bks.length := by rw [List.length_map] at hi; exact hi
  have hat0 := (opOk_bd _ hok).2.2.2.1.1
  simp only at hat0
  have hpp := pv_parts hpk
  have hlt := hpa (by decide)
  obtain ⟨A, rfl⟩ := Int.eq_ofNat_of_zero_le hat0
  have htb : (told == 9) = false := by rw [beq_eq_false_iff_ne]; exact hf
  have HDO : Hid (doPlain (bks.map Pk.pv) ⟨2, nm, ot, (A : Int), va, ep⟩ told = ((bks.map Pk.pv).set i { (bks.map Pk.pv)[i] with vs := (bks.map Pk.pv)[i].vs.set A va }, (0, 0))) := doPlain_one hi hok href (fun h => hf h.2) (show (2 : Int) ≠ 1 ∧ (2 : Int) ≠ 6 ∧ kOther 2 = false by decide) hfp
  obtain ⟨ov, cv, hvf⟩ := r.row.form
  subst hvf
  have hfew : bks.length ≤ 6 := by have := (plains_ok hpo).1; rwa [List.length_map] at this
  obtain ⟨W0, hW0, k0, k1, d0, z0⟩ := box2 w #[.int .i64 2, .string nm, .string ot, .int .i64 (A : Int), .int .i64 va, .int .i64 ep] #[.int .i64 0, .int .i64 0] 26 30
  have HW0 : Hid (W0 = _) := hW0
  have r0 := (r.below d0).mono d0.size
  clear hW0 z0 r
  go_enter Tryz.func43, Tryz.ntmps43
  go_upto_region 1 with fail
  rw [← HW0.out]
  clear HW0
  go_wp2_with fail
  refine (l9Copy_any _ bks _ (by omega) hr r0).mono ?_
  rintro e w1 ⟨v8, ms, rfl, hpv, own, ap, hnil, b1⟩
  have own0 := own.mono d0.size
  clear own
  replace k0 := (b1.block _ (heap_lt k0)).trans k0
  replace k1 := (b1.block _ (heap_lt k1)).trans k1
  replace d0 := bw_call d0 b1
  replace r0 := (r0.below b1).mono b1.size
  have HPV : Hid (ms.map Pk.pv = bks.map Pk.pv) := hpv
  have hml1 : ms.length ≤ bks.length := by have := congrArg List.length hpv; simp at this; omega
  have hml2 : bks.length ≤ ms.length := by have := congrArg List.length hpv; simp at this; omega
  clear b1 hpv
  have p0 := at_cell k0 0
  have p1 := at_cell k0 1
  have p2 := at_cell k0 2
  have p3 := at_cell k0 3
  have p4 := at_cell k0 4
  have p5 := at_cell k0 5
  go_wp2_with fail
  clear p0 p1 p2 p3 p4 p5
  refine (specOpOk_any 2 nm ot (A : Int) va ep _ hn ho).mono ?_
  rw [hok]
  rintro e w2 ⟨rfl, b1⟩
  replace k0 := (b1.block _ (heap_lt k0)).trans k0
  replace k1 := (b1.block _ (heap_lt k1)).trans k1
  replace d0 := bw_call d0 b1
  replace r0 := (r0.below b1).mono b1.size
  replace own0 := own0.below b1
  clear b1
  obtain ⟨o8, c8, rfl⟩ := own_slice own0.row
  go_wp2_with fail
  refine (l9Books_any _ bks _ (by omega) r0).mono ?_
  rintro e w3 ⟨v9, bs, rfl, hbs, ob, hnil9, b1⟩
  replace k0 := (b1.block _ (heap_lt k0)).trans k0
  replace k1 := (b1.block _ (heap_lt k1)).trans k1
  replace d0 := bw_call d0 b1
  replace own0 := own0.below b1
  have rb : ReadsR 5 bookC w3.heap.size w3 v9 bs := ReadsR.of_own bookC_len ob.row
  have hfm : ∀ b ∈ bs, ∃ o k cp, b.m = .slice o k cp := fun b hb => by obtain ⟨o, cp, e⟩ := own_slice (ob.maps b hb); exact ⟨o, _, cp, e⟩
  obtain ⟨o9, c9, h9⟩ := rb.form
  subst h9
  clear b1 r0 ob
  have p0 := at_cell k0 0
  have p1 := at_cell k0 1
  have p2 := at_cell k0 2
  have p3 := at_cell k0 3
  have p4 := at_cell k0 4
  have p5 := at_cell k0 5
  go_wp2_with fail
  clear p0 p1 p2 p3 p4 p5
  refine (l8Refused_any _ bs 2 nm ot (A : Int) va ep _ (by omega) rb hfm).mono ?_
  rw [hbs, href]
  rintro e w4 ⟨rfl, b1⟩
  replace k0 := (b1.block _ (heap_lt k0)).trans k0
  replace k1 := (b1.block _ (heap_lt k1)).trans k1
  replace d0 := bw_call d0 b1
  replace own0 := own0.below b1
  replace rb := (rb.below b1).mono b1.size
  clear b1 hfm
  have p1 := at_cell k0 1
  have p0 := at_cell k0 0
  have hfb : findB bs nm = i := by rw [← findP_map, hbs]; exact hfp
  go_wp2_with fail
  clear p0 p1
  refine (specFindBook_any _ bs nm _ rb).mono ?_
  rw [hfb]
  rintro e w5 ⟨rfl, rfl⟩
  clear rb hfb
  have hims : i < ms.length := by omega
  obtain ⟨⟨xn, xz, xm, xr, xf, xe⟩, hX⟩ : ∃ X : Pk, ms[i] = X := ⟨_, rfl⟩
  have HX : Hid (ms[i] = ⟨xn, xz, xm, xr, xf, xe⟩) := hX
  have HMI : Hid ((bks.map Pk.pv)[i] = ⟨xn, xz, xr, xf, xe⟩) := by
    have h := HPV.out
    have h2 : ms[i].pv = (bks.map Pk.pv)[i] := by simp [← h]
    rw [Hid, ← h2, hX]
    rfl
  have owm : w5.ownsRow w.heap.size 2 1 xm xr.length (xr.flatMap intC) := by have h := own0.maps ms[i] (List.getElem_mem hims); rw [hX] at h; exact h
  clear hX
  obtain ⟨g8, hg8⟩ : ∃ g8, o8 = some ⟨g8, 0, none⟩ := by
    rcases own0.row.2 with ⟨_, h0⟩ | ⟨g, cap', cur, e, _⟩
    · omega
    · simp only [Value.slice.injEq] at e
      exact ⟨g, e.1⟩
  subst hg8
  have hvl : (xr.length : Int) = xz := by have h1 := hpp.2.2; rw [HMI.out] at h1; exact h1
  have hAl : A < xr.length := by rw [HMI.out] at hlt; have h2 : (A : Int) < xz := hlt; omega
  obtain ⟨om, cm, hmf⟩ := own_slice owm
  subst hmf
  obtain ⟨gm, hgm⟩ : ∃ gm, om = some ⟨gm, 0, none⟩ := by
    rcases owm.2 with ⟨_, h0⟩ | ⟨g, cap', cur, e, _⟩
    · omega
    · simp only [Value.slice.injEq] at e
      exact ⟨g, e.1⟩
  subst hgm
  obtain ⟨a2, b2⟩ := own_cell pkC_len own0.row i 2 _ (List.getElem?_eq_getElem hims) (by decide)
  have a2' : w5.cell? ⟨g8, i * 5 + 2, none⟩ = some (.slice (some ⟨gm, 0, none⟩) xr.length cm) := by rw [a2, HX.out]; rfl
  obtain ⟨av, bv⟩ := own_cell intC_len owm A 0 _ (List.getElem?_eq_getElem hAl) (by decide)
  have av' : w5.cell? ⟨gm, A, none⟩ = some (.int .i64 xr[A]) := by rw [Nat.mul_one, Nat.add_zero] at av; exact av
  have bv' : w5.frozen? ⟨gm, A, none⟩ = false := by rw [Nat.mul_one, Nat.add_zero] at bv; exact bv
  generalize xr[A] = z at av'
  have i0 : (0 : Int) ≤ (i : Int) := by omega
  have i1 : (i : Int) < (ms.length : Int) := by omega
  have i2 : (0 : Int) ≤ (A : Int) := by omega
  have i3 : (A : Int) < (xr.length : Int) := by omega
  have p0 := at_cell k0 0
  have n1 : g8 ≠ gm := fun e => rows_twoK own0.row owm (by decide) g8 rfl (by rw [e]; rfl)
  have n2 : w.heap.size ≠ gm := fun e => own_not_box owm k0 (by decide) (by rw [e]; rfl)
  have n3 : w.heap.size + 1 ≠ gm := fun e => own_not_box owm k1 (by decide) (by rw [e]; rfl)
  have l8 := (own0.row.lt g8 rfl).2
  have lm := (owm.lt gm rfl)
  have HKeep : ∀ X, Upto gm w5 X → (X.cell? ⟨g8, i * 5 + 2, none⟩ = some (.slice (some ⟨gm, 0, none⟩) xr.length cm) ∧ X.cell? ⟨w.heap.size, 3, none⟩ = some (.int .i64 (A : Int)) ∧ X.cell? ⟨w.heap.size, 4, none⟩ = some (.int .i64 va)) := fun X u =>
    ⟨(u.cell (p := ⟨g8, i * 5 + 2, none⟩) l8 n1).trans a2', (u.cell (p := ⟨w.heap.size, 3, none⟩) (heap_lt k0) n2).trans (at_cell k0 3), (u.cell (p := ⟨w.heap.size, 4, none⟩) (heap_lt k0) n2).trans (at_cell k0 4)⟩
  obtain ⟨owW, apW⟩ := own0.write ap hims HX.out A va hAl
  have uW : Upto gm w5 (w5.setCell ⟨gm, A, none⟩ (.int .i64 va)) := (Upto.refl _ _).setCell ⟨gm, A, none⟩ (.inl rfl) _
  have k1W := (uW.block _ (heap_lt k1) n3).trans k1
  have dW := d0.trans (uW.toBelow d0.size lm.1)
  have HPW : Hid ((ms.set i ⟨xn, xz, .slice (some ⟨gm, 0, none⟩) xr.length cm, xr.set A va, xf, xe⟩).map Pk.pv = (bks.map Pk.pv).set i { (bks.map Pk.pv)[i] with vs := (bks.map Pk.pv)[i].vs.set A va }) := by
    rw [Hid, List.map_set, HPV.out, HMI.out]
    rfl
  have HW : Hid _ := And.intro owW (And.intro apW (And.intro k1W dW))
  clear k0 k1 own0 d0 ap a2 b2 a2' av owm bv HX hvl hpp hpa hpe hpk hbs hfp owW apW k1W dW uW
  have a2d := HKeep w5 (Upto.refl _ _)
  obtain ⟨e2, e3, e4⟩ := a2d
  go_wp2_with fail
  clear p0 e2 e3 e4
  have avd : w5.drew.cell? ⟨gm, A, none⟩ = some (.int .i64 z) := av'
  have bvd : w5.drew.frozen? ⟨gm, A, none⟩ = false := bv'
  go_region_held3 (fun X => X.cell? ⟨g8, i * 5 + 2, none⟩ = some (.slice (some ⟨gm, 0, none⟩) xr.length cm) ∧ X.cell? ⟨w.heap.size, 3, none⟩ = some (.int .i64 (A : Int)) ∧ X.cell? ⟨w.heap.size, 4, none⟩ = some (.int .i64 va))
    ((refine HKeep _ ?_; repeat (first | exact Upto.refl _ _ | (apply Upto.setCell; rotate_left; exact Or.inl rfl) | refine Upto.drew ?_)))
    ((fail))
  obtain ⟨owW, apW, k1W, dW⟩ := HW.out
  have k6 : (w5.setCell ⟨gm, A, none⟩ (.int .i64 va)).drew.heap[w.heap.size + 1]? = some (.cells #[.int .i64 0, .int .i64 0] 30 (0, 0)) := k1W
  have ow6 := owW.below (w' := (w5.setCell ⟨gm, A, none⟩ (.int .i64 va)).drew) ((Below.refl _ _).drew)
  have d6 := bw_drew dW
  clear owW k1W dW HW HKeep avd bvd av' bv'
  generalize (w5.setCell ⟨gm, A, none⟩ (.int .i64 va)).drew = W6 at *
  have HS : Hid _ := k_end (c := 0) (v := 0) k6 ow6 d6 (Nat.le_succ _)
  have HAP : Hid _ := apW
  have q0 := at_cell k6 0
  have q1 := at_cell k6 1
  have f0 := at_open k6 0
  have f1 := at_open k6 1
  clear k6 ow6 d6 apW
  go_wp2_with fail
  exact bodyPost_ret (v := .tuple #[.slice (some ⟨g8, 0, none⟩) ms.length c8, .agg #[.int .i64 0, .int .i64 0]]) (by simp [results, Tryz.results43, go_sem, at_cell HS.out.1]) rfl ⟨_, _, by rw [HDO.out], by rw [HDO.out]; exact HPW.out, HS.out.2.1, HAP.out, HS.out.2.2⟩
end Go.Proofs.YtcefcglonooelaaGreatDoor

namespace Go.Proofs.YtcefcglonooelaaGreatDoor
open Go.RowKit

set_option linter.unusedVariables false

set_option maxRecDepth 100000


def droppedAllL (s : List Int × List Int) (l : List Int) : List Int × List Int := l.foldl (fun s p => (dropped s.1 s.2 p).1) s

theorem poolOk_of {n : Nat} {cs ps : List Int} (h : Cells n cs ps) (hn : 1 ≤ n ∧ n ≤ 24) (hb : ∀ k, k < n → 0 ≤ cs.getD k 0 ∧ cs.getD k 0 ≤ 400) : poolOk cs ps = true := by
  have hc := h.c
  have hp := h.p
  refine (poolOk_iff cs ps).2 ⟨by omega, by omega, by omega, fun j hj => (cellOk_iff _ _).2 ?_⟩
  have h1 := hb j (by omega)
  have h2 := h.val j (by omega)
  exact ⟨h1.1, h1.2, h2.1, h2.2.1, h2.2.2⟩

theorem dropped_one {n : Nat} {cs ps : List Int} (h : Cells n cs ps) (hn : 1 ≤ n ∧ n ≤ 24) (hb : ∀ k, k < n → 0 ≤ cs.getD k 0 ∧ cs.getD k 0 ≤ 400) (k : Nat) (hk : k < n) (h1 : 1 ≤ cs.getD k 0) : dropped cs ps (k : Int) = (dropOne (cs, ps) (k : Int), true) := by
  have hc := h.c
  have e : dropOne (cs, ps) (k : Int) = (cs.set k (cs.getD k 0 - 1), if cs.getD k 0 = 1 then ps.set k 0 else ps) := by
    rw [dropOne, if_pos (by omega : (0 : Int) ≤ (k : Int)), Int.toNat_natCast]
  rw [e, dropped, if_pos (poolOk_of h hn hb), countAt_of cs k (by omega), if_pos h1, Int.toNat_natCast]

theorem droppedAll_link {n : Nat} (hn : 1 ≤ n ∧ n ≤ 24) (l : List Int) : ∀ {cs ps : List Int}, Cells n cs ps → (∀ k, k < n → 0 ≤ cs.getD k 0 ∧ cs.getD k 0 ≤ 400) → (∀ p ∈ l, 0 ≤ p ∧ p < n) → (∀ k, k < n → (l.count (k : Int) : Int) ≤ cs.getD k 0) → droppedAllL (cs, ps) l = dropAll (cs, ps) l := by
  induction l with
  | nil => intro cs ps _ _ _ _; rfl
  | cons p t ih =>
    intro cs ps h hb hp hc
    obtain ⟨h0, hm⟩ := hp p (List.mem_cons_self ..)
    obtain ⟨m, rfl⟩ := Int.eq_ofNat_of_zero_le h0
    have hm' : m < n := by omega
    have h1 : 1 ≤ cs.getD m 0 := by
      have := hc m hm'
      rw [List.count_cons_self] at this
      omega
    obtain ⟨c1, g1⟩ := dropOne_ok h m hm' h1
    show droppedAllL (dropped cs ps (m : Int)).1 t = dropAll (dropOne (cs, ps) (m : Int)) t
    rw [dropped_one h hn hb m hm' h1]
    show droppedAllL ((dropOne (cs, ps) (m : Int)).1, (dropOne (cs, ps) (m : Int)).2) t = dropAll ((dropOne (cs, ps) (m : Int)).1, (dropOne (cs, ps) (m : Int)).2) t
    refine ih c1 (fun k hk => ?_) (fun q hq => hp q (List.mem_cons_of_mem _ hq)) (fun k hk => ?_)
    · have := hb k hk
      rw [g1]
      split
      · rename_i e; subst e; omega
      · exact this
    · have := hc k hk
      rw [List.count_cons] at this
      rw [g1]
      by_cases ek : m = k
      · subst ek; rw [if_pos rfl]; rw [beq_self_eq_true, if_pos rfl] at this; omega
      · rw [if_neg ek]
        have hne : ((m : Int) == (k : Int)) = false := by rw [beq_eq_false_iff_ne]; omega
        rw [hne, if_neg (by decide)] at this
        omega

theorem dropAll_filter (l : List Int) : ∀ s : List Int × List Int, dropAll s (l.filter (fun p => decide (0 ≤ p))) = dropAll s l := by
  induction l with
  | nil => intro s; rfl
  | cons p t ih =>
    intro s
    by_cases h0 : 0 ≤ p
    · rw [List.filter_cons_of_pos (by simpa using h0)]
      exact ih (dropOne s p)
    · rw [List.filter_cons_of_neg (by simpa using h0)]
      have e : dropAll s (p :: t) = dropAll (dropOne s p) t := rfl
      rw [e, ih, dropOne, if_neg h0]

/-! ### A right shelf's pool -/
theorem ShInv.bound {s : Sf} (h : ShInv s) : ∀ k, k < s.cs.length → 0 ≤ s.cs.getD k 0 ∧ s.cs.getD k 0 ≤ 96 := fun k hk => by
  rw [h.cnt k hk]
  have h5 := cntAll_le s.bs (k : Int)
  have h6 := cntAll_nonneg s.bs (k : Int)
  have h7 := h.few
  omega

theorem ShInv.bound4 {s : Sf} (h : ShInv s) : ∀ k, k < s.cs.length → 0 ≤ s.cs.getD k 0 ∧ s.cs.getD k 0 ≤ 400 := fun k hk => by
  have := h.bound k hk
  omega

theorem ShInv.mapOk {s : Sf} (h : ShInv s) (i : Nat) (hi : i < s.bs.length) : mapOk s.bs[i].rs = true := (book_parts (h.oks _ (List.getElem_mem hi))).2.2.2.1

/-- The pages of a book in the order of its places, from a place on. -/
theorem ShInv.part {s : Sf} (h : ShInv s) (i : Nat) (hi : i < s.bs.length) (n : Nat) : droppedAllL (s.cs, s.ps) (((pages s.bs[i].rs).drop n).filter (fun p => decide (0 ≤ p))) = dropAll (s.cs, s.ps) ((pages s.bs[i].rs).drop n) := by
  have hcn := h.cells.c
  rw [droppedAll_link h.n1 _ h.cells h.bound4 (fun p hp => ?_) (fun k hk => ?_), dropAll_filter]
  · obtain ⟨h1, h2⟩ := List.mem_filter.1 hp
    have h3 : 0 ≤ p := by simpa using h2
    exact ⟨h3, (h.page i hi p (List.mem_of_mem_drop h1) h3).1⟩
  · have h1 := cnt_le_cs h i hi k hk
    unfold Pb.cnt at h1
    have h2 := (List.drop_sublist n (pages s.bs[i].rs)).count_le (k : Int)
    have h3 := ((List.filter_sublist (l := (pages s.bs[i].rs).drop n) (p := fun p => decide (0 ≤ p))).count_le (k : Int))
    omega

theorem ShInv.whole {s : Sf} (h : ShInv s) (i : Nat) (hi : i < s.bs.length) : droppedAllL (s.cs, s.ps) (pagesOf s.bs[i].rs) = dropAll (s.cs, s.ps) ((pages s.bs[i].rs).drop 0) := by
  rw [← h.part i hi 0, List.drop_zero, pagesOf, if_pos (h.mapOk i hi)]

/-! ### Kind by kind -/
structure OpIn (s : Sf) (o : Oq) (i : Nat) : Prop where
  inv : ShInv s
  ok : opOk o = true
  ref : refused s.bs o = 0
  lt : i < s.bs.length
  at_ : findP s.bs o.nm = i

theorem OpIn.book {s : Sf} {o : Oq} {i : Nat} (h : OpIn s o i) : bookAt s.bs (findP s.bs o.nm) = s.bs[i]'h.lt := by rw [h.at_, bookAt_of s.bs i h.lt]

theorem OpIn.place {s : Sf} {o : Oq} {i : Nat} (h : OpIn s o i) (h1 : o.k ≠ 1) (ha : kAt o.k = true) : (0 ≤ o.at_ ∧ o.at_ < 16) ∧ o.at_ < (s.bs[i]'h.lt).sz := by
  have h2 := (refused_parts h.ref).2.2.2.1 h1 ha
  rw [h.book] at h2
  have h3 := (book_parts (h.inv.oks _ (List.getElem_mem h.lt))).2.1
  have h4 := (op_parts h.ok).2.2.2.1
  omega
end Go.Proofs.YtcefcglonooelaaGreatDoor

