/-
  Contracts and plain laws, one chapter behind the other.
-/
import Derived.Test.YtcefcglonooelaaGreatDoorB06
import Derived.Test.YtcefcglonooelaaGreatDoorB08
import Derived.Test.YtcefcglonooelaaGreatDoorB21
import Derived.Test.YtcefcglonooelaaGreatDoorB28
namespace Go.Proofs.YtcefcglonooelaaGreatDoor
open Go.RowKit

set_option linter.unusedVariables false


set_option maxRecDepth 100000 in
set_option maxHeartbeats 6400000 in
theorem l9Did_full (v : Value) (bks : List Pk) (nm ot : ByteArray) (at_ va ep : Int) (w : World) (hn : nm.size ≤ maxLen) (ho : ot.size ≤ maxLen) (hr : ∀ b ∈ bks, b.rs.length ≤ 1048576) (hpo : plainsOk (bks.map Pk.pv) = true) (r : ReadsK w.heap.size w v bks) (hok : opOk ⟨2, nm, ot, at_, va, ep⟩ = true) (href : refused ((bks.map Pk.pv).map Pv.pb) ⟨2, nm, ot, at_, va, ep⟩ = 0) :
    Calls Tryz.prog 43 #[v, .agg #[.int .i64 2, .string nm, .string ot, .int .i64 at_, .int .i64 va, .int .i64 ep], .int .i64 9] w (DoKP (bks.map Pk.pv) ⟨2, nm, ot, at_, va, ep⟩ 9 w) := by
  obtain ⟨i, hi, hfp, hpk, hpa, hpe⟩ := foundV (o := ⟨2, nm, ot, at_, va, ep⟩) hpo href (show (2 : Int) ≠ 1 by decide)
  simp only at hfp hpa hpe
  have hib : i < bks.length := by rw [List.length_map] at hi; exact hi
  obtain ⟨ov, cv, hvf⟩ := r.row.form
  subst hvf
  have hfew : bks.length ≤ 6 := by have := (plains_ok hpo).1; rwa [List.length_map] at this
  obtain ⟨W0, hW0, k0, k1, d0, z0⟩ := box2 w #[.int .i64 2, .string nm, .string ot, .int .i64 at_, .int .i64 va, .int .i64 ep] #[.int .i64 0, .int .i64 0] 26 30
  have HW0 : Hid (W0 = _) := hW0
  have r0 := (r.below d0).mono d0.size
  clear hW0 z0 r
  go_enter Tryz.func43, Tryz.ntmps43
  go_upto_region 1 with fail
  rw [← HW0.out]
  clear HW0
  go_wp2_with fail
  refine (l9Copy_any _ bks _ (by omega) hr r0).mono ?_
  rintro e w1 ⟨v8, ms, rfl, hpv, own, ap, hnil, b1⟩
  have own0 := own.mono d0.size
  clear own
  replace k0 := (b1.block _ (heap_lt k0)).trans k0
  replace k1 := (b1.block _ (heap_lt k1)).trans k1
  replace d0 := bw_call d0 b1
  replace r0 := (r0.below b1).mono b1.size
  have HPV : Hid (ms.map Pk.pv = bks.map Pk.pv) := hpv
  have hml1 : ms.length ≤ bks.length := by have := congrArg List.length hpv; simp at this; omega
  have hml2 : bks.length ≤ ms.length := by have := congrArg List.length hpv; simp at this; omega
  clear b1 hpv
  have p0 := at_cell k0 0
  have p1 := at_cell k0 1
  have p2 := at_cell k0 2
  have p3 := at_cell k0 3
  have p4 := at_cell k0 4
  have p5 := at_cell k0 5
  go_wp2_with fail
  clear p0 p1 p2 p3 p4 p5
  refine (specOpOk_any 2 nm ot at_ va ep _ hn ho).mono ?_
  rw [hok]
  rintro e w2 ⟨rfl, b1⟩
  replace k0 := (b1.block _ (heap_lt k0)).trans k0
  replace k1 := (b1.block _ (heap_lt k1)).trans k1
  replace d0 := bw_call d0 b1
  replace r0 := (r0.below b1).mono b1.size
  replace own0 := own0.below b1
  clear b1
  obtain ⟨o8, c8, rfl⟩ := own_slice own0.row
  go_wp2_with fail
  refine (l9Books_any _ bks _ (by omega) r0).mono ?_
  rintro e w3 ⟨v9, bs, rfl, hbs, ob, hnil9, b1⟩
  replace k0 := (b1.block _ (heap_lt k0)).trans k0
  replace k1 := (b1.block _ (heap_lt k1)).trans k1
  replace d0 := bw_call d0 b1
  replace own0 := own0.below b1
  have rb : ReadsR 5 bookC w3.heap.size w3 v9 bs := ReadsR.of_own bookC_len ob.row
  have hfm : ∀ b ∈ bs, ∃ o k cp, b.m = .slice o k cp := fun b hb => by obtain ⟨o, cp, e⟩ := own_slice (ob.maps b hb); exact ⟨o, _, cp, e⟩
  obtain ⟨o9, c9, h9⟩ := rb.form
  subst h9
  clear b1 r0 ob
  have p0 := at_cell k0 0
  have p1 := at_cell k0 1
  have p2 := at_cell k0 2
  have p3 := at_cell k0 3
  have p4 := at_cell k0 4
  have p5 := at_cell k0 5
  go_wp2_with fail
  clear p0 p1 p2 p3 p4 p5
  refine (l8Refused_any _ bs 2 nm ot at_ va ep _ (by omega) rb hfm).mono ?_
  rw [hbs, href]
  rintro e w4 ⟨rfl, b1⟩
  replace k0 := (b1.block _ (heap_lt k0)).trans k0
  replace k1 := (b1.block _ (heap_lt k1)).trans k1
  replace d0 := bw_call d0 b1
  replace own0 := own0.below b1
  replace rb := (rb.below b1).mono b1.size
  clear b1 hfm
  have p1 := at_cell k0 1
  have p0 := at_cell k0 0
  have hfb : findB bs nm = i := by rw [← findP_map, hbs]; exact hfp
  go_wp2_with fail
  clear p0 p1
  refine (specFindBook_any _ bs nm _ rb).mono ?_
  rw [hfb]
  rintro e w5 ⟨rfl, rfl⟩
  clear rb hfb
  have hims : i < ms.length := by omega
  obtain ⟨⟨xn, xz, xm, xr, xf, xe⟩, hX⟩ : ∃ X : Pk, ms[i] = X := ⟨_, rfl⟩
  have HX : Hid (ms[i] = ⟨xn, xz, xm, xr, xf, xe⟩) := hX
  have HMI : Hid ((bks.map Pk.pv)[i] = ⟨xn, xz, xr, xf, xe⟩) := by
    have h := HPV.out
    have h2 : ms[i].pv = (bks.map Pk.pv)[i] := by simp [← h]
    rw [Hid, ← h2, hX]
    rfl
  have owm : w5.ownsRow w.heap.size 2 1 xm xr.length (xr.flatMap intC) := by have h := own0.maps ms[i] (List.getElem_mem hims); rw [hX] at h; exact h
  clear hX
  obtain ⟨g8, hg8⟩ : ∃ g8, o8 = some ⟨g8, 0, none⟩ := by
    rcases own0.row.2 with ⟨_, h0⟩ | ⟨g, cap', cur, e, _⟩
    · omega
    · simp only [Value.slice.injEq] at e
      exact ⟨g, e.1⟩
  subst hg8
  clear HX owm hpa hpe hpk hbs hfp HMI
  have p0 := at_cell k0 0
  have HS : Hid _ := k_end (c := 9) (v := 0) k1 own0 d0 (Nat.le_succ _)
  have HD : Hid (doPlain (bks.map Pk.pv) _ _ = _) := doPlain_full hok href rfl
  have q0 := at_cell k1 0
  have q1 := at_cell k1 1
  have f0 := at_open k1 0
  have f1 := at_open k1 1
  have HAP : Hid _ := ap
  clear k0 k1 own0 d0 ap hims
  go_wp2_with fail
  exact bodyPost_ret (v := .tuple #[.slice (some ⟨g8, 0, none⟩) ms.length c8, .agg #[.int .i64 9, .int .i64 0]]) (by simp [results, Tryz.results43, go_sem, at_cell HS.out.1]) rfl ⟨_, ms, by rw [HD.out], by rw [HD.out]; exact HPV.out, HS.out.2.1, HAP.out, HS.out.2.2⟩

/-- One plain's epoch is written. -/
theorem OwnK.epoch {base g8 cap nM i : Nat} {w : World} {ms : List Pk} (h : OwnK base w (.slice (some ⟨g8, 0, none⟩) nM cap) ms) (ap : ApartK ms) (hi : i < ms.length) {xn : ByteArray} {xz : Int} {xm : Value} {xr : List Int} {xf : Bool} {xe : Int} (hx : ms[i] = ⟨xn, xz, xm, xr, xf, xe⟩) (z : Int) :
    OwnK base (w.setCell ⟨g8, i * 5 + 4, none⟩ (.int .i64 z)) (.slice (some ⟨g8, 0, none⟩) nM cap) (ms.set i ⟨xn, xz, xm, xr, xf, z⟩) ∧ ApartK (ms.set i ⟨xn, xz, xm, xr, xf, z⟩) := by
  have u : Upto g8 w (w.setCell ⟨g8, i * 5 + 4, none⟩ (.int .i64 z)) := (Upto.refl _ _).setCell ⟨g8, i * 5 + 4, none⟩ (.inl rfl) _
  have hst := own_put pkC_len h.row i 4 ms[i] ⟨xn, xz, xm, xr, xf, z⟩ (.int .i64 z) (List.getElem?_eq_getElem hi) (by decide) (by rw [hx]; rfl)
  have keep : ∀ m ∈ ms, (w.setCell ⟨g8, i * 5 + 4, none⟩ (.int .i64 z)).ownsRow base 2 1 m.m m.rs.length (m.rs.flatMap intC) := fun m hm =>
    own_rng_not (h.maps m hm) (fun g hg hv => u.block g hg (fun e => rows_twoK h.row (h.maps m hm) (by decide) g8 rfl (by rw [← e]; exact hv)))
  refine ⟨⟨hst, fun m hm => ?_⟩, apart_m ap ?_⟩
  · obtain ⟨j, hj, rfl⟩ := List.mem_iff_getElem.1 hm
    rw [List.length_set] at hj
    by_cases e : i = j
    · subst e
      rw [List.getElem_set_self]
      have q := keep ms[i] (List.getElem_mem hi)
      rw [hx] at q
      exact q
    · rw [List.getElem_set_ne e]
      exact keep _ (List.getElem_mem hj)
  · rw [List.map_set]
    apply List.ext_getElem
    · simp
    · intro n h1 h2
      by_cases e : i = n
      · subst e
        rw [List.getElem_set_self, List.getElem_map, hx]
      · rw [List.getElem_set_ne e]

set_option maxRecDepth 100000 in
set_option maxHeartbeats 6400000 in
theorem l9Did_8 (v : Value) (bks : List Pk) (nm ot : ByteArray) (at_ va ep : Int) (told : Int) (w : World) (hn : nm.size ≤ maxLen) (ho : ot.size ≤ maxLen) (hr : ∀ b ∈ bks, b.rs.length ≤ 1048576) (hpo : plainsOk (bks.map Pk.pv) = true) (r : ReadsK w.heap.size w v bks) (hok : opOk ⟨8, nm, ot, at_, va, ep⟩ = true) (href : refused ((bks.map Pk.pv).map Pv.pb) ⟨8, nm, ot, at_, va, ep⟩ = 0) :
    Calls Tryz.prog 43 #[v, .agg #[.int .i64 8, .string nm, .string ot, .int .i64 at_, .int .i64 va, .int .i64 ep], .int .i64 told] w (DoKP (bks.map Pk.pv) ⟨8, nm, ot, at_, va, ep⟩ told w) := by
  obtain ⟨i, hi, hfp, hpk, hpa, hpe⟩ := foundV (o := ⟨8, nm, ot, at_, va, ep⟩) hpo href (show (8 : Int) ≠ 1 by decide)
  simp only at hfp hpa hpe
  have hib : i < bks.length := by rw [List.length_map] at hi; exact hi
  have hpp := pv_parts hpk
  have HDO : Hid (doPlain (bks.map Pk.pv) ⟨8, nm, ot, at_, va, ep⟩ told = ((bks.map Pk.pv).set i { (bks.map Pk.pv)[i] with ep := (bks.map Pk.pv)[i].ep + 1 }, (0, (bks.map Pk.pv)[i].ep + 1))) := doPlain_one hi hok href (by simp) (show (8 : Int) ≠ 1 ∧ (8 : Int) ≠ 6 ∧ kOther 8 = false by decide) hfp
  obtain ⟨ov, cv, hvf⟩ := r.row.form
  subst hvf
  have hfew : bks.length ≤ 6 := by have := (plains_ok hpo).1; rwa [List.length_map] at this
  obtain ⟨W0, hW0, k0, k1, d0, z0⟩ := box2 w #[.int .i64 8, .string nm, .string ot, .int .i64 at_, .int .i64 va, .int .i64 ep] #[.int .i64 0, .int .i64 0] 26 30
  have HW0 : Hid (W0 = _) := hW0
  have r0 := (r.below d0).mono d0.size
  clear hW0 z0 r
  go_enter Tryz.func43, Tryz.ntmps43
  go_upto_region 1 with fail
  rw [← HW0.out]
  clear HW0
  go_wp2_with fail
  refine (l9Copy_any _ bks _ (by omega) hr r0).mono ?_
  rintro e w1 ⟨v8, ms, rfl, hpv, own, ap, hnil, b1⟩
  have own0 := own.mono d0.size
  clear own
  replace k0 := (b1.block _ (heap_lt k0)).trans k0
  replace k1 := (b1.block _ (heap_lt k1)).trans k1
  replace d0 := bw_call d0 b1
  replace r0 := (r0.below b1).mono b1.size
  have HPV : Hid (ms.map Pk.pv = bks.map Pk.pv) := hpv
  have hml1 : ms.length ≤ bks.length := by have := congrArg List.length hpv; simp at this; omega
  have hml2 : bks.length ≤ ms.length := by have := congrArg List.length hpv; simp at this; omega
  clear b1 hpv
  have p0 := at_cell k0 0
  have p1 := at_cell k0 1
  have p2 := at_cell k0 2
  have p3 := at_cell k0 3
  have p4 := at_cell k0 4
  have p5 := at_cell k0 5
  go_wp2_with fail
  clear p0 p1 p2 p3 p4 p5
  refine (specOpOk_any 8 nm ot at_ va ep _ hn ho).mono ?_
  rw [hok]
  rintro e w2 ⟨rfl, b1⟩
  replace k0 := (b1.block _ (heap_lt k0)).trans k0
  replace k1 := (b1.block _ (heap_lt k1)).trans k1
  replace d0 := bw_call d0 b1
  replace r0 := (r0.below b1).mono b1.size
  replace own0 := own0.below b1
  clear b1
  obtain ⟨o8, c8, rfl⟩ := own_slice own0.row
  go_wp2_with fail
  refine (l9Books_any _ bks _ (by omega) r0).mono ?_
  rintro e w3 ⟨v9, bs, rfl, hbs, ob, hnil9, b1⟩
  replace k0 := (b1.block _ (heap_lt k0)).trans k0
  replace k1 := (b1.block _ (heap_lt k1)).trans k1
  replace d0 := bw_call d0 b1
  replace own0 := own0.below b1
  have rb : ReadsR 5 bookC w3.heap.size w3 v9 bs := ReadsR.of_own bookC_len ob.row
  have hfm : ∀ b ∈ bs, ∃ o k cp, b.m = .slice o k cp := fun b hb => by obtain ⟨o, cp, e⟩ := own_slice (ob.maps b hb); exact ⟨o, _, cp, e⟩
  obtain ⟨o9, c9, h9⟩ := rb.form
  subst h9
  clear b1 r0 ob
  have p0 := at_cell k0 0
  have p1 := at_cell k0 1
  have p2 := at_cell k0 2
  have p3 := at_cell k0 3
  have p4 := at_cell k0 4
  have p5 := at_cell k0 5
  go_wp2_with fail
  clear p0 p1 p2 p3 p4 p5
  refine (l8Refused_any _ bs 8 nm ot at_ va ep _ (by omega) rb hfm).mono ?_
  rw [hbs, href]
  rintro e w4 ⟨rfl, b1⟩
  replace k0 := (b1.block _ (heap_lt k0)).trans k0
  replace k1 := (b1.block _ (heap_lt k1)).trans k1
  replace d0 := bw_call d0 b1
  replace own0 := own0.below b1
  replace rb := (rb.below b1).mono b1.size
  clear b1 hfm
  have p1 := at_cell k0 1
  have p0 := at_cell k0 0
  have hfb : findB bs nm = i := by rw [← findP_map, hbs]; exact hfp
  go_wp2_with fail
  clear p0 p1
  refine (specFindBook_any _ bs nm _ rb).mono ?_
  rw [hfb]
  rintro e w5 ⟨rfl, rfl⟩
  clear rb hfb
  have hims : i < ms.length := by omega
  obtain ⟨⟨xn, xz, xm, xr, xf, xe⟩, hX⟩ : ∃ X : Pk, ms[i] = X := ⟨_, rfl⟩
  have HX : Hid (ms[i] = ⟨xn, xz, xm, xr, xf, xe⟩) := hX
  have HMI : Hid ((bks.map Pk.pv)[i] = ⟨xn, xz, xr, xf, xe⟩) := by
    have h := HPV.out
    have h2 : ms[i].pv = (bks.map Pk.pv)[i] := by simp [← h]
    rw [Hid, ← h2, hX]
    rfl
  have owm : w5.ownsRow w.heap.size 2 1 xm xr.length (xr.flatMap intC) := by have h := own0.maps ms[i] (List.getElem_mem hims); rw [hX] at h; exact h
  clear hX
  obtain ⟨g8, hg8⟩ : ∃ g8, o8 = some ⟨g8, 0, none⟩ := by
    rcases own0.row.2 with ⟨_, h0⟩ | ⟨g, cap', cur, e, _⟩
    · omega
    · simp only [Value.slice.injEq] at e
      exact ⟨g, e.1⟩
  subst hg8
  have hxe : 0 ≤ xe ∧ xe ≤ 1000 := by have h1 := hpp.2.1; rw [HMI.out] at h1; exact h1
  have HEP : Hid ((bks.map Pk.pv)[i].ep = xe) := by rw [Hid, HMI.out]
  obtain ⟨a4, b4⟩ := own_cell pkC_len own0.row i 4 _ (List.getElem?_eq_getElem hims) (by decide)
  have a4' : w5.cell? ⟨g8, i * 5 + 4, none⟩ = some (.int .i64 xe) := by rw [a4, HX.out]; rfl
  have i0 : (0 : Int) ≤ (i : Int) := by omega
  have i1 : (i : Int) < (ms.length : Int) := by omega
  have hwr : IntKind.i64.wrap (xe + 1) = xe + 1 := by rw [IntKind.wrap_i64]; omega
  have p0 := at_cell k0 0
  have n3 : w.heap.size + 1 ≠ g8 := fun e => own_not_box own0.row k1 (by decide) (by rw [e]; rfl)
  have l8 := own0.row.lt g8 rfl
  obtain ⟨owW, apW⟩ := own0.epoch ap hims HX.out (xe + 1)
  have uW : Upto g8 w5 (w5.setCell ⟨g8, i * 5 + 4, none⟩ (.int .i64 (xe + 1))) := (Upto.refl _ _).setCell ⟨g8, i * 5 + 4, none⟩ (.inl rfl) _
  have k1W := (uW.block _ (heap_lt k1) n3).trans k1
  have dW := d0.trans (uW.toBelow d0.size l8.1)
  have aW : (w5.setCell ⟨g8, i * 5 + 4, none⟩ (.int .i64 (xe + 1))).cell? ⟨g8, i * 5 + 4, none⟩ = some (.int .i64 (xe + 1)) := by
    obtain ⟨q, -⟩ := own_cell pkC_len owW.row i 4 _ (show (ms.set i ⟨xn, xz, xm, xr, xf, xe + 1⟩)[i]? = some ⟨xn, xz, xm, xr, xf, xe + 1⟩ by simp [hims]) (by decide)
    exact q
  have HPW : Hid ((ms.set i ⟨xn, xz, xm, xr, xf, xe + 1⟩).map Pk.pv = (bks.map Pk.pv).set i { (bks.map Pk.pv)[i] with ep := (bks.map Pk.pv)[i].ep + 1 }) := by
    rw [Hid, List.map_set, HPV.out, HMI.out]
    rfl
  have HW : Hid _ := And.intro owW (And.intro apW (And.intro k1W (And.intro dW aW)))
  clear k0 k1 own0 d0 ap a4 owm HX hpp hpa hpe hpk hbs hfp owW apW k1W dW uW aW
  go_upto_region 21 with fail
  obtain ⟨owW, apW, k1W, dW, aW⟩ := HW.out
  clear HW a4' b4 p0
  generalize w5.setCell ⟨g8, i * 5 + 4, none⟩ (.int .i64 (xe + 1)) = W6 at *
  have l86 := (owW.row.lt g8 rfl).2
  have HKeep : ∀ X, Upto (w.heap.size + 1) W6 X → X.cell? ⟨g8, i * 5 + 4, none⟩ = some (.int .i64 (xe + 1)) := fun X u =>
    (u.cell (p := ⟨g8, i * 5 + 4, none⟩) l86 (Ne.symm n3)).trans aW
  have HSA : Hid _ := k_endD (c := 0) (v := xe + 1) k1W owW dW (Nat.le_succ _)
  have HAP : Hid _ := apW
  have q0 := at_cell k1W 0
  have q1 := at_cell k1W 1
  have f0 := at_open k1W 0
  have f1 := at_open k1W 1
  have q0d : W6.drew.cell? ⟨w.heap.size + 1, 0, none⟩ = some (.int .i64 0) := at_cell k1W 0
  have q1d : W6.drew.cell? ⟨w.heap.size + 1, 1, none⟩ = some (.int .i64 0) := at_cell k1W 1
  have f0d : W6.drew.frozen? ⟨w.heap.size + 1, 0, none⟩ = false := at_open k1W 0
  have f1d : W6.drew.frozen? ⟨w.heap.size + 1, 1, none⟩ = false := at_open k1W 1
  clear owW apW k1W dW
  obtain ⟨z, hz⟩ : ∃ z, xe + 1 = z := ⟨_, rfl⟩
  have HZ : Hid (xe + 1 = z) := hz
  rw [hz] at HKeep aW HSA HAP HPW ⊢
  clear hz hwr
  go_region_held3 (fun X => X.cell? ⟨g8, i * 5 + 4, none⟩ = some (.int .i64 z))
    ((refine HKeep _ ?_; repeat (first | exact Upto.refl _ _ | (apply Upto.setCell; rotate_left; exact Or.inl rfl) | refine Upto.drew ?_)))
    ((fail))
  all_goals
    clear HKeep q0 q1 f0 f1 q0d q1d f0d f1d aW
    go_wp2_with fail
    exact bodyPost_ret (v := .tuple #[.slice (some ⟨g8, 0, none⟩) ms.length c8, .agg #[.int .i64 0, .int .i64 z]]) (by simp [results, Tryz.results43, go_sem, at_cell HSA.out.1]) rfl ⟨_, _, by rw [HDO.out, HEP.out, HZ.out], by rw [HDO.out]; exact HPW.out, HSA.out.2.1, HAP.out, HSA.out.2.2⟩
end Go.Proofs.YtcefcglonooelaaGreatDoor

namespace Go.Proofs.YtcefcglonooelaaGreatDoor
open Go.RowKit

set_option linter.unusedVariables false


/-- A plain whose values lie in a new block stands apart from the others. -/
theorem apart_insert {ms : List Pk} (h : ApartK ms) (q : Nat) (x : Pk) (hx : ∀ m ∈ ms, ∀ g, m.m.ownBlock = some g → x.m.ownBlock ≠ some g) : ApartK (ms.take q ++ [x] ++ ms.drop q) := by
  unfold ApartK at h ⊢
  have h2 : (ms.take q ++ ms.drop q).Pairwise (fun a b => ∀ g, a.m.ownBlock = some g → b.m.ownBlock ≠ some g) := by rw [List.take_append_drop]; exact h
  obtain ⟨p1, p2, p3⟩ := List.pairwise_append.1 h2
  refine List.pairwise_append.2 ⟨List.pairwise_append.2 ⟨p1, List.pairwise_singleton _ _, fun a ha b hb => ?_⟩, p2, fun a ha b hb => ?_⟩
  · simp only [List.mem_singleton] at hb
    subst hb
    exact hx a (List.mem_of_mem_take ha)
  · rcases List.mem_append.1 ha with ha | ha
    · exact p3 a ha b hb
    · simp only [List.mem_singleton] at ha
      subst ha
      intro g hg e
      exact hx b (List.mem_of_mem_drop hb) g e hg

theorem ints_flat (xs : List Int) : xs.flatMap intC = xs.map (Value.int .i64) := by
  induction xs with
  | nil => rfl
  | cons a l ih => rw [List.flatMap_cons, ih]; rfl

theorem put_pv {ms : List Pk} {l : List Pv} (h : ms.map Pk.pv = l) (x : Pk) : (ms.take (insertAt ((ms.map Pk.pv).map Pv.pb) x.nm) ++ [x] ++ ms.drop (insertAt ((ms.map Pk.pv).map Pv.pb) x.nm)).map Pk.pv = putV l x.pv := by
  rw [List.map_append, List.map_append, List.map_take, List.map_drop, h]
  rfl

set_option maxRecDepth 100000 in
set_option maxHeartbeats 6400000 in
theorem l9Did_1 (v : Value) (bks : List Pk) (nm ot : ByteArray) (at_ va ep : Int) (told : Int) (w : World) (hn : nm.size ≤ maxLen) (ho : ot.size ≤ maxLen) (hr : ∀ b ∈ bks, b.rs.length ≤ 1048576) (hpo : plainsOk (bks.map Pk.pv) = true) (r : ReadsK w.heap.size w v bks) (hok : opOk ⟨1, nm, ot, at_, va, ep⟩ = true) (href : refused ((bks.map Pk.pv).map Pv.pb) ⟨1, nm, ot, at_, va, ep⟩ = 0) :
    Calls Tryz.prog 43 #[v, .agg #[.int .i64 1, .string nm, .string ot, .int .i64 at_, .int .i64 va, .int .i64 ep], .int .i64 told] w (DoKP (bks.map Pk.pv) ⟨1, nm, ot, at_, va, ep⟩ told w) := by
  have hbd := opOk_bd _ hok
  simp only at hbd
  have hva : 0 ≤ va ∧ va ≤ 999 := ⟨hbd.2.2.2.2.1.1, hbd.2.2.2.2.1.2⟩
  obtain ⟨N, rfl⟩ := Int.eq_ofNat_of_zero_le hva.1
  have hN : N ≤ 1048576 := by omega
  have HDO : Hid (doPlain (bks.map Pk.pv) ⟨1, nm, ot, at_, (N : Int), ep⟩ told = (putV (bks.map Pk.pv) ⟨nm, N, List.replicate N 0, false, 0⟩, (0, 0))) := by
    rw [Hid, doPlain, if_neg (by rw [hok]; decide), if_neg (by rw [href]; decide), if_neg (by simp), if_pos rfl]
    rfl
  obtain ⟨MK, -, hmk, hown⟩ := made_ints N hN
  obtain ⟨ov, cv, hvf⟩ := r.row.form
  subst hvf
  have hfew : bks.length ≤ 6 := by have := (plains_ok hpo).1; rwa [List.length_map] at this
  obtain ⟨W0, hW0, k0, k1, d0, z0⟩ := box2 w #[.int .i64 1, .string nm, .string ot, .int .i64 at_, .int .i64 (N : Int), .int .i64 ep] #[.int .i64 0, .int .i64 0] 26 30
  have HW0 : Hid (W0 = _) := hW0
  have r0 := (r.below d0).mono d0.size
  clear hW0 z0 r
  go_enter Tryz.func43, Tryz.ntmps43
  go_upto_region 1 with fail
  rw [← HW0.out]
  clear HW0
  go_wp2_with fail
  refine (l9Copy_any _ bks _ (by omega) hr r0).mono ?_
  rintro e w1 ⟨v8, ms, rfl, hpv, own, ap, hnil, b1⟩
  have own0 := own.mono d0.size
  clear own
  replace k0 := (b1.block _ (heap_lt k0)).trans k0
  replace k1 := (b1.block _ (heap_lt k1)).trans k1
  replace d0 := bw_call d0 b1
  replace r0 := (r0.below b1).mono b1.size
  have HPV : Hid (ms.map Pk.pv = bks.map Pk.pv) := hpv
  have hml1 : ms.length ≤ bks.length := by have := congrArg List.length hpv; simp at this; omega
  have hml2 : bks.length ≤ ms.length := by have := congrArg List.length hpv; simp at this; omega
  clear b1 hpv
  have p0 := at_cell k0 0
  have p1 := at_cell k0 1
  have p2 := at_cell k0 2
  have p3 := at_cell k0 3
  have p4 := at_cell k0 4
  have p5 := at_cell k0 5
  go_wp2_with fail
  clear p0 p1 p2 p3 p4 p5
  refine (specOpOk_any 1 nm ot at_ (N : Int) ep _ hn ho).mono ?_
  rw [hok]
  rintro e w2 ⟨rfl, b1⟩
  replace k0 := (b1.block _ (heap_lt k0)).trans k0
  replace k1 := (b1.block _ (heap_lt k1)).trans k1
  replace d0 := bw_call d0 b1
  replace r0 := (r0.below b1).mono b1.size
  replace own0 := own0.below b1
  clear b1
  obtain ⟨o8, c8, rfl⟩ := own_slice own0.row
  go_wp2_with fail
  refine (l9Books_any _ bks _ (by omega) r0).mono ?_
  rintro e w3 ⟨v9, bs, rfl, hbs, ob, hnil9, b1⟩
  replace k0 := (b1.block _ (heap_lt k0)).trans k0
  replace k1 := (b1.block _ (heap_lt k1)).trans k1
  replace d0 := bw_call d0 b1
  replace own0 := own0.below b1
  have rb : ReadsR 5 bookC w3.heap.size w3 v9 bs := ReadsR.of_own bookC_len ob.row
  have hfm : ∀ b ∈ bs, ∃ o k cp, b.m = .slice o k cp := fun b hb => by obtain ⟨o, cp, e⟩ := own_slice (ob.maps b hb); exact ⟨o, _, cp, e⟩
  obtain ⟨o9, c9, h9⟩ := rb.form
  subst h9
  clear b1 r0 ob
  have p0 := at_cell k0 0
  have p1 := at_cell k0 1
  have p2 := at_cell k0 2
  have p3 := at_cell k0 3
  have p4 := at_cell k0 4
  have p5 := at_cell k0 5
  go_wp2_with fail
  clear p0 p1 p2 p3 p4 p5
  refine (l8Refused_any _ bs 1 nm ot at_ (N : Int) ep _ (by omega) rb hfm).mono ?_
  rw [hbs, href]
  rintro e w4 ⟨rfl, b1⟩
  replace k0 := (b1.block _ (heap_lt k0)).trans k0
  replace k1 := (b1.block _ (heap_lt k1)).trans k1
  replace d0 := bw_call d0 b1
  replace own0 := own0.below b1
  replace rb := (rb.below b1).mono b1.size
  clear b1 hfm
  have p1 := at_cell k0 1
  have p0 := at_cell k0 0
  go_wp2_with fail
  clear p0 p1
  refine (specFindBook_any _ bs nm _ rb).mono ?_
  generalize findB bs nm = fi
  rintro e w5 ⟨rfl, rfl⟩
  clear rb hbs
  obtain ⟨g8, hg8⟩ : ∃ g8, o8 = some ⟨g8, 0, none⟩ := by
    rcases own0.row.2 with ⟨e, h0⟩ | ⟨g, cap', cur, e, _⟩
    · exact absurd e hnil
    · simp only [Value.slice.injEq] at e
      exact ⟨g, e.1⟩
  subst hg8
  have p0 := at_cell k0 0
  have i2 : (0 : Int) ≤ (N : Int) := by omega
  have HKeep : ∀ X, Upto (w.heap.size + 1) w5 X → (X.cell? ⟨w.heap.size, 1, none⟩ = some (.string nm) ∧ X.cell? ⟨w.heap.size, 4, none⟩ = some (.int .i64 (N : Int))) := fun X u =>
    ⟨(u.cell (p := ⟨w.heap.size, 1, none⟩) (heap_lt k0) (by simp)).trans (at_cell k0 1), (u.cell (p := ⟨w.heap.size, 4, none⟩) (heap_lt k0) (by simp)).trans (at_cell k0 4)⟩
  have s1 := heap_lt k1
  have hds := d0.size
  have HIN : Hid (∀ W6, W6 = w5.drew.alloc (.cells MK 2) → Calls Tryz.prog 85 #[.slice (some ⟨g8, 0, none⟩) ms.length c8, .agg #[.string nm, .int .i64 (N : Int), .slice (some ⟨w5.heap.size, 0, none⟩) N N, .bool false, .int .i64 0]] W6 fun e w' => ∃ v' : Value, e = .returned v' ∧ OwnK w.heap.size w' v' (ms.take (insertAt ((ms.map Pk.pv).map Pv.pb) nm) ++ [⟨nm, N, .slice (some ⟨w5.heap.size, 0, none⟩) N N, List.replicate N 0, false, 0⟩] ++ ms.drop (insertAt ((ms.map Pk.pv).map Pv.pb) nm)) ∧ v' ≠ .slice none 0 0 ∧ Below W6.heap.size W6 w') := fun W6 hW6 => by
    have hb6 : Below w5.heap.size w5 W6 := by rw [hW6]; exact bw_alloc (bw_drew (Below.refl _ _))
    have hm6 : W6.ownsRow w.heap.size 2 1 (.slice (some ⟨w5.heap.size, 0, none⟩) N N) (List.replicate N (0 : Int)).length ((List.replicate N (0 : Int)).flatMap intC) := by
      have h := hown w5.drew w.heap.size hds
      rw [← hW6] at h
      rw [List.length_replicate, ints_flat]
      exact h
    exact l9Insert_any w.heap.size g8 c8 ms ⟨nm, N, .slice (some ⟨w5.heap.size, 0, none⟩) N N, List.replicate N 0, false, 0⟩ W6 (Nat.le_trans hds hb6.size) (own0.below hb6) (by omega) hm6
  have HAP : Hid (ApartK (ms.take (insertAt ((ms.map Pk.pv).map Pv.pb) nm) ++ [⟨nm, N, .slice (some ⟨w5.heap.size, 0, none⟩) N N, List.replicate N 0, false, 0⟩] ++ ms.drop (insertAt ((ms.map Pk.pv).map Pv.pb) nm))) := apart_insert ap _ _ (fun m hm g hg e => by
    have h1 := (own0.maps m hm).lt g hg
    have h2 : some w5.heap.size = some g := e
    simp only [Option.some.injEq] at h2
    omega)
  have HPW : Hid _ := put_pv HPV.out ⟨nm, N, .slice (some ⟨w5.heap.size, 0, none⟩) N N, List.replicate N 0, false, 0⟩
  have HK : Hid _ := And.intro k1 d0
  clear k0 k1 own0 d0 ap
  go_wp2_with fail
  clear p0
  go_region_held3 (fun X => X.cell? ⟨w.heap.size, 1, none⟩ = some (.string nm) ∧ X.cell? ⟨w.heap.size, 4, none⟩ = some (.int .i64 (N : Int)))
    ((refine HKeep _ ?_; repeat (first | exact U6 | exact Upto.refl _ _ | (apply Upto.setCell; rotate_left; exact Or.inl rfl) | refine Upto.drew ?_ | refine Upto.alloc ?_ _)))
    ((go_simp; go_at_call 85; refine (HIN.out _ rfl).mono ?_; rintro e w6 ⟨v6, rfl, ow6, hn6, b6⟩; have B6 : Below w5.heap.size w5 w6 := bw_call (bw_alloc (bw_drew (Below.refl _ _))) b6; have U6 : Upto (w.heap.size + 1) w5 w6 := Upto.ofBelow B6; have k6 := (B6.block _ s1).trans HK.out.1; have q0 := at_cell k6 0; have q1 := at_cell k6 1; have f0 := at_open k6 0; have f1 := at_open k6 1; dsimp only))
  all_goals
    have HS : Hid _ := k_end (c := 0) (v := 0) k6 ow6 (bw_call HK.out.2 B6) (Nat.le_succ _)
    clear HKeep HIN q0 q1 f0 f1 k6 ow6 B6 U6 b6 HK hmk hown
    go_wp2_with fail
    exact bodyPost_ret (v := .tuple #[v6, .agg #[.int .i64 0, .int .i64 0]]) (by simp [results, Tryz.results43, go_sem, at_cell HS.out.1]) rfl ⟨v6, _, by rw [HDO.out], by rw [HDO.out]; exact HPW.out, HS.out.2.1, HAP.out, HS.out.2.2⟩
end Go.Proofs.YtcefcglonooelaaGreatDoor

namespace Go.Proofs.YtcefcglonooelaaGreatDoor
open Go.RowKit

set_option linter.unusedVariables false

set_option maxRecDepth 100000


/-- The result's box is written whole. -/
theorem five_end {w W : World} {b : Nat} {x0 x1 x2 x3 x4 : Value} {n : Nat} {xs : List Value} {v : Value} (hb : w.heap.size ≤ b) (k : W.heap[b]? = some (.cells #[x0, x1, x2, x3, x4] 51 (0, 0))) (d : Below w.heap.size w W) (o : W.ownsRow w.heap.size 2 1 v n xs) (y0 y1 y2 y3 y4 : Value) :
    (((((W.setCell ⟨b, 0, none⟩ y0).setCell ⟨b, 1, none⟩ y1).setCell ⟨b, 2, none⟩ y2).setCell ⟨b, 3, none⟩ y3).setCell ⟨b, 4, none⟩ y4).heap[b]? = some (.cells #[y0, y1, y2, y3, y4] 51 (0, 0)) ∧ (((((W.setCell ⟨b, 0, none⟩ y0).setCell ⟨b, 1, none⟩ y1).setCell ⟨b, 2, none⟩ y2).setCell ⟨b, 3, none⟩ y3).setCell ⟨b, 4, none⟩ y4).ownsRow w.heap.size 2 1 v n xs ∧ Below w.heap.size w (((((W.setCell ⟨b, 0, none⟩ y0).setCell ⟨b, 1, none⟩ y1).setCell ⟨b, 2, none⟩ y2).setCell ⟨b, 3, none⟩ y3).setCell ⟨b, 4, none⟩ y4) := by
  have u : Upto b W (((((W.setCell ⟨b, 0, none⟩ y0).setCell ⟨b, 1, none⟩ y1).setCell ⟨b, 2, none⟩ y2).setCell ⟨b, 3, none⟩ y3).setCell ⟨b, 4, none⟩ y4) := (((((Upto.refl _ _).setCell ⟨b, 0, none⟩ (.inl rfl) _).setCell ⟨b, 1, none⟩ (.inl rfl) _).setCell ⟨b, 2, none⟩ (.inl rfl) _).setCell ⟨b, 3, none⟩ (.inl rfl) _).setCell ⟨b, 4, none⟩ (.inl rfl) _
  exact ⟨set_five k y0 y1 y2 y3 y4, own_box_k o k (by decide) u, bw_five d hb y0 y1 y2 y3 y4⟩

set_option maxHeartbeats 1600000 in
theorem writtenPlain_any (xn : ByteArray) (xz : Int) (xm : Value) (xr : List Int) (xf : Bool) (xe : Int) (A : Nat) (z : Int) (w : World) (hA : A < xr.length) (hl : xr.length ≤ 1048576) (r : Reads w.heap.size w xm (xr.map (Value.int .i64))) :
    Calls Tryz.prog 130 #[.agg #[.string xn, .int .i64 xz, xm, .bool xf, .int .i64 xe], .int .i64 A, .int .i64 z] w fun e w' => ∃ v' : Value, e = .returned (.agg #[.string xn, .int .i64 xz, v', .bool xf, .int .i64 xe]) ∧ w'.ownsRow w.heap.size 2 1 v' (xr.set A z).length ((xr.set A z).flatMap intC) ∧ Below w.heap.size w w' := by
  have HWN : Hid _ := fun (w : World) (v : Value) h => withNumber_any v xr A z w hA hl h
  obtain ⟨ys, hys⟩ : ∃ ys, xr.set A z = ys := ⟨_, rfl⟩
  rw [hys] at HWN ⊢
  clear hys
  obtain ⟨om, cm, hmf, -⟩ := id r
  subst hmf
  obtain ⟨W0, hW0, k0, k1, d0, z0⟩ := box2 w #[.string xn, .int .i64 xz, .slice om (xr.map (Value.int .i64)).length cm, .bool xf, .int .i64 xe] #[.string ⟨#[]⟩, .int .i64 0, .slice none 0 0, .bool false, .int .i64 0] 51 51
  have HW0 : Hid (W0 = _) := hW0
  have r0 := (r.below d0).mono d0.size
  have p2 := at_cell k0 2
  clear hW0 z0 r
  rw [List.length_map] at *
  go_enter Tryz.func130, Tryz.ntmps130
  go_upto_region 1 with fail
  rw [← HW0.out]
  clear HW0
  go_wp2_with fail
  refine (HWN.out _ _ r0).mono ?_
  rintro e w1 ⟨v1, rfl, ow1, hn1, b1⟩
  obtain ⟨o1, c1, hv1⟩ := own_slice ow1
  subst hv1
  replace k0 := (b1.block _ (heap_lt k0)).trans k0
  replace k1 := (b1.block _ (heap_lt k1)).trans k1
  have ow2 : w1.ownsRow w.heap.size 2 1 (.slice o1 ys.length c1) ys.length (ys.flatMap intC) := by rw [ints_flat]; exact owns_mono ow1 d0.size
  replace d0 := bw_call d0 b1
  have u0 : Upto w.heap.size w1 (w1.setCell ⟨w.heap.size, 2, none⟩ (.slice o1 ys.length c1)) := (Upto.refl _ _).setCell ⟨w.heap.size, 2, none⟩ (.inl rfl) _
  have q2 := at_cell k0 2
  have f2 := at_open k0 2
  have k0W := set_at k0 2 (.slice o1 ys.length c1)
  have k1W := (u0.block _ (heap_lt k1) (by omega)).trans k1
  have owW := own_box_k ow2 k0 (by decide) u0
  have dW := d0.trans (u0.toBelow d0.size (Nat.le_refl _))
  clear p2 r0 b1 ow1 ow2 hn1 k0 k1 d0 u0
  go_upto_region 2 with fail
  generalize w1.setCell ⟨w.heap.size, 2, none⟩ (.slice o1 ys.length c1) = W2 at *
  clear q2 f2
  have HS : Hid _ := five_end (Nat.le_succ _) k1W dW owW (.string xn) (.int .i64 xz) (.slice o1 ys.length c1) (.bool xf) (.int .i64 xe)
  have a0 := at_cell k0W 0
  have a1 := at_cell k0W 1
  have a2 := at_cell k0W 2
  have a3 := at_cell k0W 3
  have a4 := at_cell k0W 4
  have b0 := at_cell k1W 0
  have b1 := at_cell k1W 1
  have b2 := at_cell k1W 2
  have b3 := at_cell k1W 3
  have b4 := at_cell k1W 4
  have c0 := at_open k1W 0
  have c1' := at_open k1W 1
  have c2 := at_open k1W 2
  have c3 := at_open k1W 3
  have c4 := at_open k1W 4
  clear k0W k1W dW owW
  go_wp2_with fail
  exact bodyPost_ret (v := .agg #[.string xn, .int .i64 xz, .slice o1 ys.length c1, .bool xf, .int .i64 xe]) (by simp [results, Tryz.results130, go_sem, at_cell HS.out.1]) rfl ⟨_, rfl, HS.out.2.1, HS.out.2.2⟩
end Go.Proofs.YtcefcglonooelaaGreatDoor

