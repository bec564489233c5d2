/-
  Contracts and plain laws, one chapter behind the other.
-/
import Derived.Test.YtcefcglonooelaaGreatDoorB08
import Derived.Test.YtcefcglonooelaaGreatDoorB09
import Derived.Test.YtcefcglonooelaaGreatDoorB10
import Derived.Test.YtcefcglonooelaaGreatDoorB26
import Derived.Test.YtcefcglonooelaaGreatDoorB31
import Derived.Test.YtcefcglonooelaaGreatDoorB33
import Derived.Test.YtcefcglonooelaaGreatDoorB35
import Derived.Test.YtcefcglonooelaaGreatDoorB36
namespace Go.Proofs.YtcefcglonooelaaGreatDoor
open Go.RowKit

set_option linter.unusedVariables false


/-- One plain's values and its size are written. -/
theorem OwnK.resize {base g8 cap nM i : Nat} {w : World} {ms : List Pk} (h : OwnK base w (.slice (some ⟨g8, 0, none⟩) nM cap) ms) (ap : ApartK ms) (hi : i < ms.length) {xn : ByteArray} {xz : Int} {xm : Value} {xr : List Int} {xf : Bool} {xe : Int} (hx : ms[i] = ⟨xn, xz, xm, xr, xf, xe⟩) (z : Int) (v : Value) (ys : List Int)
    (ho : w.ownsRow base 2 1 v ys.length (ys.flatMap intC)) (hv : ∀ m ∈ ms, ∀ g, m.m.ownBlock = some g → v.ownBlock ≠ some g) :
    OwnK base ((w.setCell ⟨g8, i * 5 + 2, none⟩ v).setCell ⟨g8, i * 5 + 1, none⟩ (.int .i64 z)) (.slice (some ⟨g8, 0, none⟩) nM cap) (ms.set i ⟨xn, z, v, ys, xf, xe⟩) ∧ ApartK (ms.set i ⟨xn, z, v, ys, xf, xe⟩) := by
  have u : Upto g8 w ((w.setCell ⟨g8, i * 5 + 2, none⟩ v).setCell ⟨g8, i * 5 + 1, none⟩ (.int .i64 z)) := ((Upto.refl _ _).setCell ⟨g8, i * 5 + 2, none⟩ (.inl rfl) _).setCell ⟨g8, i * 5 + 1, none⟩ (.inl rfl) _
  have hs1 := own_put pkC_len h.row i 2 ms[i] ⟨xn, xz, v, ys, xf, xe⟩ v (List.getElem?_eq_getElem hi) (by decide) (by rw [hx]; rfl)
  have hs2 := own_put pkC_len hs1 i 1 ⟨xn, xz, v, ys, xf, xe⟩ ⟨xn, z, v, ys, xf, xe⟩ (.int .i64 z) (by simp [hi]) (by decide) rfl
  rw [List.set_set] at hs2
  have keep : ∀ (v' : Value) (l : List Int), w.ownsRow base 2 1 v' l.length (l.flatMap intC) → ((w.setCell ⟨g8, i * 5 + 2, none⟩ v).setCell ⟨g8, i * 5 + 1, none⟩ (.int .i64 z)).ownsRow base 2 1 v' l.length (l.flatMap intC) := fun v' l hl =>
    own_rng_not hl (fun g hg hv => u.block g hg (fun e => rows_twoK h.row hl (by decide) g8 rfl (by rw [← e]; exact hv)))
  refine ⟨⟨hs2, fun m hm => ?_⟩, ?_⟩
  · rcases List.mem_or_eq_of_mem_set hm with hm | rfl
    · exact keep _ _ (h.maps m hm)
    · exact keep _ _ ho
  · refine List.pairwise_iff_getElem.2 (fun a b ha hb hab => ?_)
    rw [List.length_set] at ha hb
    by_cases ea : i = a
    · subst ea
      rw [List.getElem_set_self, List.getElem_set_ne (by omega)]
      intro g hg e
      exact hv _ (List.getElem_mem hb) g e hg
    · rw [List.getElem_set_ne ea]
      by_cases eb : i = b
      · subst eb
        rw [List.getElem_set_self]
        exact hv _ (List.getElem_mem ha)
      · rw [List.getElem_set_ne eb]
        exact apart_at9 ap a b ha hb (by omega)

set_option maxRecDepth 100000 in
set_option maxHeartbeats 6400000 in
theorem l9Did_7 (v : Value) (bks : List Pk) (nm ot : ByteArray) (at_ va ep : Int) (told : Int) (w : World) (hn : nm.size ≤ maxLen) (ho : ot.size ≤ maxLen) (hr : ∀ b ∈ bks, b.rs.length ≤ 1048576) (hpo : plainsOk (bks.map Pk.pv) = true) (r : ReadsK w.heap.size w v bks) (hok : opOk ⟨7, nm, ot, at_, va, ep⟩ = true) (href : refused ((bks.map Pk.pv).map Pv.pb) ⟨7, nm, ot, at_, va, ep⟩ = 0) :
    Calls Tryz.prog 43 #[v, .agg #[.int .i64 7, .string nm, .string ot, .int .i64 at_, .int .i64 va, .int .i64 ep], .int .i64 told] w (DoKP (bks.map Pk.pv) ⟨7, nm, ot, at_, va, ep⟩ told w) := by
  obtain ⟨i, hi, hfp, hpk, hpa, hpe⟩ := foundV (o := ⟨7, nm, ot, at_, va, ep⟩) hpo href (show (7 : Int) ≠ 1 by decide)
  simp only at hfp hpa hpe
  have hib : i < bks.length := by rw [List.length_map] at hi; exact hi
  have hpp := pv_parts hpk
  have hva := (op_parts hok).2.2.2.2.1 rfl
  simp only at hva
  obtain ⟨N, rfl⟩ := Int.eq_ofNat_of_zero_le (show 0 ≤ va by omega)
  have hN : N ≤ 16 := by omega
  have HDO : Hid (doPlain (bks.map Pk.pv) ⟨7, nm, ot, at_, (N : Int), ep⟩ told = ((bks.map Pk.pv).set i { (bks.map Pk.pv)[i] with sz := (N : Int), vs := ((bks.map Pk.pv)[i].vs ++ List.replicate 16 0).take N }, (0, 0))) := doPlain_one hi hok href (by simp) (show (7 : Int) ≠ 1 ∧ (7 : Int) ≠ 6 ∧ kOther 7 = false by decide) hfp
  obtain ⟨j0, hj0, hz0, hz1, hz2⟩ := info_parts Tryz.infoI64
  obtain ⟨ov, cv, hvf⟩ := r.row.form
  subst hvf
  have hfew : bks.length ≤ 6 := by have := (plains_ok hpo).1; rwa [List.length_map] at this
  obtain ⟨W0, hW0, k0, k1, d0, z0⟩ := box2 w #[.int .i64 7, .string nm, .string ot, .int .i64 at_, .int .i64 (N : Int), .int .i64 ep] #[.int .i64 0, .int .i64 0] 26 30
  have HW0 : Hid (W0 = _) := hW0
  have r0 := (r.below d0).mono d0.size
  clear hW0 z0 r
  go_enter Tryz.func43, Tryz.ntmps43
  go_upto_region 1 with fail
  rw [← HW0.out]
  clear HW0
  go_wp2_with fail
  refine (l9Copy_any _ bks _ (by omega) hr r0).mono ?_
  rintro e w1 ⟨v8, ms, rfl, hpv, own, ap, hnil, b1⟩
  have own0 := own.mono d0.size
  clear own
  replace k0 := (b1.block _ (heap_lt k0)).trans k0
  replace k1 := (b1.block _ (heap_lt k1)).trans k1
  replace d0 := bw_call d0 b1
  replace r0 := (r0.below b1).mono b1.size
  have HPV : Hid (ms.map Pk.pv = bks.map Pk.pv) := hpv
  have hml1 : ms.length ≤ bks.length := by have := congrArg List.length hpv; simp at this; omega
  have hml2 : bks.length ≤ ms.length := by have := congrArg List.length hpv; simp at this; omega
  clear b1 hpv
  have p0 := at_cell k0 0
  have p1 := at_cell k0 1
  have p2 := at_cell k0 2
  have p3 := at_cell k0 3
  have p4 := at_cell k0 4
  have p5 := at_cell k0 5
  go_wp2_with fail
  clear p0 p1 p2 p3 p4 p5
  refine (specOpOk_any 7 nm ot at_ (N : Int) ep _ hn ho).mono ?_
  rw [hok]
  rintro e w2 ⟨rfl, b1⟩
  replace k0 := (b1.block _ (heap_lt k0)).trans k0
  replace k1 := (b1.block _ (heap_lt k1)).trans k1
  replace d0 := bw_call d0 b1
  replace r0 := (r0.below b1).mono b1.size
  replace own0 := own0.below b1
  clear b1
  obtain ⟨o8, c8, rfl⟩ := own_slice own0.row
  go_wp2_with fail
  refine (l9Books_any _ bks _ (by omega) r0).mono ?_
  rintro e w3 ⟨v9, bs, rfl, hbs, ob, hnil9, b1⟩
  replace k0 := (b1.block _ (heap_lt k0)).trans k0
  replace k1 := (b1.block _ (heap_lt k1)).trans k1
  replace d0 := bw_call d0 b1
  replace own0 := own0.below b1
  have rb : ReadsR 5 bookC w3.heap.size w3 v9 bs := ReadsR.of_own bookC_len ob.row
  have hfm : ∀ b ∈ bs, ∃ o k cp, b.m = .slice o k cp := fun b hb => by obtain ⟨o, cp, e⟩ := own_slice (ob.maps b hb); exact ⟨o, _, cp, e⟩
  obtain ⟨o9, c9, h9⟩ := rb.form
  subst h9
  clear b1 r0 ob
  have p0 := at_cell k0 0
  have p1 := at_cell k0 1
  have p2 := at_cell k0 2
  have p3 := at_cell k0 3
  have p4 := at_cell k0 4
  have p5 := at_cell k0 5
  go_wp2_with fail
  clear p0 p1 p2 p3 p4 p5
  refine (l8Refused_any _ bs 7 nm ot at_ (N : Int) ep _ (by omega) rb hfm).mono ?_
  rw [hbs, href]
  rintro e w4 ⟨rfl, b1⟩
  replace k0 := (b1.block _ (heap_lt k0)).trans k0
  replace k1 := (b1.block _ (heap_lt k1)).trans k1
  replace d0 := bw_call d0 b1
  replace own0 := own0.below b1
  replace rb := (rb.below b1).mono b1.size
  clear b1 hfm
  have p1 := at_cell k0 1
  have p0 := at_cell k0 0
  have hfb : findB bs nm = i := by rw [← findP_map, hbs]; exact hfp
  go_wp2_with fail
  clear p0 p1
  refine (specFindBook_any _ bs nm _ rb).mono ?_
  rw [hfb]
  rintro e w5 ⟨rfl, rfl⟩
  clear rb hfb
  have hims : i < ms.length := by omega
  obtain ⟨⟨xn, xz, xm, xr, xf, xe⟩, hX⟩ : ∃ X : Pk, ms[i] = X := ⟨_, rfl⟩
  have HX : Hid (ms[i] = ⟨xn, xz, xm, xr, xf, xe⟩) := hX
  have HMI : Hid ((bks.map Pk.pv)[i] = ⟨xn, xz, xr, xf, xe⟩) := by
    have h := HPV.out
    have h2 : ms[i].pv = (bks.map Pk.pv)[i] := by simp [← h]
    rw [Hid, ← h2, hX]
    rfl
  have owm : w5.ownsRow w.heap.size 2 1 xm xr.length (xr.flatMap intC) := by have h := own0.maps ms[i] (List.getElem_mem hims); rw [hX] at h; exact h
  clear hX
  obtain ⟨g8, hg8⟩ : ∃ g8, o8 = some ⟨g8, 0, none⟩ := by
    rcases own0.row.2 with ⟨_, h0⟩ | ⟨g, cap', cur, e, _⟩
    · omega
    · simp only [Value.slice.injEq] at e
      exact ⟨g, e.1⟩
  subst hg8
  have hvl : (xr.length : Int) = xz := by have h1 := hpp.2.2; rw [HMI.out] at h1; exact h1
  have hxz : 1 ≤ xz ∧ xz ≤ 16 := by have h1 := hpp.1; rw [HMI.out] at h1; exact h1
  have hxl : xr.length ≤ 16 := by omega
  have hx0 : 0 < xr.length := by omega
  have hxl2 : xr.length ≤ 1048576 := by omega
  clear hvl
  obtain ⟨om, cm, hmf⟩ := own_slice owm
  subst hmf
  obtain ⟨gm, hgm⟩ : ∃ gm, om = some ⟨gm, 0, none⟩ := by
    rcases owm.2 with ⟨_, h0⟩ | ⟨g, cap', cur, e, _⟩
    · omega
    · simp only [Value.slice.injEq] at e
      exact ⟨g, e.1⟩
  subst hgm
  obtain ⟨a2, b2⟩ := own_cell pkC_len own0.row i 2 _ (List.getElem?_eq_getElem hims) (by decide)
  have a2' : w5.cell? ⟨g8, i * 5 + 2, none⟩ = some (.slice (some ⟨gm, 0, none⟩) xr.length cm) := by rw [a2, HX.out]; rfl
  have i0 : (0 : Int) ≤ (i : Int) := by omega
  have i1 : (i : Int) < (ms.length : Int) := by omega
  have p0 := at_cell k0 0
  have hds := d0.size
  have RV : Reads w5.heap.size w5 (.slice (some ⟨gm, 0, none⟩) xr.length cm) (xr.map (Value.int .i64)) := by
    have h := Reads.of_own owm
    rw [ints_flat] at h
    exact h
  have HPW : Hid ((bks.map Pk.pv)[i] = ⟨xn, xz, xr, xf, xe⟩) := HMI.out
  have HL : Hid _ := And.intro own0.row.2 ap
  clear a2 b2 owm hpp hpa hpe hpk hbs hfp HMI ap
  go_wp2_with fail
  clear p0 a2'
  refine (l1Copy_any _ xr _ hxl2 RV).mono ?_
  rintro e w6 ⟨v6, rfl, ow6, hn6, b6⟩
  clear RV
  obtain ⟨o6, c6, rfl⟩ := own_slice ow6
  obtain ⟨g6, hg6⟩ : ∃ g6, o6 = some ⟨g6, 0, none⟩ := by
    rcases ow6.2 with ⟨_, h0⟩ | ⟨g, cap', cur, e, _⟩
    · omega
    · simp only [Value.slice.injEq] at e
      exact ⟨g, e.1⟩
  subst hg6
  obtain ⟨v7, w7, hrz, ow7, gr7⟩ := run_zeros_own (P := Tryz.prog) w6 w5.heap.size 37 3 2 j0 (.int .i64 0) 1 8 .i64 .i64 Tryz.underlying37 Tryz.underlying3 hj0 hz0 hz1 hz2 rfl (by decide) g6 xr.length c6 (xr.map (Value.int .i64)) ow6 16 (by decide) (by rw [zeros_i16]; intro u hu; obtain ⟨_, _, rfl⟩ := List.mem_map.1 hu; rfl) (by unfold maxLen; omega) (by omega) b6.size
  rw [zeros_i16, ← List.map_append] at ow7
  have B7 : Below w5.heap.size w5 w7 := b6.grown gr7 b6.size (fun z hz => by simp only [Option.some.injEq] at hz; subst hz; exact (ow6.lt g6 rfl).1)
  clear gr7 ow6 b6 hn6
  obtain ⟨o7, c7, hv7⟩ := own_slice ow7
  subst hv7
  have k07 := (B7.block _ (heap_lt k0)).trans k0
  have k17 := (B7.block _ (heap_lt k1)).trans k1
  have d7 := bw_call d0 B7
  have own7 := own0.below B7
  have RV7 : Reads w7.heap.size w7 (.slice o7 N c7) (((xr ++ List.replicate 16 0).take N).map (Value.int .i64)) := by
    have hlen : (xr ++ List.replicate 16 (0 : Int)).length = xr.length + 16 := by simp
    have h : ReadsR 1 intC w7.heap.size w7 (.slice o7 (xr.length + 16) c7) (xr ++ List.replicate 16 0) := ReadsR.of_own intC_len (by rw [ints_flat, hlen]; exact ow7)
    exact readsK_to (h.take N (by omega))
  have hc7 : xr.length + 16 ≤ c7 := by
    rcases ow7.2 with ⟨e, h⟩ | ⟨g', cap', cur, e, _, hh, h1, _⟩
    · omega
    · simp only [Value.slice.injEq] at e
      omega
  obtain ⟨ys, hys⟩ : ∃ ys, (xr ++ List.replicate 16 (0 : Int)).take N = ys := ⟨_, rfl⟩
  have HYS : Hid ((xr ++ List.replicate 16 (0 : Int)).take N = ys) := hys
  rw [hys] at RV7
  have hyl : ys.length ≤ 1048576 := by rw [← hys, List.length_take]; omega
  have j0' : (0 : Int) ≤ (N : Int) := by omega
  have j1' : (N : Int) ≤ (c7 : Int) := by omega
  have p4 := at_cell k07 4
  clear k0 k1 d0 own0 ow7 hys
  go_wp2_with (at_builtin; refine Lib.wpList_append_run _ rfl _ _ _ _ rfl _ _ rfl rfl _ _ (hrz _) ?_)
  clear p4 hrz
  refine (l1Copy_any _ ys _ hyl RV7).mono ?_
  rintro e w8 ⟨v8, rfl, ow8, hn8, b8⟩
  obtain ⟨oy, cy, hvy⟩ := own_slice ow8
  subst hvy
  have ow8' : w8.ownsRow w.heap.size 2 1 (.slice oy ys.length cy) ys.length (ys.flatMap intC) := by rw [ints_flat]; exact owns_mono ow8 d7.size
  have own8 := own7.below b8
  have k08 := (b8.block _ (heap_lt k07)).trans k07
  have k18 := (b8.block _ (heap_lt k17)).trans k17
  have d8 := bw_call d7 b8
  have l8 := own8.row.lt g8 rfl
  have n2 : w.heap.size ≠ g8 := fun e => own_not_box own8.row k08 (by decide) (by rw [e]; rfl)
  have n3 : w.heap.size + 1 ≠ g8 := fun e => own_not_box own8.row k18 (by decide) (by rw [e]; rfl)
  obtain ⟨owW, apW⟩ := own8.resize HL.out.2 hims HX.out (N : Int) (.slice oy ys.length cy) ys ow8' (fun m hm g hg e => by
    have h1 := ((own7.maps m hm).lt g hg).2
    have h2 := (ow8.lt g e).1
    omega)
  obtain ⟨a2, b2⟩ := own_cell pkC_len own8.row i 2 _ (List.getElem?_eq_getElem hims) (by decide)
  have uA : Upto g8 w8 (w8.setCell ⟨g8, i * 5 + 2, none⟩ (.slice oy ys.length cy)) := (Upto.refl _ _).setCell ⟨g8, i * 5 + 2, none⟩ (.inl rfl) _
  have uW : Upto g8 w8 ((w8.setCell ⟨g8, i * 5 + 2, none⟩ (.slice oy ys.length cy)).setCell ⟨g8, i * 5 + 1, none⟩ (.int .i64 (N : Int))) := uA.setCell ⟨g8, i * 5 + 1, none⟩ (.inl rfl) _
  have rowA := own_put pkC_len own8.row i 2 ms[i] ⟨xn, xz, (.slice oy ys.length cy), ys, xf, xe⟩ (.slice oy ys.length cy) (List.getElem?_eq_getElem hims) (by decide) (by rw [HX.out]; rfl)
  obtain ⟨a1, b1'⟩ := own_cell pkC_len rowA i 1 ⟨xn, xz, (.slice oy ys.length cy), ys, xf, xe⟩ (by simp [hims]) (by decide)
  have a1' : (w8.setCell ⟨g8, i * 5 + 2, none⟩ (.slice oy ys.length cy)).cell? ⟨g8, i * 5 + 1, none⟩ = some (.int .i64 xz) := a1
  clear a1
  have p4 := (uA.cell (p := ⟨w.heap.size, 4, none⟩) (heap_lt k08) n2).trans (at_cell k08 4)
  have k1W := (uW.block _ (heap_lt k18) n3).trans k18
  have dW := d8.trans (uW.toBelow d8.size l8.1)
  have HS : Hid _ := k_end (c := 0) (v := 0) k1W owW dW (Nat.le_succ _)
  have HAP : Hid _ := apW
  have HPZ : Hid ((ms.set i ⟨xn, (N : Int), (.slice oy ys.length cy), ys, xf, xe⟩).map Pk.pv = (bks.map Pk.pv).set i { (bks.map Pk.pv)[i] with sz := (N : Int), vs := ((bks.map Pk.pv)[i].vs ++ List.replicate 16 0).take N }) := by
    rw [Hid, List.map_set, HPV.out, HPW.out, ← HYS.out]
    rfl
  have q0 := at_cell k1W 0
  have q1 := at_cell k1W 1
  have f0 := at_open k1W 0
  have f1 := at_open k1W 1
  clear k07 k17 d7 own7 own8 k08 k18 d8 owW apW rowA uA uW k1W dW RV7 ow8 ow8' b8 B7 HL HX HYS
  go_wp2_with fail
  exact bodyPost_ret (v := .tuple #[.slice (some ⟨g8, 0, none⟩) ms.length c8, .agg #[.int .i64 0, .int .i64 0]]) (by simp [results, Tryz.results43, go_sem, at_cell HS.out.1]) rfl ⟨_, _, by rw [HDO.out], by rw [HDO.out]; exact HPZ.out, HS.out.2.1, HAP.out, HS.out.2.2⟩
end Go.Proofs.YtcefcglonooelaaGreatDoor

namespace Go.Proofs.YtcefcglonooelaaGreatDoor
open Go.RowKit

set_option linter.unusedVariables false

set_option maxRecDepth 100000


theorem ref_zero9 {bs : List Pb} {o : Oq} (h : refCode bs o = 0) : opOk o = true ∧ refused bs o = 0 := by
  unfold refCode at h
  cases hok : opOk o
  · rw [hok, if_pos rfl] at h; cases h
  · rw [hok, if_neg (by decide)] at h; exact ⟨rfl, h⟩

theorem refused_range9 (bs : List Pb) (o : Oq) : 0 ≤ refused bs o ∧ refused bs o ≤ 8 := by
  unfold refused
  repeat (first | omega | (split <;> try omega))

theorem plCode_zero {l : List Pv} {o : Oq} {told : Int} (h : plCode l o told = 0) : opOk o = true ∧ refused (l.map Pv.pb) o = 0 ∧ ¬ (o.k = 2 ∧ told = 9) := by
  unfold plCode at h
  by_cases h0 : refCode (l.map Pv.pb) o = 0
  · rw [if_pos h0] at h
    obtain ⟨h1, h2⟩ := ref_zero9 h0
    refine ⟨h1, h2, fun q => ?_⟩
    rw [if_pos q] at h
    omega
  · rw [if_neg h0] at h
    exact absurd h h0

theorem doPlain_code {l : List Pv} {o : Oq} {told : Int} (h : plCode l o told ≠ 0) : doPlain l o told = (l, (plCode l o told, 0)) := by
  unfold plCode at h ⊢
  by_cases h0 : refCode (l.map Pv.pb) o = 0
  · rw [if_pos h0] at h ⊢
    obtain ⟨h1, h2⟩ := ref_zero9 h0
    by_cases q : o.k = 2 ∧ told = 9
    · rw [if_pos q]
      obtain ⟨q1, rfl⟩ := q
      exact doPlain_full h1 h2 q1
    · rw [if_neg q] at h
      exact absurd rfl h
  · rw [if_neg h0]
    unfold refCode at h0 ⊢
    by_cases hb : opOk o = false
    · rw [if_pos hb]
      exact doPlain_bad told hb
    · rw [if_neg hb] at h0 ⊢
      exact doPlain_refd told (by simpa using hb) h0

theorem doPlain_ok {l : List Pv} {o : Oq} {told : Int} (h : opOk o = true) (hr : refused (l.map Pv.pb) o = 0) (hf : ¬ (o.k = 2 ∧ told = 9)) : (doPlain l o told).2.1 = 0 := by
  rw [doPlain, if_neg (by rw [h]; decide), if_neg (by rw [hr]; decide), if_neg hf]
  split
  · rfl
  split
  · rfl
  split
  · rfl
  · unfold doOne
    repeat (first | rfl | split)

theorem plCode_range (l : List Pv) (o : Oq) (told : Int) : 0 ≤ plCode l o told ∧ plCode l o told ≤ 9 := by
  have hr := refused_range9 (l.map Pv.pb) o
  unfold plCode refCode
  repeat (first | omega | (split <;> try omega))

/-- Names of right plains stand in their order. -/
theorem plains_sorted {ms : List Pk} (h : plainsOk (ms.map Pk.pv) = true) : (ms.map Pk.nm).Pairwise (fun x y => ltB x y = true) := by
  simp only [plainsOk, Bool.and_eq_true] at h
  have e : (ms.map Pk.pv).map Pv.nm = ms.map Pk.nm := by rw [List.map_map]; rfl
  have h2 := h.2
  rw [e] at h2
  exact (sorted_iff _).1 h2

theorem new_plains {ms : List Pk} {n : ByteArray} (h : findP ((ms.map Pk.pv).map Pv.pb) n < 0) : ∀ x ∈ ms, x.nm ≠ n := fun x hx => by
  rw [← bk_pb] at h
  exact new_names h (x.bk) (List.mem_map_of_mem hx)

/-- A whole plain of a row of one's own is written. -/
theorem OwnK.whole {base g nM cap i : Nat} {w : World} {ms : List Pk} (h : OwnK base w (.slice (some ⟨g, 0, none⟩) nM cap) ms) (ap : ApartK ms) (hi : i < ms.length) (y : Pk) (ho : w.ownsRow base 2 1 y.m y.rs.length (y.rs.flatMap intC)) (ha : ∀ j (hj : j < ms.length), j ≠ i → ∀ q, y.m.ownBlock = some q → ms[j].m.ownBlock ≠ some q) :
    OwnK base (((((w.setCell ⟨g, i * 5, none⟩ (.string y.nm)).setCell ⟨g, i * 5 + 1, none⟩ (.int .i64 y.sz)).setCell ⟨g, i * 5 + 2, none⟩ y.m).setCell ⟨g, i * 5 + 3, none⟩ (.bool y.fx)).setCell ⟨g, i * 5 + 4, none⟩ (.int .i64 y.ep)) (.slice (some ⟨g, 0, none⟩) nM cap) (ms.set i y) ∧ ApartK (ms.set i y) ∧ Upto g w (((((w.setCell ⟨g, i * 5, none⟩ (.string y.nm)).setCell ⟨g, i * 5 + 1, none⟩ (.int .i64 y.sz)).setCell ⟨g, i * 5 + 2, none⟩ y.m).setCell ⟨g, i * 5 + 3, none⟩ (.bool y.fx)).setCell ⟨g, i * 5 + 4, none⟩ (.int .i64 y.ep)) := by
  have u : Upto g w (((((w.setCell ⟨g, i * 5, none⟩ (.string y.nm)).setCell ⟨g, i * 5 + 1, none⟩ (.int .i64 y.sz)).setCell ⟨g, i * 5 + 2, none⟩ y.m).setCell ⟨g, i * 5 + 3, none⟩ (.bool y.fx)).setCell ⟨g, i * 5 + 4, none⟩ (.int .i64 y.ep)) := (((((Upto.refl _ _).setCell ⟨g, i * 5, none⟩ (.inl rfl) _).setCell ⟨g, i * 5 + 1, none⟩ (.inl rfl) _).setCell ⟨g, i * 5 + 2, none⟩ (.inl rfl) _).setCell ⟨g, i * 5 + 3, none⟩ (.inl rfl) _).setCell ⟨g, i * 5 + 4, none⟩ (.inl rfl) _
  have hs := own_plain h.row i hi y
  refine ⟨⟨hs, fun m hm => ?_⟩, ?_, u⟩
  · have keep : ∀ (v' : Value) (l : List Int), w.ownsRow base 2 1 v' l.length (l.flatMap intC) → World.ownsRow _ base 2 1 v' l.length (l.flatMap intC) := fun v' l hl => own_rng_not hl (fun q hq hv => u.block q hq (fun e => rows_twoK h.row hl (by decide) g rfl (by rw [← e]; exact hv)))
    rcases List.mem_or_eq_of_mem_set hm with hm | rfl
    · exact keep _ _ (h.maps m hm)
    · exact keep _ _ ho
  · refine List.pairwise_iff_getElem.2 (fun a b hA hB hab q hq => ?_)
    have hA' : a < ms.length := by simpa using hA
    have hB' : b < ms.length := by simpa using hB
    rw [List.getElem_set] at hq ⊢
    split at hq
    · rename_i e
      subst e
      rw [if_neg (by omega)]
      exact ha b hB' (by omega) q hq
    · rename_i e
      split
      · rename_i e2
        subst e2
        intro hy
        exact ha a hA' (by omega) q hy hq
      · exact apart_at9 ap a b hA' hB' (by omega) q hq

/-- The block of sixteen, and the row with sixteen zeros behind it, begin alike. -/
theorem blk_take (xr : List Int) (N : Nat) (hx : xr.length ≤ 16) (hN : N ≤ 16) : (blkL xr).take N = (xr ++ List.replicate 16 0).take N := by
  rw [blkL, List.take_of_length_le hx, List.take_append, List.take_append, List.take_replicate, List.take_replicate]
  congr 2
  omega
end Go.Proofs.YtcefcglonooelaaGreatDoor

