/-
  Contracts and plain laws, one chapter behind the other.
-/
import Derived.Test.YtcefcglonooelaaGreatDoorB09
import Derived.Test.YtcefcglonooelaaGreatDoorB33
import Derived.Test.YtcefcglonooelaaGreatDoorB35
import Derived.Test.YtcefcglonooelaaGreatDoorB36
import Derived.Test.YtcefcglonooelaaGreatDoorB37
import Derived.Test.YtcefcglonooelaaGreatDoorB38
import Derived.Test.YtcefcglonooelaaGreatDoorB40
import Derived.Test.YtcefcglonooelaaGreatDoorB41
import Derived.Test.YtcefcglonooelaaGreatDoorB42
namespace Go.Proofs.YtcefcglonooelaaGreatDoor
open Go.RowKit

set_option linter.unusedVariables false

set_option maxRecDepth 100000


/-- What changedPlains leaves behind. -/
def ChK (base : Nat) (X : List Pv × (Int × Int)) (w : World) (e : Ending) (w' : World) : Prop :=
  ∃ (v' : Value) (ms' : List Pk), e = .returned (.tuple #[v', .int .i64 X.2.2]) ∧ ms'.map Pk.pv = X.1 ∧ OwnK base w' v' ms' ∧ ApartK ms' ∧ Below base w w'

theorem changedPlains_any (base g cp : Nat) (ms : List Pk) (k : Int) (nm ot : ByteArray) (at_ va ep told : Int) (w : World) (hbase : base ≤ w.heap.size) (hpo : plainsOk (ms.map Pk.pv) = true) (hok : opOk ⟨k, nm, ot, at_, va, ep⟩ = true) (href : refused ((ms.map Pk.pv).map Pv.pb) ⟨k, nm, ot, at_, va, ep⟩ = 0) (hfull : ¬ (k = 2 ∧ told = 9)) (own : OwnK base w (.slice (some ⟨g, 0, none⟩) ms.length cp) ms) (ap : ApartK ms) :
    Calls Tryz.prog 40 #[.slice (some ⟨g, 0, none⟩) ms.length cp, .agg #[.int .i64 k, .string nm, .string ot, .int .i64 at_, .int .i64 va, .int .i64 ep]] w (ChK base (doPlain (ms.map Pk.pv) ⟨k, nm, ot, at_, va, ep⟩ told) w) := by
  have hbd := opOk_bd _ hok
  simp only at hbd
  have hpt := refused_parts href
  simp only at hpt
  have hfew : ms.length ≤ 6 := by have := (plains_ok hpo).1; rwa [List.length_map] at this
  have hnz : nm.size ≤ 1099511627776 := by omega
  have hoz : ot.size ≤ 1099511627776 := by omega
  have hsr := plains_sorted hpo
  by_cases hk1 : k = 1
  · subst hk1
    obtain ⟨N, rfl⟩ := Int.eq_ofNat_of_zero_le hbd.2.2.2.2.1.1
    have hD : doPlain (ms.map Pk.pv) ⟨1, nm, ot, at_, (N : Int), ep⟩ told = (putV (ms.map Pk.pv) ⟨nm, N, List.replicate N 0, false, 0⟩, (0, 0)) := by
      rw [doPlain, if_neg (by rw [hok]; decide), if_neg (by rw [href]; decide), if_neg (by simp), if_pos rfl]
      rfl
    have h5 := (hpt.2.1 rfl).2
    rw [List.length_map, List.length_map] at h5
    refine (changedPlains_1 base g cp N ms nm ot at_ ep w hbase (by omega) (by omega) hnz hsr (new_plains (hpt.2.1 rfl).1) own ap).mono ?_
    rintro e w' ⟨v', ms', rfl, hp, o1, o2, o3⟩
    exact ⟨v', ms', by rw [hD], by rw [hD]; exact hp, o1, o2, o3⟩
  · obtain ⟨i, hi, hfp, hpk, hpa, hpe⟩ := foundV (o := ⟨k, nm, ot, at_, va, ep⟩) hpo href hk1
    simp only at hfp hpa hpe
    have hib : i < ms.length := by rw [List.length_map] at hi; exact hi
    have hpp := pv_parts hpk
    obtain ⟨⟨xn, xz, xm, xr, xf, xe⟩, hX⟩ : ∃ X : Pk, ms[i] = X := ⟨_, rfl⟩
    have hPI : (ms.map Pk.pv)[i] = ⟨xn, xz, xr, xf, xe⟩ := by rw [List.getElem_map, hX]; rfl
    rw [hPI] at hpk hpa hpe hpp
    simp only at hpa hpe hpp
    have hxl : xr.length ≤ 16 := by omega
    have hxn : xn.size ≤ 1099511627776 := by
      have h1 : Nums.nameB xn.data.toList = true := by
        simp only [Pv.ok, plainOk, Bool.and_eq_true] at hpk
        exact hpk.1.1.1.2
      have := (nameB_size _ h1).2
      omega
    by_cases hk6 : k = 6
    · subst hk6
      have hD : doPlain (ms.map Pk.pv) ⟨6, nm, ot, at_, va, ep⟩ told = ((ms.map Pk.pv).take i ++ (ms.map Pk.pv).drop (i + 1), (0, 0)) := by
        rw [doPlain, if_neg (by rw [hok]; decide), if_neg (by rw [href]; decide), if_neg (by simp), if_neg (by simp), if_pos rfl, hfp, Int.toNat_natCast]
      refine (changedPlains_6 base g cp i ms nm ot at_ va ep w hbase hib hfew own ap hfp).mono ?_
      rintro e w' ⟨v', ms', rfl, hp, o1, o2, o3⟩
      exact ⟨v', ms', by rw [hD], by rw [hD]; exact hp, o1, o2, o3⟩
    · by_cases hk45 : k = 4 ∨ k = 5
      · have hko : kOther k = true := by rcases hk45 with rfl | rfl <;> decide
        have hD : doPlain (ms.map Pk.pv) ⟨k, nm, ot, at_, va, ep⟩ told = (putV (ms.map Pk.pv) ⟨ot, xz, xr, k == 4, 0⟩, (0, 0)) := by
          have hpl : plainAt (ms.map Pk.pv) i = ⟨xn, xz, xr, xf, xe⟩ := by rw [← hPI]; simp [plainAt, List.getD_eq_getElem?_getD, hib]
          rw [doPlain, if_neg (by rw [hok]; decide), if_neg (by rw [href]; decide), if_neg hfull, if_neg hk1, if_neg hk6, if_pos hko, hfp, Int.toNat_natCast, hpl]
          rfl
        have h5 := (hpt.2.2.1 hko).2 hk1
        rw [List.length_map, List.length_map] at h5
        refine (changedPlains_45 base g cp i ms k nm ot at_ va ep w hbase hib hk45 (by omega) hoz hsr (new_plains (hpt.2.2.1 hko).1) own ap hfp xn xz xm xr xf xe hX hxn (by omega)).mono ?_
        rintro e w' ⟨v', ms', rfl, hp, o1, o2, o3⟩
        exact ⟨v', ms', by rw [hD], by rw [hD]; exact hp, o1, o2, o3⟩
      · have hko : kOther k = false := by
          have h : k = 2 ∨ k = 3 ∨ k = 7 ∨ k = 8 ∨ k = 9 := by omega
          rcases h with rfl | rfl | rfl | rfl | rfl <;> decide
        have hD0 : doPlain (ms.map Pk.pv) ⟨k, nm, ot, at_, va, ep⟩ told = doOne (ms.map Pk.pv) ⟨k, nm, ot, at_, va, ep⟩ i (ms.map Pk.pv)[i] := doPlain_one hi hok href hfull ⟨hk1, hk6, hko⟩ hfp
        rw [hPI] at hD0
        have fin : ∀ (y : Pv) (val : Int), doOne (ms.map Pk.pv) ⟨k, nm, ot, at_, va, ep⟩ i ⟨xn, xz, xr, xf, xe⟩ = ((ms.map Pk.pv).set i y, (0, val)) → (∀ X : World, base ≤ X.heap.size → X.ownsRow base 2 1 xm xr.length (xr.flatMap intC) → Calls Tryz.prog 81 #[.agg #[.string xn, .int .i64 xz, xm, .bool xf, .int .i64 xe], .agg #[.int .i64 k, .string nm, .string ot, .int .i64 at_, .int .i64 va, .int .i64 ep]] X fun e w' => ∃ v' : Value, e = .returned (.tuple #[.agg #[.string y.nm, .int .i64 y.sz, v', .bool y.fx, .int .i64 y.ep], .int .i64 val]) ∧ w'.ownsRow base 2 1 v' y.vs.length (y.vs.flatMap intC) ∧ (v' = xm ∨ ∀ q, v'.ownBlock = some q → X.heap.size ≤ q) ∧ Below X.heap.size X w') → Calls Tryz.prog 40 #[.slice (some ⟨g, 0, none⟩) ms.length cp, .agg #[.int .i64 k, .string nm, .string ot, .int .i64 at_, .int .i64 va, .int .i64 ep]] w (ChK base (doPlain (ms.map Pk.pv) ⟨k, nm, ot, at_, va, ep⟩ told) w) := fun y val hy HC => by
          refine (changedPlains_one base g cp i ms k nm ot at_ va ep w hbase hib ⟨hk1, fun h => hk45 (.inl h), fun h => hk45 (.inr h), hk6⟩ hfew own ap hfp xn xz xm xr xf xe hX y val HC).mono ?_
          rintro e w' ⟨v', ms', rfl, hp, o1, o2, o3⟩
          exact ⟨v', ms', by rw [hD0, hy], by rw [hD0, hy]; exact hp, o1, o2, o3⟩
        have h : k = 2 ∨ k = 3 ∨ k = 7 ∨ k = 8 ∨ k = 9 := by omega
        rcases h with rfl | rfl | rfl | rfl | rfl
        · have hlt := hpa (by decide)
          obtain ⟨A, rfl⟩ := Int.eq_ofNat_of_zero_le hbd.2.2.2.1.1
          have hA : A < xr.length := by omega
          refine fin ⟨xn, xz, xr.set A va, xf, xe⟩ 0 rfl (fun X hbX ow => ?_)
          refine (changedPlain_2 xn xz xm xr xf xe nm ot A va ep X hA (by omega) (ReadsR.of_own intC_len ow)).mono ?_
          rintro e w' ⟨v', rfl, o1, b⟩
          exact ⟨v', rfl, owns_mono o1 hbX, .inr (fun q hq => (o1.lt q hq).1), b⟩
        · have hlt := hpa (by decide)
          obtain ⟨A, rfl⟩ := Int.eq_ofNat_of_zero_le hbd.2.2.2.1.1
          have hA : A < xr.length := by omega
          refine fin ⟨xn, xz, xr.set A 0, xf, xe⟩ 0 rfl (fun X hbX ow => ?_)
          refine (changedPlain_3 xn xz xm xr xf xe nm ot A va ep X hA (by omega) (ReadsR.of_own intC_len ow)).mono ?_
          rintro e w' ⟨v', rfl, o1, b⟩
          exact ⟨v', rfl, owns_mono o1 hbX, .inr (fun q hq => (o1.lt q hq).1), b⟩
        · have hv := (op_parts hok).2.2.2.2.1 rfl
          simp only at hv
          obtain ⟨N, rfl⟩ := Int.eq_ofNat_of_zero_le hbd.2.2.2.2.1.1
          have hN : N ≤ 16 := by omega
          have hbt := blk_take xr N hxl hN
          have hlen : (List.take N (blkL xr)).length = N := by rw [List.length_take, blkL_len]; omega
          refine fin ⟨xn, N, (xr ++ List.replicate 16 0).take N, xf, xe⟩ 0 rfl (fun X hbX ow => ?_)
          refine (changedPlain_7 xn xz xm xr xf xe nm ot at_ N ep X hN (by omega) (ReadsR.of_own intC_len ow)).mono ?_
          rintro e w' ⟨v', rfl, o1, b⟩
          refine ⟨v', rfl, ?_, .inr (fun q hq => (o1.lt q hq).1), b⟩
          show w'.ownsRow base 2 1 v' (List.take N (xr ++ List.replicate 16 0)).length ((List.take N (xr ++ List.replicate 16 0)).flatMap intC)
          rw [← hbt, hlen]
          exact owns_mono o1 hbX
        · refine fin ⟨xn, xz, xr, xf, xe + 1⟩ (xe + 1) rfl (fun X hbX ow => ?_)
          refine (changedPlain_8 xn xz xm xr xf xe (xe + 1) nm ot at_ va ep X rfl (by omega) (by omega) (ReadsR.of_own intC_len ow)).mono ?_
          rintro e w' ⟨rfl, b⟩
          exact ⟨xm, rfl, owns_below ow b, .inl rfl, b⟩
        · have hlt := hpa (by decide)
          obtain ⟨A, rfl⟩ := Int.eq_ofNat_of_zero_le hbd.2.2.2.1.1
          have hA : A < xr.length := by omega
          have hset : (ms.map Pk.pv).set i ⟨xn, xz, xr, xf, xe⟩ = ms.map Pk.pv := by rw [← hPI, List.set_getElem_self]
          refine fin ⟨xn, xz, xr, xf, xe⟩ (xr.getD A 0) (by rw [hset]; rfl) (fun X hbX ow => ?_)
          refine (changedPlain_9 xn xz xm xr xf xe nm ot A va ep X hA (ReadsR.of_own intC_len ow)).mono ?_
          rintro e w' ⟨rfl, b⟩
          exact ⟨xm, rfl, owns_below ow b, .inl rfl, b⟩
end Go.Proofs.YtcefcglonooelaaGreatDoor

namespace Go.Proofs.YtcefcglonooelaaGreatDoor
open Go.RowKit

set_option linter.unusedVariables false


set_option maxRecDepth 100000 in
set_option maxHeartbeats 6400000 in
theorem l9Did_4 (v : Value) (bks : List Pk) (nm ot : ByteArray) (at_ va ep : Int) (told : Int) (w : World) (hn : nm.size ≤ maxLen) (ho : ot.size ≤ maxLen) (hr : ∀ b ∈ bks, b.rs.length ≤ 1048576) (hpo : plainsOk (bks.map Pk.pv) = true) (r : ReadsK w.heap.size w v bks) (hok : opOk ⟨4, nm, ot, at_, va, ep⟩ = true) (href : refused ((bks.map Pk.pv).map Pv.pb) ⟨4, nm, ot, at_, va, ep⟩ = 0) :
    Calls Tryz.prog 43 #[v, .agg #[.int .i64 4, .string nm, .string ot, .int .i64 at_, .int .i64 va, .int .i64 ep], .int .i64 told] w (DoKP (bks.map Pk.pv) ⟨4, nm, ot, at_, va, ep⟩ told w) := by
  obtain ⟨i, hi, hfp, hpk, hpa, hpe⟩ := foundV (o := ⟨4, nm, ot, at_, va, ep⟩) hpo href (show (4 : Int) ≠ 1 by decide)
  simp only at hfp hpa hpe
  have hib : i < bks.length := by rw [List.length_map] at hi; exact hi
  have hpp := pv_parts hpk
  have HDO : Hid (doPlain (bks.map Pk.pv) ⟨4, nm, ot, at_, va, ep⟩ told = (putV (bks.map Pk.pv) ⟨ot, (bks.map Pk.pv)[i].sz, (bks.map Pk.pv)[i].vs, true, 0⟩, (0, 0))) := by
    rw [Hid, doPlain, if_neg (by rw [hok]; decide), if_neg (by rw [href]; decide), if_neg (by simp), if_neg (by simp), if_neg (by simp), if_pos (show kOther 4 = true by decide)]
    show (putV _ ⟨ot, (plainAt (bks.map Pk.pv) (findP ((bks.map Pk.pv).map Pv.pb) nm).toNat).sz, (plainAt (bks.map Pk.pv) (findP ((bks.map Pk.pv).map Pv.pb) nm).toNat).vs, _, 0⟩, _) = _
    rw [hfp, Int.toNat_natCast]
    have e : plainAt (bks.map Pk.pv) i = (bks.map Pk.pv)[i] := by unfold plainAt; rw [List.getD_eq_getElem?_getD, List.getElem?_eq_getElem hi]; rfl
    rw [e]
    rfl
  obtain ⟨ov, cv, hvf⟩ := r.row.form
  subst hvf
  have hfew : bks.length ≤ 6 := by have := (plains_ok hpo).1; rwa [List.length_map] at this
  obtain ⟨W0, hW0, k0, k1, d0, z0⟩ := box2 w #[.int .i64 4, .string nm, .string ot, .int .i64 at_, .int .i64 va, .int .i64 ep] #[.int .i64 0, .int .i64 0] 26 30
  have HW0 : Hid (W0 = _) := hW0
  have r0 := (r.below d0).mono d0.size
  clear hW0 z0 r
  go_enter Tryz.func43, Tryz.ntmps43
  go_upto_region 1 with fail
  rw [← HW0.out]
  clear HW0
  go_wp2_with fail
  refine (l9Copy_any _ bks _ (by omega) hr r0).mono ?_
  rintro e w1 ⟨v8, ms, rfl, hpv, own, ap, hnil, b1⟩
  have own0 := own.mono d0.size
  clear own
  replace k0 := (b1.block _ (heap_lt k0)).trans k0
  replace k1 := (b1.block _ (heap_lt k1)).trans k1
  replace d0 := bw_call d0 b1
  replace r0 := (r0.below b1).mono b1.size
  have HPV : Hid (ms.map Pk.pv = bks.map Pk.pv) := hpv
  have hml1 : ms.length ≤ bks.length := by have := congrArg List.length hpv; simp at this; omega
  have hml2 : bks.length ≤ ms.length := by have := congrArg List.length hpv; simp at this; omega
  clear b1 hpv
  have p0 := at_cell k0 0
  have p1 := at_cell k0 1
  have p2 := at_cell k0 2
  have p3 := at_cell k0 3
  have p4 := at_cell k0 4
  have p5 := at_cell k0 5
  go_wp2_with fail
  clear p0 p1 p2 p3 p4 p5
  refine (specOpOk_any 4 nm ot at_ va ep _ hn ho).mono ?_
  rw [hok]
  rintro e w2 ⟨rfl, b1⟩
  replace k0 := (b1.block _ (heap_lt k0)).trans k0
  replace k1 := (b1.block _ (heap_lt k1)).trans k1
  replace d0 := bw_call d0 b1
  replace r0 := (r0.below b1).mono b1.size
  replace own0 := own0.below b1
  clear b1
  obtain ⟨o8, c8, rfl⟩ := own_slice own0.row
  go_wp2_with fail
  refine (l9Books_any _ bks _ (by omega) r0).mono ?_
  rintro e w3 ⟨v9, bs, rfl, hbs, ob, hnil9, b1⟩
  replace k0 := (b1.block _ (heap_lt k0)).trans k0
  replace k1 := (b1.block _ (heap_lt k1)).trans k1
  replace d0 := bw_call d0 b1
  replace own0 := own0.below b1
  have rb : ReadsR 5 bookC w3.heap.size w3 v9 bs := ReadsR.of_own bookC_len ob.row
  have hfm : ∀ b ∈ bs, ∃ o k cp, b.m = .slice o k cp := fun b hb => by obtain ⟨o, cp, e⟩ := own_slice (ob.maps b hb); exact ⟨o, _, cp, e⟩
  obtain ⟨o9, c9, h9⟩ := rb.form
  subst h9
  clear b1 r0 ob
  have p0 := at_cell k0 0
  have p1 := at_cell k0 1
  have p2 := at_cell k0 2
  have p3 := at_cell k0 3
  have p4 := at_cell k0 4
  have p5 := at_cell k0 5
  go_wp2_with fail
  clear p0 p1 p2 p3 p4 p5
  refine (l8Refused_any _ bs 4 nm ot at_ va ep _ (by omega) rb hfm).mono ?_
  rw [hbs, href]
  rintro e w4 ⟨rfl, b1⟩
  replace k0 := (b1.block _ (heap_lt k0)).trans k0
  replace k1 := (b1.block _ (heap_lt k1)).trans k1
  replace d0 := bw_call d0 b1
  replace own0 := own0.below b1
  replace rb := (rb.below b1).mono b1.size
  clear b1 hfm
  have p1 := at_cell k0 1
  have p0 := at_cell k0 0
  have hfb : findB bs nm = i := by rw [← findP_map, hbs]; exact hfp
  go_wp2_with fail
  clear p0 p1
  refine (specFindBook_any _ bs nm _ rb).mono ?_
  rw [hfb]
  rintro e w5 ⟨rfl, rfl⟩
  clear rb hfb
  have hims : i < ms.length := by omega
  obtain ⟨⟨xn, xz, xm, xr, xf, xe⟩, hX⟩ : ∃ X : Pk, ms[i] = X := ⟨_, rfl⟩
  have HX : Hid (ms[i] = ⟨xn, xz, xm, xr, xf, xe⟩) := hX
  have HMI : Hid ((bks.map Pk.pv)[i] = ⟨xn, xz, xr, xf, xe⟩) := by
    have h := HPV.out
    have h2 : ms[i].pv = (bks.map Pk.pv)[i] := by simp [← h]
    rw [Hid, ← h2, hX]
    rfl
  have owm : w5.ownsRow w.heap.size 2 1 xm xr.length (xr.flatMap intC) := by have h := own0.maps ms[i] (List.getElem_mem hims); rw [hX] at h; exact h
  clear hX
  obtain ⟨g8, hg8⟩ : ∃ g8, o8 = some ⟨g8, 0, none⟩ := by
    rcases own0.row.2 with ⟨_, h0⟩ | ⟨g, cap', cur, e, _⟩
    · omega
    · simp only [Value.slice.injEq] at e
      exact ⟨g, e.1⟩
  subst hg8
  have hvl : (xr.length : Int) = xz := by have h1 := hpp.2.2; rw [HMI.out] at h1; exact h1
  have hxz : 1 ≤ xz ∧ xz ≤ 16 := by have h1 := hpp.1; rw [HMI.out] at h1; exact h1
  have hxl : xr.length ≤ 1048576 := by omega
  have hx0 : 0 < xr.length := by omega
  clear hvl
  obtain ⟨om, cm, hmf⟩ := own_slice owm
  subst hmf
  obtain ⟨gm, hgm⟩ : ∃ gm, om = some ⟨gm, 0, none⟩ := by
    rcases owm.2 with ⟨_, h0⟩ | ⟨g, cap', cur, e, _⟩
    · omega
    · simp only [Value.slice.injEq] at e
      exact ⟨g, e.1⟩
  subst hgm
  obtain ⟨a2, b2⟩ := own_cell pkC_len own0.row i 2 _ (List.getElem?_eq_getElem hims) (by decide)
  have a2' : w5.cell? ⟨g8, i * 5 + 2, none⟩ = some (.slice (some ⟨gm, 0, none⟩) xr.length cm) := by rw [a2, HX.out]; rfl
  obtain ⟨a1, b1'⟩ := own_cell pkC_len own0.row i 1 _ (List.getElem?_eq_getElem hims) (by decide)
  have a1' : w5.cell? ⟨g8, i * 5 + 1, none⟩ = some (.int .i64 xz) := by rw [a1, HX.out]; rfl
  have i0 : (0 : Int) ≤ (i : Int) := by omega
  have i1 : (i : Int) < (ms.length : Int) := by omega
  have p0 := at_cell k0 0
  have n1 : g8 ≠ w.heap.size + 1 := fun e => own_not_box own0.row k1 (by decide) (by rw [e]; rfl)
  have l8 := (own0.row.lt g8 rfl).2
  have HKeep : ∀ X, Upto (w.heap.size + 1) w5 X → (X.cell? ⟨w.heap.size, 0, none⟩ = some (.int .i64 4) ∧ X.cell? ⟨w.heap.size, 2, none⟩ = some (.string ot) ∧ X.cell? ⟨g8, i * 5 + 1, none⟩ = some (.int .i64 xz) ∧ X.cell? ⟨g8, i * 5 + 2, none⟩ = some (.slice (some ⟨gm, 0, none⟩) xr.length cm)) := fun X u =>
    ⟨(u.cell (p := ⟨w.heap.size, 0, none⟩) (heap_lt k0) (by simp)).trans (at_cell k0 0), (u.cell (p := ⟨w.heap.size, 2, none⟩) (heap_lt k0) (by simp)).trans (at_cell k0 2), (u.cell (p := ⟨g8, i * 5 + 1, none⟩) l8 n1).trans a1', (u.cell (p := ⟨g8, i * 5 + 2, none⟩) l8 n1).trans a2'⟩
  have s1 := heap_lt k1
  have hds := d0.size
  have RV : Reads w5.drew.heap.size w5.drew (.slice (some ⟨gm, 0, none⟩) xr.length cm) (xr.map (Value.int .i64)) := by
    have h := Reads.of_own owm
    rw [ints_flat] at h
    exact h.below ((Below.refl _ _).drew)
  have HK : Hid _ := And.intro k1 (And.intro d0 (And.intro own0 ap))
  have HPP : Hid ((bks.map Pk.pv)[i].sz = xz ∧ (bks.map Pk.pv)[i].vs = xr) := by rw [Hid, HMI.out]; exact ⟨rfl, rfl⟩
  clear k0 k1 own0 d0 ap a1 b1' a2 b2 a1' a2' owm HX hpp hpa hpe hpk hbs hfp HMI
  have HMS : Hid (ms.length ≤ 1048576) := by rw [Hid]; omega
  have e4 := HKeep w5 (Upto.refl _ _)
  go_wp2_with fail
  clear p0 e4
  go_region_held3 (fun X => X.cell? ⟨w.heap.size, 0, none⟩ = some (.int .i64 4) ∧ X.cell? ⟨w.heap.size, 2, none⟩ = some (.string ot) ∧ X.cell? ⟨g8, i * 5 + 1, none⟩ = some (.int .i64 xz) ∧ X.cell? ⟨g8, i * 5 + 2, none⟩ = some (.slice (some ⟨gm, 0, none⟩) xr.length cm))
    ((refine HKeep _ ?_; repeat (first | exact U7 | exact U6 | exact Upto.refl _ _ | (apply Upto.setCell; rotate_left; exact Or.inl rfl) | refine Upto.drew ?_)))
    ((first
      | (go_simp; go_at_call 82; refine (l1Copy_any _ xr _ hxl RV).mono ?_; rintro e w6 ⟨v6, rfl, ow6, hn6, b6⟩; obtain ⟨o6, c6, rfl⟩ := own_slice ow6; have B6 : Below w5.heap.size w5 w6 := bw_call (bw_drew (Below.refl _ _)) b6; have U6 : Upto (w.heap.size + 1) w5 w6 := Upto.ofBelow B6; dsimp only)
      | (go_simp; go_at_call 85; refine (l9Insert_any w.heap.size g8 c8 ms ⟨ot, xz, .slice o6 xr.length c6, xr, true, 0⟩ w6 (Nat.le_trans hds B6.size) (HK.out.2.2.1.below B6) HMS.out (by rw [ints_flat]; exact owns_mono ow6 hds)).mono ?_; rintro e w7 ⟨v7, rfl, ow7, hn7, b7⟩; have B7 : Below w5.heap.size w5 w7 := bw_call B6 b7; have U7 : Upto (w.heap.size + 1) w5 w7 := Upto.ofBelow B7; have k7 := (B7.block _ s1).trans HK.out.1; have q0 := at_cell k7 0; have q1 := at_cell k7 1; have f0 := at_open k7 0; have f1 := at_open k7 1; dsimp only)))
  all_goals
    have HS : Hid _ := k_end (c := 0) (v := 0) k7 ow7 (bw_call HK.out.2.1 B7) (Nat.le_succ _)
    have HAP : Hid _ := apart_insert HK.out.2.2.2 (insertAt ((ms.map Pk.pv).map Pv.pb) ot) ⟨ot, xz, .slice o6 xr.length c6, xr, true, 0⟩ (fun m hm g hg e => by
      have h1 := (HK.out.2.2.1.maps m hm).lt g hg
      have h2 := ow6.lt g e
      have h3 : w5.heap.size ≤ g := h2.1
      omega)
    have HPW : Hid _ := put_pv HPV.out ⟨ot, xz, .slice o6 xr.length c6, xr, true, 0⟩
    clear HKeep q0 q1 f0 f1 k7 ow7 ow6 B7 U7 b7 B6 U6 b6 HK RV
    go_wp2_with fail
    exact bodyPost_ret (v := .tuple #[v7, .agg #[.int .i64 0, .int .i64 0]]) (by simp [results, Tryz.results43, go_sem, at_cell HS.out.1]) rfl ⟨v7, _, by rw [HDO.out], by rw [HDO.out, HPP.out.1, HPP.out.2]; exact HPW.out, HS.out.2.1, HAP.out, HS.out.2.2⟩

set_option maxRecDepth 100000 in
set_option maxHeartbeats 6400000 in
theorem l9Did_5 (v : Value) (bks : List Pk) (nm ot : ByteArray) (at_ va ep : Int) (told : Int) (w : World) (hn : nm.size ≤ maxLen) (ho : ot.size ≤ maxLen) (hr : ∀ b ∈ bks, b.rs.length ≤ 1048576) (hpo : plainsOk (bks.map Pk.pv) = true) (r : ReadsK w.heap.size w v bks) (hok : opOk ⟨5, nm, ot, at_, va, ep⟩ = true) (href : refused ((bks.map Pk.pv).map Pv.pb) ⟨5, nm, ot, at_, va, ep⟩ = 0) :
    Calls Tryz.prog 43 #[v, .agg #[.int .i64 5, .string nm, .string ot, .int .i64 at_, .int .i64 va, .int .i64 ep], .int .i64 told] w (DoKP (bks.map Pk.pv) ⟨5, nm, ot, at_, va, ep⟩ told w) := by
  obtain ⟨i, hi, hfp, hpk, hpa, hpe⟩ := foundV (o := ⟨5, nm, ot, at_, va, ep⟩) hpo href (show (5 : Int) ≠ 1 by decide)
  simp only at hfp hpa hpe
  have hib : i < bks.length := by rw [List.length_map] at hi; exact hi
  have hpp := pv_parts hpk
  have HDO : Hid (doPlain (bks.map Pk.pv) ⟨5, nm, ot, at_, va, ep⟩ told = (putV (bks.map Pk.pv) ⟨ot, (bks.map Pk.pv)[i].sz, (bks.map Pk.pv)[i].vs, false, 0⟩, (0, 0))) := by
    rw [Hid, doPlain, if_neg (by rw [hok]; decide), if_neg (by rw [href]; decide), if_neg (by simp), if_neg (by simp), if_neg (by simp), if_pos (show kOther 5 = true by decide)]
    show (putV _ ⟨ot, (plainAt (bks.map Pk.pv) (findP ((bks.map Pk.pv).map Pv.pb) nm).toNat).sz, (plainAt (bks.map Pk.pv) (findP ((bks.map Pk.pv).map Pv.pb) nm).toNat).vs, _, 0⟩, _) = _
    rw [hfp, Int.toNat_natCast]
    have e : plainAt (bks.map Pk.pv) i = (bks.map Pk.pv)[i] := by unfold plainAt; rw [List.getD_eq_getElem?_getD, List.getElem?_eq_getElem hi]; rfl
    rw [e]
    rfl
  obtain ⟨ov, cv, hvf⟩ := r.row.form
  subst hvf
  have hfew : bks.length ≤ 6 := by have := (plains_ok hpo).1; rwa [List.length_map] at this
  obtain ⟨W0, hW0, k0, k1, d0, z0⟩ := box2 w #[.int .i64 5, .string nm, .string ot, .int .i64 at_, .int .i64 va, .int .i64 ep] #[.int .i64 0, .int .i64 0] 26 30
  have HW0 : Hid (W0 = _) := hW0
  have r0 := (r.below d0).mono d0.size
  clear hW0 z0 r
  go_enter Tryz.func43, Tryz.ntmps43
  go_upto_region 1 with fail
  rw [← HW0.out]
  clear HW0
  go_wp2_with fail
  refine (l9Copy_any _ bks _ (by omega) hr r0).mono ?_
  rintro e w1 ⟨v8, ms, rfl, hpv, own, ap, hnil, b1⟩
  have own0 := own.mono d0.size
  clear own
  replace k0 := (b1.block _ (heap_lt k0)).trans k0
  replace k1 := (b1.block _ (heap_lt k1)).trans k1
  replace d0 := bw_call d0 b1
  replace r0 := (r0.below b1).mono b1.size
  have HPV : Hid (ms.map Pk.pv = bks.map Pk.pv) := hpv
  have hml1 : ms.length ≤ bks.length := by have := congrArg List.length hpv; simp at this; omega
  have hml2 : bks.length ≤ ms.length := by have := congrArg List.length hpv; simp at this; omega
  clear b1 hpv
  have p0 := at_cell k0 0
  have p1 := at_cell k0 1
  have p2 := at_cell k0 2
  have p3 := at_cell k0 3
  have p4 := at_cell k0 4
  have p5 := at_cell k0 5
  go_wp2_with fail
  clear p0 p1 p2 p3 p4 p5
  refine (specOpOk_any 5 nm ot at_ va ep _ hn ho).mono ?_
  rw [hok]
  rintro e w2 ⟨rfl, b1⟩
  replace k0 := (b1.block _ (heap_lt k0)).trans k0
  replace k1 := (b1.block _ (heap_lt k1)).trans k1
  replace d0 := bw_call d0 b1
  replace r0 := (r0.below b1).mono b1.size
  replace own0 := own0.below b1
  clear b1
  obtain ⟨o8, c8, rfl⟩ := own_slice own0.row
  go_wp2_with fail
  refine (l9Books_any _ bks _ (by omega) r0).mono ?_
  rintro e w3 ⟨v9, bs, rfl, hbs, ob, hnil9, b1⟩
  replace k0 := (b1.block _ (heap_lt k0)).trans k0
  replace k1 := (b1.block _ (heap_lt k1)).trans k1
  replace d0 := bw_call d0 b1
  replace own0 := own0.below b1
  have rb : ReadsR 5 bookC w3.heap.size w3 v9 bs := ReadsR.of_own bookC_len ob.row
  have hfm : ∀ b ∈ bs, ∃ o k cp, b.m = .slice o k cp := fun b hb => by obtain ⟨o, cp, e⟩ := own_slice (ob.maps b hb); exact ⟨o, _, cp, e⟩
  obtain ⟨o9, c9, h9⟩ := rb.form
  subst h9
  clear b1 r0 ob
  have p0 := at_cell k0 0
  have p1 := at_cell k0 1
  have p2 := at_cell k0 2
  have p3 := at_cell k0 3
  have p4 := at_cell k0 4
  have p5 := at_cell k0 5
  go_wp2_with fail
  clear p0 p1 p2 p3 p4 p5
  refine (l8Refused_any _ bs 5 nm ot at_ va ep _ (by omega) rb hfm).mono ?_
  rw [hbs, href]
  rintro e w4 ⟨rfl, b1⟩
  replace k0 := (b1.block _ (heap_lt k0)).trans k0
  replace k1 := (b1.block _ (heap_lt k1)).trans k1
  replace d0 := bw_call d0 b1
  replace own0 := own0.below b1
  replace rb := (rb.below b1).mono b1.size
  clear b1 hfm
  have p1 := at_cell k0 1
  have p0 := at_cell k0 0
  have hfb : findB bs nm = i := by rw [← findP_map, hbs]; exact hfp
  go_wp2_with fail
  clear p0 p1
  refine (specFindBook_any _ bs nm _ rb).mono ?_
  rw [hfb]
  rintro e w5 ⟨rfl, rfl⟩
  clear rb hfb
  have hims : i < ms.length := by omega
  obtain ⟨⟨xn, xz, xm, xr, xf, xe⟩, hX⟩ : ∃ X : Pk, ms[i] = X := ⟨_, rfl⟩
  have HX : Hid (ms[i] = ⟨xn, xz, xm, xr, xf, xe⟩) := hX
  have HMI : Hid ((bks.map Pk.pv)[i] = ⟨xn, xz, xr, xf, xe⟩) := by
    have h := HPV.out
    have h2 : ms[i].pv = (bks.map Pk.pv)[i] := by simp [← h]
    rw [Hid, ← h2, hX]
    rfl
  have owm : w5.ownsRow w.heap.size 2 1 xm xr.length (xr.flatMap intC) := by have h := own0.maps ms[i] (List.getElem_mem hims); rw [hX] at h; exact h
  clear hX
  obtain ⟨g8, hg8⟩ : ∃ g8, o8 = some ⟨g8, 0, none⟩ := by
    rcases own0.row.2 with ⟨_, h0⟩ | ⟨g, cap', cur, e, _⟩
    · omega
    · simp only [Value.slice.injEq] at e
      exact ⟨g, e.1⟩
  subst hg8
  have hvl : (xr.length : Int) = xz := by have h1 := hpp.2.2; rw [HMI.out] at h1; exact h1
  have hxz : 1 ≤ xz ∧ xz ≤ 16 := by have h1 := hpp.1; rw [HMI.out] at h1; exact h1
  have hxl : xr.length ≤ 1048576 := by omega
  have hx0 : 0 < xr.length := by omega
  clear hvl
  obtain ⟨om, cm, hmf⟩ := own_slice owm
  subst hmf
  obtain ⟨gm, hgm⟩ : ∃ gm, om = some ⟨gm, 0, none⟩ := by
    rcases owm.2 with ⟨_, h0⟩ | ⟨g, cap', cur, e, _⟩
    · omega
    · simp only [Value.slice.injEq] at e
      exact ⟨g, e.1⟩
  subst hgm
  obtain ⟨a2, b2⟩ := own_cell pkC_len own0.row i 2 _ (List.getElem?_eq_getElem hims) (by decide)
  have a2' : w5.cell? ⟨g8, i * 5 + 2, none⟩ = some (.slice (some ⟨gm, 0, none⟩) xr.length cm) := by rw [a2, HX.out]; rfl
  obtain ⟨a1, b1'⟩ := own_cell pkC_len own0.row i 1 _ (List.getElem?_eq_getElem hims) (by decide)
  have a1' : w5.cell? ⟨g8, i * 5 + 1, none⟩ = some (.int .i64 xz) := by rw [a1, HX.out]; rfl
  have i0 : (0 : Int) ≤ (i : Int) := by omega
  have i1 : (i : Int) < (ms.length : Int) := by omega
  have p0 := at_cell k0 0
  have n1 : g8 ≠ w.heap.size + 1 := fun e => own_not_box own0.row k1 (by decide) (by rw [e]; rfl)
  have l8 := (own0.row.lt g8 rfl).2
  have HKeep : ∀ X, Upto (w.heap.size + 1) w5 X → (X.cell? ⟨w.heap.size, 0, none⟩ = some (.int .i64 5) ∧ X.cell? ⟨w.heap.size, 2, none⟩ = some (.string ot) ∧ X.cell? ⟨g8, i * 5 + 1, none⟩ = some (.int .i64 xz) ∧ X.cell? ⟨g8, i * 5 + 2, none⟩ = some (.slice (some ⟨gm, 0, none⟩) xr.length cm)) := fun X u =>
    ⟨(u.cell (p := ⟨w.heap.size, 0, none⟩) (heap_lt k0) (by simp)).trans (at_cell k0 0), (u.cell (p := ⟨w.heap.size, 2, none⟩) (heap_lt k0) (by simp)).trans (at_cell k0 2), (u.cell (p := ⟨g8, i * 5 + 1, none⟩) l8 n1).trans a1', (u.cell (p := ⟨g8, i * 5 + 2, none⟩) l8 n1).trans a2'⟩
  have s1 := heap_lt k1
  have hds := d0.size
  have RV : Reads w5.drew.heap.size w5.drew (.slice (some ⟨gm, 0, none⟩) xr.length cm) (xr.map (Value.int .i64)) := by
    have h := Reads.of_own owm
    rw [ints_flat] at h
    exact h.below ((Below.refl _ _).drew)
  have HK : Hid _ := And.intro k1 (And.intro d0 (And.intro own0 ap))
  have HPP : Hid ((bks.map Pk.pv)[i].sz = xz ∧ (bks.map Pk.pv)[i].vs = xr) := by rw [Hid, HMI.out]; exact ⟨rfl, rfl⟩
  clear k0 k1 own0 d0 ap a1 b1' a2 b2 a1' a2' owm HX hpp hpa hpe hpk hbs hfp HMI
  have HMS : Hid (ms.length ≤ 1048576) := by rw [Hid]; omega
  have e4 := HKeep w5 (Upto.refl _ _)
  go_wp2_with fail
  clear p0 e4
  go_region_held3 (fun X => X.cell? ⟨w.heap.size, 0, none⟩ = some (.int .i64 5) ∧ X.cell? ⟨w.heap.size, 2, none⟩ = some (.string ot) ∧ X.cell? ⟨g8, i * 5 + 1, none⟩ = some (.int .i64 xz) ∧ X.cell? ⟨g8, i * 5 + 2, none⟩ = some (.slice (some ⟨gm, 0, none⟩) xr.length cm))
    ((refine HKeep _ ?_; repeat (first | exact U7 | exact U6 | exact Upto.refl _ _ | (apply Upto.setCell; rotate_left; exact Or.inl rfl) | refine Upto.drew ?_)))
    ((first
      | (go_simp; go_at_call 82; refine (l1Copy_any _ xr _ hxl RV).mono ?_; rintro e w6 ⟨v6, rfl, ow6, hn6, b6⟩; obtain ⟨o6, c6, rfl⟩ := own_slice ow6; have B6 : Below w5.heap.size w5 w6 := bw_call (bw_drew (Below.refl _ _)) b6; have U6 : Upto (w.heap.size + 1) w5 w6 := Upto.ofBelow B6; dsimp only)
      | (go_simp; go_at_call 85; refine (l9Insert_any w.heap.size g8 c8 ms ⟨ot, xz, .slice o6 xr.length c6, xr, false, 0⟩ w6 (Nat.le_trans hds B6.size) (HK.out.2.2.1.below B6) HMS.out (by rw [ints_flat]; exact owns_mono ow6 hds)).mono ?_; rintro e w7 ⟨v7, rfl, ow7, hn7, b7⟩; have B7 : Below w5.heap.size w5 w7 := bw_call B6 b7; have U7 : Upto (w.heap.size + 1) w5 w7 := Upto.ofBelow B7; have k7 := (B7.block _ s1).trans HK.out.1; have q0 := at_cell k7 0; have q1 := at_cell k7 1; have f0 := at_open k7 0; have f1 := at_open k7 1; dsimp only)))
  all_goals
    have HS : Hid _ := k_end (c := 0) (v := 0) k7 ow7 (bw_call HK.out.2.1 B7) (Nat.le_succ _)
    have HAP : Hid _ := apart_insert HK.out.2.2.2 (insertAt ((ms.map Pk.pv).map Pv.pb) ot) ⟨ot, xz, .slice o6 xr.length c6, xr, false, 0⟩ (fun m hm g hg e => by
      have h1 := (HK.out.2.2.1.maps m hm).lt g hg
      have h2 := ow6.lt g e
      have h3 : w5.heap.size ≤ g := h2.1
      omega)
    have HPW : Hid _ := put_pv HPV.out ⟨ot, xz, .slice o6 xr.length c6, xr, false, 0⟩
    clear HKeep q0 q1 f0 f1 k7 ow7 ow6 B7 U7 b7 B6 U6 b6 HK RV
    go_wp2_with fail
    exact bodyPost_ret (v := .tuple #[v7, .agg #[.int .i64 0, .int .i64 0]]) (by simp [results, Tryz.results43, go_sem, at_cell HS.out.1]) rfl ⟨v7, _, by rw [HDO.out], by rw [HDO.out, HPP.out.1, HPP.out.2]; exact HPW.out, HS.out.2.1, HAP.out, HS.out.2.2⟩
end Go.Proofs.YtcefcglonooelaaGreatDoor

namespace Go.Proofs.YtcefcglonooelaaGreatDoor
open Go.RowKit

set_option linter.unusedVariables false

set_option maxRecDepth 100000


theorem l9Did_any (v : Value) (bks : List Pk) (k : Int) (nm ot : ByteArray) (at_ va ep told : Int) (w : World) (hn : nm.size ≤ maxLen) (ho : ot.size ≤ maxLen) (hr : ∀ b ∈ bks, b.rs.length ≤ 1048576) (hpo : plainsOk (bks.map Pk.pv) = true) (r : ReadsK w.heap.size w v bks) :
    Calls Tryz.prog 43 #[v, .agg #[.int .i64 k, .string nm, .string ot, .int .i64 at_, .int .i64 va, .int .i64 ep], .int .i64 told] w (DoKP (bks.map Pk.pv) ⟨k, nm, ot, at_, va, ep⟩ told w) := by
  rcases Bool.eq_false_or_eq_true (opOk ⟨k, nm, ot, at_, va, ep⟩) with hok | hok
  · by_cases href : refused ((bks.map Pk.pv).map Pv.pb) ⟨k, nm, ot, at_, va, ep⟩ = 0
    · have hk := (opOk_bd _ hok).1
      simp only at hk
      have h9 : k = 1 ∨ k = 2 ∨ k = 3 ∨ k = 4 ∨ k = 5 ∨ k = 6 ∨ k = 7 ∨ k = 8 ∨ k = 9 := by omega
      rcases h9 with rfl | rfl | rfl | rfl | rfl | rfl | rfl | rfl | rfl
      · exact l9Did_1 v bks nm ot at_ va ep told w hn ho hr hpo r hok href
      · by_cases ht : told = 9
        · subst ht
          exact l9Did_full v bks nm ot at_ va ep w hn ho hr hpo r hok href
        · exact l9Did_2 v bks nm ot at_ va ep told w hn ho hr hpo r hok href ht
      · exact l9Did_3 v bks nm ot at_ va ep told w hn ho hr hpo r hok href
      · exact l9Did_4 v bks nm ot at_ va ep told w hn ho hr hpo r hok href
      · exact l9Did_5 v bks nm ot at_ va ep told w hn ho hr hpo r hok href
      · exact l9Did_6 v bks nm ot at_ va ep told w hn ho hr hpo r hok href
      · exact l9Did_7 v bks nm ot at_ va ep told w hn ho hr hpo r hok href
      · exact l9Did_8 v bks nm ot at_ va ep told w hn ho hr hpo r hok href
      · exact l9Did_9 v bks nm ot at_ va ep told w hn ho hr hpo r hok href
    · exact l9Did_refd v bks k nm ot at_ va ep told w hn ho hr hpo r hok href
  · exact l9Did_bad v bks k nm ot at_ va ep told w hn ho hr hpo r hok
end Go.Proofs.YtcefcglonooelaaGreatDoor

