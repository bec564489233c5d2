/-
  The law FnFenced answers true at every input that the row speaks of, its arguments and the named variables read afterwards as before; the listed variables are tied to the program's text; the walk goes over the callees' contracts.
-/
import Derived.Test.YtcefcglonooelaaGreatDoorRows
import Derived.Test.YtcefcglonooelaaGreatDoorTie
import Derived.Test.YtcefcglonooelaaGreatDoorCards
import Derived.SevenTiedAt
import Derived.JoinedOf
import Derived.OpenVars
import Derived.WalkKit
import Derived.ProofKit
import Derived.OpenShut
import Derived.ChangeOld
import Derived.Below
import Derived.Carry
import Derived.Test.YtcefcglonooelaaGreatDoorChecked
import Derived.ShutString
import Derived.Lib.SmallJoins
import Derived.SliceStrings
import Derived.ChangeSlices
import Derived.Deep.RegionWith
import Derived.Test.YtcefcglonooelaaGreatDoorB01
import Derived.Test.YtcefcglonooelaaGreatDoorB07
import Derived.Test.YtcefcglonooelaaGreatDoorB09
import Derived.Test.YtcefcglonooelaaGreatDoorB31
import Derived.Test.YtcefcglonooelaaGreatDoorB32
import Derived.Test.YtcefcglonooelaaGreatDoorB44
namespace Go.Proofs.YtcefcglonooelaaGreatDoor.fnFenced
open Go Go.ChangeShapes Go.WideShapes Go.ChangeAt Go.RowKit
set_option linter.unusedVariables false

theorem own : ownKnob Tryz.prog.godebug = none := by kernel_rfl
theorem laidOut : laidOutB Tryz.prog = true := by kernel_rfl
theorem vars_length {H : Type} {enc : TypeId × Value → H} {P : Program} {w : World} {sp : Nat → Bool} : ∀ {ns : List String} {gs : List (DataW H)} {ps : List MemPlace}, DataW.TrodVars enc P w sp ns gs ps → gs.length = ns.length
  | [], [], _, _ => rfl
  | [], _ :: _, _, h => h.elim
  | _ :: _, [], _, h => h.elim
  | n :: ns, d :: ds, _, h => by
    obtain ⟨_, _, _, _, _, _, _, _, _, _, h', _⟩ := h
    simp [vars_length h']

set_option maxRecDepth 100000 in
set_option maxHeartbeats 8000000 in
theorem walk (a0 : Option Addr) (len0 cap0 : Nat) (w : World) (w0 : Src w w.heap.size a0 len0) (ad : Nat → Addr) (hvs : Vars w ad) :
    Calls Tryz.prog 5 #[.slice a0 len0 cap0] w fun e w' => e = .returned (.bool true) ∧ Below w.heap.size w w' := by
  have hs := w0
  have hm := hs.1
  by_cases hbig : (4096 : Int) < (len0 : Int)
  · have hd : decide ((4096 : Int) < (len0 : Int)) = true := by simpa using hbig
    go_enter Tryz.func5, Tryz.ntmps5
    go_wp2_with (go_at_call 7; refine (big_any _ _ _ _ hm).mono ?_; rintro e w' ⟨rfl, rfl⟩)
    go_ret
    exact ⟨rfl, Below.refl _ _⟩
  have hd : decide ((4096 : Int) < (len0 : Int)) = false := by simpa using hbig
  have hl4 : len0 ≤ 4096 := by omega
  have HV : Hid (Vars w ad) := by first | exact hvs | exact hvs.v
  clear w0 hbig hvs
  go_enter Tryz.func5, Tryz.ntmps5
  go_wp2_with fail
  refine (big_any _ _ _ _ hm).mono ?_
  rintro e w' ⟨rfl, rfl⟩
  go_wp2_with fail
  refine (drawDidPlain_any _ _ _ _ hs).mono ?_
  rintro e w1 ⟨v, ms, oq, told, rfl, P, fit, ht⟩
  have d := P.d
  replace hs := hs.below d
  have y0 := d.size
  have oL := P.own
  have hfew := P.few
  have HN : Hid (∀ m ∈ ms, m.nm.size ≤ maxLen) := fun m hm => by have := P.nm m hm; unfold maxLen; omega
  clear P
  obtain ⟨o1, c1, rfl⟩ := own_slice oL.row
  have HO : Hid ((oq.nm.size ≤ maxLen ∧ oq.ot.size ≤ maxLen) ∧ I64 oq.k ∧ I64 oq.at_ ∧ I64 oq.va ∧ I64 oq.ep) := by
    have h1 := fit.k
    have h2 := fit.at_
    have h3 := fit.va
    have h4 := fit.ep
    have h5 := fit.nm
    have h6 := fit.ot
    refine ⟨⟨?_, ?_⟩, ?_, ?_, ?_, ?_⟩ <;> (first | (unfold I64; omega) | (unfold maxLen; omega))
  obtain ⟨k, nm, ot, at_, va, ep⟩ := oq
  simp only at HO ⊢
  clear fit ht
  obtain ⟨⟨D1, rc, rv⟩, hD⟩ : ∃ x, didPlain (ms.map Pk.pv) ⟨k, nm, ot, at_, va, ep⟩ told = x := ⟨_, rfl⟩
  have HD : Hid (didPlain (ms.map Pk.pv) ⟨k, nm, ot, at_, va, ep⟩ told = (D1, (rc, rv))) := hD
  clear hD
  have b : Below w1.heap.size w1 (w1.alloc (.cells #[.int .i64 k, .string nm, .string ot, .int .i64 at_, .int .i64 va, .int .i64 ep] 26)) := bw_alloc (Below.refl _ _)
  have kO := heap_alloc_new w1 (.cells #[.int .i64 k, .string nm, .string ot, .int .i64 at_, .int .i64 va, .int .i64 ep] 26)
  have sO : w1.heap.size < (w1.alloc (.cells #[.int .i64 k, .string nm, .string ot, .int .i64 at_, .int .i64 va, .int .i64 ep] 26)).heap.size := by simp
  replace d := bw_call d b
  replace hs := hs.below (b.mono y0)
  replace y0 := Nat.le_trans y0 b.size
  replace oL := oL.below b
  clear b
  have pkO0 := at_cell kO 0
  have pkO1 := at_cell kO 1
  have pkO2 := at_cell kO 2
  have pkO3 := at_cell kO 3
  have pkO4 := at_cell kO 4
  have pkO5 := at_cell kO 5
  go_wp2_with fail
  clear pkO0 pkO1 pkO2 pkO3 pkO4 pkO5
  generalize w1.alloc (.cells #[.int .i64 k, .string nm, .string ot, .int .i64 at_, .int .i64 va, .int .i64 ep] 26) = WA at *
  generalize w1.heap.size = nO at *
  refine (implDidPlain_any _ ms k nm ot at_ va ep told _ ad (HV.out.below d) HN.out HO.out.1.1 HO.out.1.2 HO.out.2.1 HO.out.2.2.1 HO.out.2.2.2.1 HO.out.2.2.2.2 oL.reads).mono ?_
  unfold DidKP
  rw [HD.out]
  rintro e w2 ⟨vx, mx, rfl, hmx, ox, -, b⟩
  have HMX : Hid (mx.map Pk.pv = D1) := hmx
  clear hmx
  replace d := bw_call d b
  replace hs := hs.below (b.mono y0)
  replace y0 := Nat.le_trans y0 b.size
  replace oL := oL.below b
  replace kO := (b.block _ sO).trans kO
  replace sO := Nat.lt_of_lt_of_le sO b.size
  clear b
  obtain ⟨ox1, cx1, rfl⟩ := own_slice ox.row
  have b : Below w2.heap.size w2 (w2.alloc (.cells #[.int .i64 rc, .int .i64 rv] 30)) := bw_alloc (Below.refl _ _)
  have kR := heap_alloc_new w2 (.cells #[.int .i64 rc, .int .i64 rv] 30)
  have sR : w2.heap.size < (w2.alloc (.cells #[.int .i64 rc, .int .i64 rv] 30)).heap.size := by simp
  replace d := bw_call d b
  replace hs := hs.below (b.mono y0)
  replace y0 := Nat.le_trans y0 b.size
  replace oL := oL.below b
  replace kO := (b.block _ sO).trans kO
  replace sO := Nat.lt_of_lt_of_le sO b.size
  replace ox := ox.below b
  clear b
  have pkO0 := at_cell kO 0
  have pkO1 := at_cell kO 1
  have pkO2 := at_cell kO 2
  have pkO3 := at_cell kO 3
  have pkO4 := at_cell kO 4
  have pkO5 := at_cell kO 5
  go_wp2_with fail
  clear pkO0 pkO1 pkO2 pkO3 pkO4 pkO5
  generalize w2.alloc (.cells #[.int .i64 rc, .int .i64 rv] 30) = WB at *
  generalize w2.heap.size = nR at *
  refine (specDidPlain_any _ ms k nm ot at_ va ep told _ HN.out HO.out.1.1 HO.out.1.2 oL.reads).mono ?_
  unfold DidKP
  rw [HD.out]
  rintro e w3 ⟨vy, my, rfl, hmy, oy, -, b⟩
  have HMY : Hid (my.map bareK = mx.map bareK) := bare_of_pv (hmy.trans HMX.out.symm)
  clear hmy
  replace d := bw_call d b
  replace hs := hs.below (b.mono y0)
  replace y0 := Nat.le_trans y0 b.size
  replace oL := oL.below b
  replace kO := (b.block _ sO).trans kO
  replace sO := Nat.lt_of_lt_of_le sO b.size
  replace ox := ox.below b
  replace kR := (b.block _ sR).trans kR
  replace sR := Nat.lt_of_lt_of_le sR b.size
  clear b
  obtain ⟨oy1, cy1, rfl⟩ := own_slice oy.row
  have b : Below w3.heap.size w3 (w3.alloc (.cells #[.int .i64 rc, .int .i64 rv] 30)) := bw_alloc (Below.refl _ _)
  have kT := heap_alloc_new w3 (.cells #[.int .i64 rc, .int .i64 rv] 30)
  have sT : w3.heap.size < (w3.alloc (.cells #[.int .i64 rc, .int .i64 rv] 30)).heap.size := by simp
  replace d := bw_call d b
  replace hs := hs.below (b.mono y0)
  replace y0 := Nat.le_trans y0 b.size
  replace oL := oL.below b
  replace kO := (b.block _ sO).trans kO
  replace sO := Nat.lt_of_lt_of_le sO b.size
  replace ox := ox.below b
  replace kR := (b.block _ sR).trans kR
  replace sR := Nat.lt_of_lt_of_le sR b.size
  replace oy := oy.below b
  clear b
  have hself : ∀ z : Int, (z == z) = true := fun z => by simp
  have pkR0 := at_cell kR 0
  have pkR1 := at_cell kR 1
  have pkT0 := at_cell kT 0
  have pkT1 := at_cell kT 1
  go_wp2_with fail
  clear pkR0 pkR1
  clear pkT0 pkT1
  generalize w3.alloc (.cells #[.int .i64 rc, .int .i64 rv] 30) = WC at *
  generalize w3.heap.size = nT at *
  refine (likePlains_same _ _ mx my _ HMY.out ox.reads oy.reads).mono ?_
  rintro e w4 ⟨rfl, b⟩
  replace d := bw_call d b
  replace hs := hs.below (b.mono y0)
  replace y0 := Nat.le_trans y0 b.size
  replace oL := oL.below b
  replace kO := (b.block _ sO).trans kO
  replace sO := Nat.lt_of_lt_of_le sO b.size
  replace ox := ox.below b
  replace kR := (b.block _ sR).trans kR
  replace sR := Nat.lt_of_lt_of_le sR b.size
  replace oy := oy.below b
  replace kT := (b.block _ sT).trans kT
  replace sT := Nat.lt_of_lt_of_le sT b.size
  clear b
  clear ox
  clear oy
  clear kR sR
  clear kT sT
  clear kO sO
  clear HMX HMY HD HO
  obtain ⟨pk, hpk⟩ : ∃ x, plainsOk (ms.map Pk.pv) = x := ⟨_, rfl⟩
  have HPK : Hid (plainsOk (ms.map Pk.pv) = pk) := hpk
  clear hpk
  go_wp2_with fail
  refine (specPlainsOk_any _ ms _ HN.out oL.reads).mono ?_
  rw [HPK.out]
  rintro e w5 ⟨rfl, b⟩
  replace d := bw_call d b
  replace hs := hs.below (b.mono y0)
  replace y0 := Nat.le_trans y0 b.size
  replace oL := oL.below b
  clear b
  cases pk
  · go_wp2_with fail
    go_ret
    exact ⟨rfl, d⟩
  rcases Nat.eq_zero_or_pos ms.length with h0 | hpos
  · have hz2 : (ms.length : Int) = 0 := by omega
    have hz : ((ms.length : Int) == 0) = true := beq_iff_eq.2 hz2
    clear h0
    go_wp2_with fail
    go_ret
    exact ⟨rfl, d⟩
  have hz2 : ¬ (ms.length : Int) = 0 := by omega
  have hz : ((ms.length : Int) == 0) = false := beq_eq_false_iff_ne.2 hz2
  have hpi : (0 : Int) < (ms.length : Int) := by omega
  go_wp2_with fail
  clear hz hz2
  refine (pickC_any a0 len0 _ 1 (ms.length : Int) _ (hs.mono y0) hl4 (by omega) (by omega) hpi (by omega)).mono ?_
  rintro e w6 ⟨y, rfl, hy, hw6⟩
  subst hw6
  obtain ⟨I, rfl⟩ := Int.eq_ofNat_of_zero_le hy.1
  have hI : I < ms.length := by omega
  have i0 : (0 : Int) ≤ (I : Int) := by omega
  have i1 : (I : Int) < (ms.length : Int) := by omega
  clear hy
  obtain ⟨g, hg⟩ : ∃ g, o1 = some ⟨g, 0, none⟩ := by
    rcases oL.row.2 with ⟨_, h0⟩ | ⟨g, cap', cur, e, _⟩
    · omega
    · simp only [Value.slice.injEq] at e
      exact ⟨g, e.1⟩
  subst hg
  obtain ⟨⟨t0, t1, t2, t3, t4⟩, -⟩ := own_fiveK oL.row I hI
  obtain ⟨bm, hbm⟩ : ∃ X : Pk, ms[I] = X := ⟨_, rfl⟩
  obtain ⟨xn, xz, xm, xr, xf, xe⟩ := bm
  rw [hbm] at t0 t1 t2 t3 t4
  simp only at t0 t1 t2 t3 t4
  have owm := oL.maps ms[I] (List.getElem_mem hI)
  rw [hbm] at owm
  obtain ⟨om, cm, hom⟩ := own_slice owm
  simp only at hom
  subst hom
  clear owm
  have hIl : I < (ms.map Pk.pv).length := by simpa using hI
  have HPI : Hid ((ms.map Pk.pv)[I]'hIl = ⟨xn, xz, xr, xf, xe⟩) := by rw [Hid, List.getElem_map, hbm]; rfl
  have hxn : xn.size ≤ maxLen := by have h := HN.out ms[I] (List.getElem_mem hI); rw [hbm] at h; exact h
  have hxe : 0 ≤ xe ∧ xe ≤ 1000 := by have h := (pv_all ((plains_ok HPK.out).2 _ (List.getElem_mem hIl))).2.2.1; rw [HPI.out] at h; exact h
  have HA : Hid _ := attach9 HPK.out I hIl
  have HFE : Hid (xe ≠ 1000 → _) := fun h => fenced9 HPK.out I hIl (by rw [HPI.out]; exact h)
  have HFI : Hid (xe ≠ 1000 → _) := fun h => fixed9 HPK.out I hIl (by rw [HPI.out]; exact h)
  rw [HPI.out] at HA HFE HFI
  simp only at HA HFE HFI
  clear hbm
  have b : Below w6.heap.size w6 (w6.alloc (.cells #[.string xn, .int .i64 xz, .slice om xr.length cm, .bool xf, .int .i64 xe] 51)) := bw_alloc (Below.refl _ _)
  have kP := heap_alloc_new w6 (.cells #[.string xn, .int .i64 xz, .slice om xr.length cm, .bool xf, .int .i64 xe] 51)
  have sP : w6.heap.size < (w6.alloc (.cells #[.string xn, .int .i64 xz, .slice om xr.length cm, .bool xf, .int .i64 xe] 51)).heap.size := by simp
  replace d := bw_call d b
  replace hs := hs.below (b.mono y0)
  replace y0 := Nat.le_trans y0 b.size
  replace oL := oL.below b
  clear b
  obtain ⟨L0, hL0⟩ : ∃ x, ms.map Pk.pv = x := ⟨_, rfl⟩
  have HL0 : Hid (ms.map Pk.pv = L0) := hL0
  rw [hL0] at HA HFE HFI HPK
  have hot0 : (⟨#[]⟩ : ByteArray).size ≤ maxLen := Nat.zero_le _
  have f8 : I64 8 := by unfold I64; omega
  have f0 : I64 0 := by unfold I64; omega
  have f2 : I64 2 := by unfold I64; omega
  have f5 : I64 5 := by unfold I64; omega
  have fxe : I64 xe := by unfold I64; omega
  have fxe1 : I64 (xe + 1) := by unfold I64; omega
  clear hL0
  have pP0 := at_cell kP 0
  go_wp2_with fail
  clear pP0 t0 t1 t2 t3 t4
  generalize w6.alloc (.cells #[.string xn, .int .i64 xz, .slice om xr.length cm, .bool xf, .int .i64 xe] 51) = WD at *
  generalize w6.heap.size = nP at *
  by_cases hworn : xe = 1000
  case pos =>
    have HA1 : Hid (didPlain L0 ⟨8, xn, ⟨#[]⟩, 0, 0, 0⟩ 0 = (L0, (8, 0))) := by have h := HA.out; rw [if_pos hworn] at h; exact h
    refine (implDidPlain_any _ ms 8 xn _ 0 0 0 0 _ ad (HV.out.below d) HN.out hxn hot0 f8 f0 f0 f0 oL.reads).mono ?_
    unfold DidKP
    rw [HL0.out]
    first | rw [HA1.out] | (rw [show didPlain L0 _ 0 = (L0, (8, 0)) from HA1.out])
    rintro e w7 ⟨vz, mz, rfl, hmz, oz, -, b⟩
    have HMZ : Hid (ms.map bareK = mz.map bareK) := bare_of_pv (HL0.out.trans hmz.symm)
    clear hmz
    replace d := bw_call d b
    replace hs := hs.below (b.mono y0)
    replace y0 := Nat.le_trans y0 b.size
    replace oL := oL.below b
    replace kP := (b.block _ sP).trans kP
    replace sP := Nat.lt_of_lt_of_le sP b.size
    clear b
    obtain ⟨oz1, cz1, rfl⟩ := own_slice oz.row
    have b : Below w7.heap.size w7 (w7.alloc (.cells #[.int .i64 8, .int .i64 0] 30)) := bw_alloc (Below.refl _ _)
    have kU := heap_alloc_new w7 (.cells #[.int .i64 8, .int .i64 0] 30)
    have sU : w7.heap.size < (w7.alloc (.cells #[.int .i64 8, .int .i64 0] 30)).heap.size := by simp
    replace d := bw_call d b
    replace hs := hs.below (b.mono y0)
    replace y0 := Nat.le_trans y0 b.size
    replace oL := oL.below b
    replace kP := (b.block _ sP).trans kP
    replace sP := Nat.lt_of_lt_of_le sP b.size
    replace oz := oz.below b
    clear b
    have e1000 : (xe == 1000) = true := by simp [hworn]
    clear hworn
    have pP4 := at_cell kP 4
    have pU0 := at_cell kU 0
    go_wp2_with fail
    clear pP4 pU0
    generalize w7.alloc (.cells #[.int .i64 8, .int .i64 0] 30) = WE at *
    generalize w7.heap.size = nU at *
    refine (likePlains_same _ _ mz ms _ HMZ.out oz.reads oL.reads).mono ?_
    rintro e w8 ⟨rfl, b⟩
    replace d := bw_call d b
    replace hs := hs.below (b.mono y0)
    replace y0 := Nat.le_trans y0 b.size
    replace oL := oL.below b
    replace kP := (b.block _ sP).trans kP
    replace sP := Nat.lt_of_lt_of_le sP b.size
    replace oz := oz.below b
    replace kU := (b.block _ sU).trans kU
    replace sU := Nat.lt_of_lt_of_le sU b.size
    clear b
    go_wp2_with fail
    go_ret
    exact ⟨rfl, d⟩
  case neg =>
    obtain ⟨E, hE⟩ : ∃ E, xe + 1 = E := ⟨_, rfl⟩
    have HA1 : Hid (didPlain L0 ⟨8, xn, ⟨#[]⟩, 0, 0, 0⟩ 0 = (L0.set I ⟨xn, xz, xr, xf, E⟩, (0, E))) := by have h := HA.out; rw [if_neg hworn, hE] at h; exact h
    have HF1 : Hid (didPlain (L0.set I ⟨xn, xz, xr, xf, E⟩) ⟨2, xn, ⟨#[]⟩, 0, 5, xe⟩ 0 = (L0.set I ⟨xn, xz, xr, xf, E⟩, (4, 0))) := by have h := HFE.out hworn; rw [hE] at h; exact h
    have HG1 : Hid ((didPlain (L0.set I ⟨xn, xz, xr, xf, E⟩) ⟨2, xn, ⟨#[]⟩, 0, 5, E⟩ 0).2.1 = if xf = true then 5 else 0) := by have h := HFI.out hworn; rw [hE] at h; exact h
    have HYOK : Hid (plainsOk (L0.set I ⟨xn, xz, xr, xf, E⟩) = true) := by have h := did_plains L0 ⟨8, xn, ⟨#[]⟩, 0, 0, 0⟩ 0; rw [HA1.out] at h; exact h
    have hwr : IntKind.i64.wrap (xe + 1) = E := by rw [IntKind.wrap_i64]; omega
    have HEE : Hid (xe + 1 = E) := hE
    rw [hE] at fxe1
    clear hE HA HFE HFI
    obtain ⟨Y, hY⟩ : ∃ Y, L0.set I ⟨xn, xz, xr, xf, E⟩ = Y := ⟨_, rfl⟩
    rw [hY] at HA1 HF1 HG1 HYOK
    clear hY
    have e1000 : (xe == 1000) = false := by simpa using hworn
    refine (implDidPlain_any _ ms 8 xn _ 0 0 0 0 _ ad (HV.out.below d) HN.out hxn hot0 f8 f0 f0 f0 oL.reads).mono ?_
    unfold DidKP
    rw [HL0.out]
    first | rw [HA1.out] | (rw [show didPlain L0 _ 0 = (Y, (0, E)) from HA1.out])
    rintro e w7 ⟨vz, mz, rfl, hmz, oz, -, b⟩
    have HMZ : Hid (mz.map Pk.pv = Y) := hmz
    have HZN : Hid (∀ m ∈ mz, m.nm.size ≤ maxLen) := right_names (by rw [hmz]; exact HYOK.out)
    clear hmz
    replace d := bw_call d b
    replace hs := hs.below (b.mono y0)
    replace y0 := Nat.le_trans y0 b.size
    replace oL := oL.below b
    replace kP := (b.block _ sP).trans kP
    replace sP := Nat.lt_of_lt_of_le sP b.size
    clear b
    obtain ⟨oz1, cz1, rfl⟩ := own_slice oz.row
    have b : Below w7.heap.size w7 (w7.alloc (.cells #[.int .i64 0, .int .i64 E] 30)) := bw_alloc (Below.refl _ _)
    have kU := heap_alloc_new w7 (.cells #[.int .i64 0, .int .i64 E] 30)
    have sU : w7.heap.size < (w7.alloc (.cells #[.int .i64 0, .int .i64 E] 30)).heap.size := by simp
    replace d := bw_call d b
    replace hs := hs.below (b.mono y0)
    replace y0 := Nat.le_trans y0 b.size
    replace oL := oL.below b
    replace kP := (b.block _ sP).trans kP
    replace sP := Nat.lt_of_lt_of_le sP b.size
    replace oz := oz.below b
    clear b
    have pP0 := at_cell kP 0
    have pP4 := at_cell kP 4
    go_wp2_with fail
    clear pP0 pP4
    generalize w7.alloc (.cells #[.int .i64 0, .int .i64 E] 30) = WE at *
    generalize w7.heap.size = nU at *
    refine (implDidPlain_any _ mz 2 xn _ 0 5 xe 0 _ ad (HV.out.below d) HZN.out hxn hot0 f2 f0 f5 fxe oz.reads).mono ?_
    unfold DidKP
    rw [HMZ.out]
    first | rw [HF1.out] | (rw [show didPlain Y _ 0 = (Y, (4, 0)) from HF1.out])
    rintro e w8 ⟨va8, ma, rfl, hma, oa, -, b⟩
    have HMA : Hid (mz.map bareK = ma.map bareK) := bare_of_pv (HMZ.out.trans hma.symm)
    clear hma
    replace d := bw_call d b
    replace hs := hs.below (b.mono y0)
    replace y0 := Nat.le_trans y0 b.size
    replace oL := oL.below b
    replace kP := (b.block _ sP).trans kP
    replace sP := Nat.lt_of_lt_of_le sP b.size
    replace oz := oz.below b
    replace kU := (b.block _ sU).trans kU
    replace sU := Nat.lt_of_lt_of_le sU b.size
    clear b
    obtain ⟨oa1, ca1, rfl⟩ := own_slice oa.row
    have b : Below w8.heap.size w8 (w8.alloc (.cells #[.int .i64 4, .int .i64 0] 30)) := bw_alloc (Below.refl _ _)
    have kV := heap_alloc_new w8 (.cells #[.int .i64 4, .int .i64 0] 30)
    have sV : w8.heap.size < (w8.alloc (.cells #[.int .i64 4, .int .i64 0] 30)).heap.size := by simp
    replace d := bw_call d b
    replace hs := hs.below (b.mono y0)
    replace y0 := Nat.le_trans y0 b.size
    replace oL := oL.below b
    replace kP := (b.block _ sP).trans kP
    replace sP := Nat.lt_of_lt_of_le sP b.size
    replace oz := oz.below b
    replace kU := (b.block _ sU).trans kU
    replace sU := Nat.lt_of_lt_of_le sU b.size
    replace oa := oa.below b
    clear b
    obtain ⟨⟨D3, rc3, rv3⟩, hD3⟩ : ∃ x, didPlain Y ⟨2, xn, ⟨#[]⟩, 0, 5, E⟩ 0 = x := ⟨_, rfl⟩
    have HD3 : Hid (didPlain Y ⟨2, xn, ⟨#[]⟩, 0, 5, E⟩ 0 = (D3, (rc3, rv3))) := hD3
    have HRC3 : Hid (rc3 = if xf = true then 5 else 0) := by have h := HG1.out; rw [hD3] at h; exact h
    clear hD3 HG1
    have pP0 := at_cell kP 0
    have pP4 := at_cell kP 4
    go_wp2_with fail
    clear pP0 pP4
    generalize w8.alloc (.cells #[.int .i64 4, .int .i64 0] 30) = WF at *
    generalize w8.heap.size = nV at *
    refine (implDidPlain_any _ mz 2 xn _ 0 5 E 0 _ ad (HV.out.below d) HZN.out hxn hot0 f2 f0 f5 fxe1 oz.reads).mono ?_
    unfold DidKP
    rw [HMZ.out]
    first | rw [HD3.out] | (rw [show didPlain Y _ 0 = (D3, (rc3, rv3)) from HD3.out])
    rintro e w9 ⟨vb9, mb, rfl, -, ob, -, b⟩
    replace d := bw_call d b
    replace hs := hs.below (b.mono y0)
    replace y0 := Nat.le_trans y0 b.size
    replace oL := oL.below b
    replace kP := (b.block _ sP).trans kP
    replace sP := Nat.lt_of_lt_of_le sP b.size
    replace oz := oz.below b
    replace kU := (b.block _ sU).trans kU
    replace sU := Nat.lt_of_lt_of_le sU b.size
    replace oa := oa.below b
    replace kV := (b.block _ sV).trans kV
    replace sV := Nat.lt_of_lt_of_le sV b.size
    clear b
    obtain ⟨ob1, cb1, rfl⟩ := own_slice ob.row
    clear ob
    have b : Below w9.heap.size w9 (w9.alloc (.cells #[.int .i64 rc3, .int .i64 rv3] 30)) := bw_alloc (Below.refl _ _)
    have kW := heap_alloc_new w9 (.cells #[.int .i64 rc3, .int .i64 rv3] 30)
    have sW : w9.heap.size < (w9.alloc (.cells #[.int .i64 rc3, .int .i64 rv3] 30)).heap.size := by simp
    replace d := bw_call d b
    replace hs := hs.below (b.mono y0)
    replace y0 := Nat.le_trans y0 b.size
    replace oL := oL.below b
    replace kP := (b.block _ sP).trans kP
    replace sP := Nat.lt_of_lt_of_le sP b.size
    replace oz := oz.below b
    replace kU := (b.block _ sU).trans kU
    replace sU := Nat.lt_of_lt_of_le sU b.size
    replace oa := oa.below b
    replace kV := (b.block _ sV).trans kV
    replace sV := Nat.lt_of_lt_of_le sV b.size
    clear b
    have pkU0 := at_cell kU 0
    have pkU1 := at_cell kU 1
    have pP4 := at_cell kP 4
    have pV0 := at_cell kV 0
    go_wp2_with fail
    clear pkU0 pkU1
    clear pP4 pV0
    generalize w9.alloc (.cells #[.int .i64 rc3, .int .i64 rv3] 30) = WG at *
    generalize w9.heap.size = nW at *
    refine (likePlains_same _ _ ma mz _ HMA.out oa.reads oz.reads).mono ?_
    rintro e w10 ⟨rfl, b⟩
    replace d := bw_call d b
    replace hs := hs.below (b.mono y0)
    replace y0 := Nat.le_trans y0 b.size
    replace oL := oL.below b
    replace kP := (b.block _ sP).trans kP
    replace sP := Nat.lt_of_lt_of_le sP b.size
    replace oz := oz.below b
    replace kU := (b.block _ sU).trans kU
    replace sU := Nat.lt_of_lt_of_le sU b.size
    replace oa := oa.below b
    replace kV := (b.block _ sV).trans kV
    replace sV := Nat.lt_of_lt_of_le sV b.size
    replace kW := (b.block _ sW).trans kW
    replace sW := Nat.lt_of_lt_of_le sW b.size
    clear b
    have pP3 := at_cell kP 3
    have pW0 := at_cell kW 0
    have hrc3 : rc3 = if xf = true then 5 else 0 := HRC3.out
    clear HRC3
    cases xf
    · rw [if_neg (by decide)] at hrc3
      subst hrc3
      go_wp2_with fail
      go_ret
      exact ⟨rfl, d⟩
    · rw [if_pos rfl] at hrc3
      subst hrc3
      go_wp2_with fail
      go_ret
      exact ⟨rfl, d⟩

set_option maxRecDepth 100000 in
theorem lifted (os : Os) (started : os.Started) (H : Type) (enc : TypeId × Value → H) :
    ReturnsInHanded {} Tryz.checked os 5 .any (fun w args => (Rows.fnFencedSpec.pre enc Tryz.prog Tryz.f5 Rows.fnFencedRow.domain false w args ∧ laidMetH Tryz.prog Rows.fnFencedRow.laid w) ∧ sizedMet enc Tryz.prog Tryz.f5 (OpenSpec.ofChange Rows.fnFencedSpec) false w args) (Rows.fnFencedSpec.post enc Tryz.prog Tryz.f5 false true false false) := by
  refine returnsInHanded_of_change_and (C := Tryz.checked) (X := fun w _ => laidMetH Tryz.prog Rows.fnFencedRow.laid w) (fun _ _ _ hh h => h.of_heap hh) own started (by kernel_rfl) Tryz.func5
    (ChangeSpec.witness_at (enc := enc) (C := Tryz.checked) (os := os) (X := fun w _ => laidMetH Tryz.prog Rows.fnFencedRow.laid w) false (laidWorld os) #[.slice none 0 0] 8 rfl (by kernel_rfl) (by kernel_rfl) (by kernel_rfl) (by kernel_rfl) (by kernel_rfl) (show laidMetH Tryz.prog laidLess _ from laid_nine os _)) ?_
  intro W base args ds gs before hval0 hW _ _ hL _
  have hval : ∀ (j : Nat) t v, Tryz.f5.params[j]? = some t → args[j]? = some v → Value.okWide Tryz.prog W .any base t v := hval0
  have hW' := hW
  obtain ⟨p, q, hA0, hV, rfl, hfz, hnd⟩ := hW
  have hA : DataW.TrodAll enc Tryz.prog W 0 (fun _ => true) true Tryz.f5.params.toList args.toList ds p := hA0
  have hVN : DataW.TrodVars enc Tryz.prog W (fun _ => true) ["loop.example/g00372/impl.errNoPage", "loop.example/g00372/impl.errWrongOp", "loop.example/g00372/impl.errNoBook", "loop.example/g00372/impl.errBookThere", "loop.example/g00372/impl.errFenced", "loop.example/g00372/impl.errFixed", "loop.example/g00372/impl.errRange", "loop.example/g00372/impl.errManyBooks", "loop.example/g00372/impl.errWorn"] gs q := hV
  have hvl := vars_length hVN
  rw [Tryz.params5] at hA hval
  obtain ⟨v0, vs0, d0, ds0, p0, q0, hargs, rfl, rfl, h0, rr0⟩ := trodAll_cons hA
  obtain ⟨rfl, rfl, rfl⟩ := trodAll_nil rr0
  obtain rfl : args = #[v0] := by cases args; simp_all
  have kk0 := h0
  have lt0 : ∀ x ∈ p0, x.block < W.heap.size := by obtain ⟨fuel, hfuel⟩ := kk0; exact DataW.trod_lt fuel _ _ _ hfuel
  obtain ⟨a0, len0, cap0, rfl, w0⟩ := open_bytes (hval 0 22 v0 rfl rfl) h0
  clear hA0 hval0
  refine (walk a0 len0 cap0 W w0 (adOf W) (vars_nine (show laidMetH Tryz.prog laidLess W from hL))).mono fun e W' ⟨he, bel⟩ => ?_
  subst he
  match gs, hvl, hVN with
  | [g1, g2, g3, g4, g5, g6, g7, g8, g9], _, hVN =>
    exact ⟨_, rfl, _, _, _, [], _, q, hW', trodAll_mk1 (shut_bool Tryz.underlying4 _), (trodAll_cons_mk (Below.trod laidOut (by kernel_rfl) (of_decide_eq_true (by kernel_rfl)) kk0 bel lt0) trodAll_mk0), Below.trodVars laidOut bel (by kernel_rfl) hVN, bel.frame _, fun h => by cases h⟩

theorem over : Rows.fnFencedRow.holds Tryz.pinned (OpenSpec.ofChange Rows.fnFencedSpec) :=
  OpenClaim.holds_of_wide 5 Tryz.f5 rfl rfl rfl rfl rfl rfl rfl ⟨rfl, rfl, rfl, rfl, rfl⟩ rfl rfl rfl rfl rfl hfn Tryz.func5 closed hinst hwrap
    (fun os started H enc _ => lifted os started H enc)

theorem proved : Rows.FnFencedCardSaid :=
  Claim7.holds_tied_plain_at .later [] [.handle, .sentinel, .sentinel, .sentinel, .sentinel, .sentinel, .sentinel, .sentinel, .sentinel, .sentinel] true (true, "c1202ad587a82d4a6b2824aa68a774fbcede363e1cfa9649eab5822d3dd22308") true over (fun _ h => by cases h) byText (fun _ h => by cases h) fnFenced_row_tie rfl ⟨rfl, rfl⟩ mainIs rfl
    (fun f fn hf hfn' => by
      obtain rfl : f = 5 := (Option.some.inj (hfn.symm.trans hf)).symm
      obtain rfl : fn = Tryz.f5 := (Option.some.inj (Tryz.func5.symm.trans hfn')).symm
      exact ⟨looks, fun j t ht => by
        rw [Tryz.params5] at ht
        have hm : t ∈ [22] := by have h := Array.mem_of_getElem? ht; simpa using h
        simp only [List.mem_cons, List.mem_nil_iff, or_false] at hm
        rcases hm with rfl
        · exact stand22⟩)
    goes
#print axioms proved
end Go.Proofs.YtcefcglonooelaaGreatDoor.fnFenced
