/-
  Contracts and plain laws, one chapter behind the other.
-/
import Derived.Deep.DeepCutAuto
import Derived.Deep.RegionHeld3
import Derived.Lib.AppendZerosOnto
import Derived.Lib.Strings
import Derived.Lib.Slices
import Derived.Lib.Walk
import Derived.Lib.Bytealg
import Derived.Test.YtcefcglonooelaaGreatDoorM01
import Derived.Test.YtcefcglonooelaaGreatDoorM03
import Derived.Test.YtcefcglonooelaaGreatDoorM04
import Derived.Test.YtcefcglonooelaaGreatDoorM06
import Derived.Test.YtcefcglonooelaaGreatDoorM07
import Derived.Test.YtcefcglonooelaaGreatDoorM08
import Derived.Test.YtcefcglonooelaaGreatDoorM09
import Derived.Test.YtcefcglonooelaaGreatDoorM11
import Derived.Test.YtcefcglonooelaaGreatDoorM17
import Derived.Test.YtcefcglonooelaaGreatDoorM21
namespace Go.Proofs.YtcefcglonooelaaGreatDoor
open Go.RowKit

set_option linter.unusedVariables false

set_option maxRecDepth 100000


/-- Why plain ones refuse an op: 0 where they don't. -/
def plCode (l : List Pv) (o : Oq) (told : Int) : Int := if refCode (l.map Pv.pb) o = 0 then (if o.k = 2 ∧ told = 9 then 9 else 0) else refCode (l.map Pv.pb) o

set_option maxHeartbeats 3200000 in
theorem refusedPlain_any (vb : Value) (bks : List Pk) (k : Int) (nm ot : ByteArray) (at_ va ep told : Int) (w : World) (ad : Nat → Addr) (hv : Vars w ad) (hn : nm.size ≤ maxLen) (hot : ot.size ≤ maxLen) (fk : I64 k) (fa : I64 at_) (fv : I64 va) (fe : I64 ep) (hl : bks.length ≤ 6) (hep : ∀ b ∈ bks, b.ep ≤ 1000) (r : ReadsK w.heap.size w vb bks) :
    Calls Tryz.prog 37 #[vb, .agg #[.int .i64 k, .string nm, .string ot, .int .i64 at_, .int .i64 va, .int .i64 ep], .int .i64 told] w fun e w' => e = .returned (refErr ad (plCode (bks.map Pk.pv) ⟨k, nm, ot, at_, va, ep⟩ told)) ∧ Below w.heap.size w w' := by
  obtain ⟨W0, hW0, kO, d0, z0⟩ := box1 w #[.int .i64 k, .string nm, .string ot, .int .i64 at_, .int .i64 va, .int .i64 ep] 26
  have HW0 : Hid (W0 = _) := hW0
  have r0 := (r.below d0).mono d0.size
  have hv0 := hv.below d0
  have hl' : (bks.map Pk.bk).length ≤ 6 := by rw [List.length_map]; exact hl
  have hep' : ∀ b ∈ bks.map Pk.bk, b.ep ≤ 1000 := fun b hb => by obtain ⟨x, hx, rfl⟩ := List.mem_map.1 hb; exact hep x hx
  have hms' : ∀ b ∈ bks.map Pk.bk, ∃ o k cap, b.m = .slice o k cap := fun b hb => by obtain ⟨x, hx, rfl⟩ := List.mem_map.1 hb; exact ⟨none, 0, 0, rfl⟩
  have hrf : ∀ (vb : Value) (w : World) (hv : Vars w ad) (r : ReadsR 5 bookC w.heap.size w vb (bks.map Pk.bk)), _ := fun vb w hv r => refusedBy_any k fk vb (bks.map Pk.bk) nm ot at_ va ep w ad hv hn hot fa fv fe hl' hep' hms' r
  obtain ⟨C, hC⟩ : ∃ C, refCode ((bks.map Pk.pv).map Pv.pb) ⟨k, nm, ot, at_, va, ep⟩ = C := ⟨_, rfl⟩
  simp only [bk_pb, hC] at hrf
  have HP : Hid (plCode (bks.map Pk.pv) ⟨k, nm, ot, at_, va, ep⟩ told = if C = 0 then (if k = 2 ∧ told = 9 then 9 else 0) else C) := by rw [Hid, plCode, hC]
  obtain ⟨P, hP⟩ : ∃ P, plCode (bks.map Pk.pv) ⟨k, nm, ot, at_, va, ep⟩ told = P := ⟨_, rfl⟩
  rw [hP] at HP ⊢
  clear hP hC
  have hwv : ∀ (w : World) (r : ReadsK w.heap.size w vb bks), _ := fun w r => withoutValues_any vb bks w hl r
  obtain ⟨ob, kb, hvb⟩ := r.row.form
  subst hvb
  have HRF : Hid _ := hrf
  have HWV : Hid _ := hwv
  have HR0 : Hid _ := r0
  have HV0 : Hid _ := hv0
  clear hW0 z0 r hv hrf hwv hl' hep' hms' hep r0 hv0
  go_enter Tryz.func37, Tryz.ntmps37
  go_wp2_with fail
  rw [← HW0.out]
  clear HW0
  go_cut [7] (fun v wx => v = refErr ad C ∧ Below W0.heap.size W0 wx)
  case first =>
    have HKeep : ∀ X, Below W0.heap.size W0 X → (Below W0.heap.size W0 X ∧ X.cell? ⟨w.heap.size, 0, none⟩ = some (.int .i64 k) ∧ X.cell? ⟨w.heap.size, 1, none⟩ = some (.string nm) ∧ X.cell? ⟨w.heap.size, 2, none⟩ = some (.string ot) ∧ X.cell? ⟨w.heap.size, 3, none⟩ = some (.int .i64 at_) ∧ X.cell? ⟨w.heap.size, 4, none⟩ = some (.int .i64 va) ∧ X.cell? ⟨w.heap.size, 5, none⟩ = some (.int .i64 ep)) := fun X hb => by
      have x2 := (hb.block _ (heap_lt kO)).trans kO
      exact ⟨hb, at_cell x2 0, at_cell x2 1, at_cell x2 2, at_cell x2 3, at_cell x2 4, at_cell x2 5⟩
    have A1 : Below W0.heap.size W0 W0.drew := bw_drew (Below.refl _ _)
    go_region_held3 (fun X => Below W0.heap.size W0 X ∧ X.cell? ⟨w.heap.size, 0, none⟩ = some (.int .i64 k) ∧ X.cell? ⟨w.heap.size, 1, none⟩ = some (.string nm) ∧ X.cell? ⟨w.heap.size, 2, none⟩ = some (.string ot) ∧ X.cell? ⟨w.heap.size, 3, none⟩ = some (.int .i64 at_) ∧ X.cell? ⟨w.heap.size, 4, none⟩ = some (.int .i64 va) ∧ X.cell? ⟨w.heap.size, 5, none⟩ = some (.int .i64 ep))
      ((refine HKeep _ ?_; repeat (first | exact Below.refl _ _ | exact A3 | exact A4 | refine bw_drew ?_)))
      ((first
        | (go_at_call 46; refine (HWV.out _ ((HR0.out.below A1).mono A1.size)).mono ?_; rintro e w5 ⟨u5, rfl, og, b5⟩; have A3 : Below W0.heap.size W0 w5 := bw_call A1 b5; skip)
        | (go_at_call 73; refine (HRF.out _ _ (HV0.out.below A3) (ReadsR.of_own bookC_len og)).mono ?_; rintro e w6 ⟨rfl, b6⟩; have A4 : Below W0.heap.size W0 w6 := bw_call A3 b6; skip)))
    all_goals
      go_wp2_with fail
      go_meet
      exact ⟨rfl, A4⟩
  case rest =>
    obtain ⟨rfl, bw⟩ := hcut
    have kO1 := (bw.block _ (heap_lt kO)).trans kO
    have hv1 := HV0.out.below bw
    have HD : Hid (Below w.heap.size w _) := bw_call d0 bw
    have q0 := at_cell kO1 0
    have g0 := hv1.cell 0 (by simp [errVars])
    clear HV0 HR0 HWV HRF kO kO1 hv1 bw d0
    by_cases h0 : C = 0
    · subst h0
      rw [show refErr ad 0 = .nilIface from rfl]
      by_cases hk : k = 2
      · subst hk
        by_cases ht : told = 9
        · subst ht
          have HE : Hid (refErr ad P = .iface 106 (.agg #[.int .i64 9, .iface 228 (.pointer (some (ad 0)))])) := by rw [Hid, HP.out]; rfl
          clear HP
          go_wp2_with fail
          go_ret
          exact ⟨by rw [HE.out]; rfl, HD.out⟩
        · have HE : Hid (refErr ad P = .nilIface) := by rw [Hid, HP.out, if_pos rfl, if_neg (fun h => ht h.2)]; rfl
          clear HP
          go_wp2_with fail
          go_ret
          exact ⟨by rw [HE.out]; rfl, HD.out⟩
      · have HE : Hid (refErr ad P = .nilIface) := by rw [Hid, HP.out, if_pos rfl, if_neg (fun h => hk h.1)]; rfl
        clear HP
        go_wp2_with fail
        go_ret
        exact ⟨by rw [HE.out]; rfl, HD.out⟩
    · have HE : Hid (refErr ad P = refErr ad C) := by rw [Hid, HP.out, if_neg h0]
      have HE2 : Hid (refErr ad C = .iface 106 (.agg #[.int .i64 C, .iface 228 (.pointer (some (ad (varOf C))))])) := by rw [Hid, refErr, if_neg h0]
      rw [HE2.out]
      clear HP h0
      go_wp2_with fail
      go_ret
      exact ⟨by rw [HE.out, HE2.out]; rfl, HD.out⟩
end Go.Proofs.YtcefcglonooelaaGreatDoor

namespace Go.Proofs.YtcefcglonooelaaGreatDoor
open Go.RowKit

set_option linter.unusedVariables false

set_option maxRecDepth 100000


theorem run_zeros_own {P : Program} (w : World) (base : Nat) (t tn e : TypeId) (i : TypeInfo) (z : Value) (size bytes : Nat) (kq kn : IntKind) (ht : P.underlying t = some (.slice e)) (htn : P.underlying tn = some (.int kn)) (hi : P.info? e = some i) (hz : i.zero = some z)
    (hsize : i.size = size) (hby : i.bytes = bytes) (hzs : z.cells.size = size) (hsz : 0 < size)
    (g n cap : Nat) (xs : List Value) (hown : w.ownsRow base e size (.slice (some ⟨g, 0, none⟩) n cap) n xs)
    (k : Nat) (h0 : 0 < k) (h1 : ∀ u ∈ (Builtin.zeroCells z.cells k).toList, u.oneCell' = true)
    (h63 : n + k ≤ maxLen) (hbytes : (n + k) * bytes ≤ 140737488355328) (hbase : base ≤ w.heap.size) :
    ∃ v' w', (∀ ty, (Builtin.append_ #[t, tn] ty #[.slice (some ⟨g, 0, none⟩) n cap, .int kq k]).run P w = .ok v' w') ∧ w'.ownsRow base e size v' (n + k) (xs ++ (Builtin.zeroCells z.cells k).toList) ∧ w.grownBy w' (some g) := by
  subst hsize
  subst hby
  have hsmall : n + k ≤ 9223372036854775807 := by simp only [maxLen] at h63; omega
  have hl : (Builtin.zeroCells z.cells k).toList.length = k * i.size := by rw [Array.length_toList, size_zeroCells, hzs]
  have hkb : k * i.bytes ≤ 281474976710656 := by
    have := Nat.mul_le_mul_right i.bytes (show k ≤ n + k by omega)
    omega
  have hlen : (xs ++ (Builtin.zeroCells z.cells k).toList).length = (n + k) * i.size := by rw [List.length_append, hown.1, hl, Nat.add_mul]
  rcases hown.2 with ⟨h, _⟩ | ⟨g', cap', cur, h, hbg, hg, hnc, hcm, hcs, htake⟩
  · simp at h
  · simp only [Value.slice.injEq, Option.some.injEq, Addr.mk.injEq, and_true, true_and] at h
    obtain ⟨rfl, rfl⟩ := h
    by_cases hroom : n + k ≤ cap
    · have hfit : n * i.size + (Builtin.zeroCells z.cells k).toList.length ≤ cur.size := by rw [hl, hcs, ← Nat.add_mul]; exact Nat.mul_le_mul_right _ hroom
      have hst := run_storeCells_at P g (n * i.size) e (Builtin.zeroCells z.cells k).toList 0 cur w hg (by simpa using hfit) h1
      simp only [Nat.add_zero] at hst
      have hk : k ≠ 0 := by omega
      have hw : IntKind.i64.wrap (k : Int) = k := by rw [IntKind.wrap_i64]; omega
      have h48i : ¬ (281474976710656 < (k : Int) * (i.bytes : Int)) := by
        rw [← Int.natCast_mul]
        omega
      have hneg : ¬ ((k : Int) < 0) := by omega
      have hns : ¬ (k * i.size = 0) := Nat.mul_ne_zero hk (by omega)
      refine ⟨.slice (some ⟨g, 0, none⟩) (n + k) cap, _, fun ty => ?_, ⟨hlen, .inr ⟨g, cap, _, rfl, hbg, setRow_heap w g cur (cur.toList.take (n * i.size) ++ (Builtin.zeroCells z.cells k).toList ++ cur.toList.drop (n * i.size + (Builtin.zeroCells z.cells k).toList.length)).toArray e _ hg, hroom, hcm, ?_, ?_⟩⟩, ⟨rfl, rfl, rfl, by simp, fun j _ hj => setRow_other w g j _ (fun e => hj (by rw [e]))⟩⟩
      · simp [Builtin.append_, run_underlying ht, run_underlying htn, sizeOf, typeInfo, zeroValue, hi, hz, asInt, asIntOf, hw, hneg, hns, h48i, hroom, Addr.add_lit, hst]
      · simp only [List.size_toArray, List.length_append, List.length_take, List.length_drop, Array.length_toList]
        simp only [Array.length_toList] at hfit
        omega
      · rw [htake, ← hlen]
        exact List.take_left
    · have holds : ∀ j u, xs[j]? = some u → w.drew.cell? ((⟨g, 0, none⟩ : Addr).add j) = some u := hown.cells (g := g) rfl
      have hold := run_firstCells_some (P := P) w.drew i.size n ⟨g, 0, none⟩ n cap xs hown.1 holds
      have hr := fun ty => Lib.run_append_grow_zeros (P := P) w t tn ty e i z kq kn ht htn hi hz (some ⟨g, 0, none⟩) n cap xs hold k h0 hsz (by omega) (by omega) hkb (growslice_fits (by omega) hbytes)
      have hge := grownCap_ge w (n + k) cap e
      have hcm2 : grownCap w (n + k) cap e ≤ maxLen := grownCap_le_maxLen w (n + k) cap e h63
      refine ⟨_, _, hr, ⟨hlen, .inr ⟨w.heap.size, _, _, rfl, hbase, heap_alloc_new w.drew _, hge, hcm2, ?_, ?_⟩⟩, ⟨rfl, rfl, rfl, by simp, fun k hk _ => Below.heap_alloc w.drew _ k hk⟩⟩
      · simp only [Array.size_append, List.size_toArray, size_zeroCells, hzs, hown.1, ← Nat.add_mul]
        congr 1
        omega
      · simp only [Array.toList_append, List.append_assoc]
        rw [← List.append_assoc, ← hlen]
        exact List.take_left

theorem zeros_i16 : (Builtin.zeroCells (Value.int .i64 0).cells 16).toList = (List.replicate 16 (0 : Int)).map (Value.int .i64) := by kernel_rfl
end Go.Proofs.YtcefcglonooelaaGreatDoor

namespace Go.Proofs.YtcefcglonooelaaGreatDoor
open Go.RowKit

set_option linter.unusedVariables false


/-- One plain's values and its size are written. -/
theorem OwnK.resize {base g8 cap nM i : Nat} {w : World} {ms : List Pk} (h : OwnK base w (.slice (some ⟨g8, 0, none⟩) nM cap) ms) (ap : ApartK ms) (hi : i < ms.length) {xn : ByteArray} {xz : Int} {xm : Value} {xr : List Int} {xf : Bool} {xe : Int} (hx : ms[i] = ⟨xn, xz, xm, xr, xf, xe⟩) (z : Int) (v : Value) (ys : List Int)
    (ho : w.ownsRow base 2 1 v ys.length (ys.flatMap intC)) (hv : ∀ m ∈ ms, ∀ g, m.m.ownBlock = some g → v.ownBlock ≠ some g) :
    OwnK base ((w.setCell ⟨g8, i * 5 + 2, none⟩ v).setCell ⟨g8, i * 5 + 1, none⟩ (.int .i64 z)) (.slice (some ⟨g8, 0, none⟩) nM cap) (ms.set i ⟨xn, z, v, ys, xf, xe⟩) ∧ ApartK (ms.set i ⟨xn, z, v, ys, xf, xe⟩) := by
  have u : Upto g8 w ((w.setCell ⟨g8, i * 5 + 2, none⟩ v).setCell ⟨g8, i * 5 + 1, none⟩ (.int .i64 z)) := ((Upto.refl _ _).setCell ⟨g8, i * 5 + 2, none⟩ (.inl rfl) _).setCell ⟨g8, i * 5 + 1, none⟩ (.inl rfl) _
  have hs1 := own_put pkC_len h.row i 2 ms[i] ⟨xn, xz, v, ys, xf, xe⟩ v (List.getElem?_eq_getElem hi) (by decide) (by rw [hx]; rfl)
  have hs2 := own_put pkC_len hs1 i 1 ⟨xn, xz, v, ys, xf, xe⟩ ⟨xn, z, v, ys, xf, xe⟩ (.int .i64 z) (by simp [hi]) (by decide) rfl
  rw [List.set_set] at hs2
  have keep : ∀ (v' : Value) (l : List Int), w.ownsRow base 2 1 v' l.length (l.flatMap intC) → ((w.setCell ⟨g8, i * 5 + 2, none⟩ v).setCell ⟨g8, i * 5 + 1, none⟩ (.int .i64 z)).ownsRow base 2 1 v' l.length (l.flatMap intC) := fun v' l hl =>
    own_rng_not hl (fun g hg hv => u.block g hg (fun e => rows_twoK h.row hl (by decide) g8 rfl (by rw [← e]; exact hv)))
  refine ⟨⟨hs2, fun m hm => ?_⟩, ?_⟩
  · rcases List.mem_or_eq_of_mem_set hm with hm | rfl
    · exact keep _ _ (h.maps m hm)
    · exact keep _ _ ho
  · refine List.pairwise_iff_getElem.2 (fun a b ha hb hab => ?_)
    rw [List.length_set] at ha hb
    by_cases ea : i = a
    · subst ea
      rw [List.getElem_set_self, List.getElem_set_ne (by omega)]
      intro g hg e
      exact hv _ (List.getElem_mem hb) g e hg
    · rw [List.getElem_set_ne ea]
      by_cases eb : i = b
      · subst eb
        rw [List.getElem_set_self]
        exact hv _ (List.getElem_mem ha)
      · rw [List.getElem_set_ne eb]
        exact apart_at9 ap a b ha hb (by omega)

set_option maxRecDepth 100000 in
set_option maxHeartbeats 6400000 in
theorem l9Did_7 (v : Value) (bks : List Pk) (nm ot : ByteArray) (at_ va ep : Int) (told : Int) (w : World) (hn : nm.size ≤ maxLen) (ho : ot.size ≤ maxLen) (hr : ∀ b ∈ bks, b.rs.length ≤ 1048576) (hpo : plainsOk (bks.map Pk.pv) = true) (r : ReadsK w.heap.size w v bks) (hok : opOk ⟨7, nm, ot, at_, va, ep⟩ = true) (href : refused ((bks.map Pk.pv).map Pv.pb) ⟨7, nm, ot, at_, va, ep⟩ = 0) :
    Calls Tryz.prog 43 #[v, .agg #[.int .i64 7, .string nm, .string ot, .int .i64 at_, .int .i64 va, .int .i64 ep], .int .i64 told] w (DoKP (bks.map Pk.pv) ⟨7, nm, ot, at_, va, ep⟩ told w) := by
  obtain ⟨i, hi, hfp, hpk, hpa, hpe⟩ := foundV (o := ⟨7, nm, ot, at_, va, ep⟩) hpo href (show (7 : Int) ≠ 1 by decide)
  simp only at hfp hpa hpe
  have hib : i < bks.length := by rw [List.length_map] at hi; exact hi
  have hpp := pv_parts hpk
  have hva := (op_parts hok).2.2.2.2.1 rfl
  simp only at hva
  obtain ⟨N, rfl⟩ := Int.eq_ofNat_of_zero_le (show 0 ≤ va by omega)
  have hN : N ≤ 16 := by omega
  have HDO : Hid (doPlain (bks.map Pk.pv) ⟨7, nm, ot, at_, (N : Int), ep⟩ told = ((bks.map Pk.pv).set i { (bks.map Pk.pv)[i] with sz := (N : Int), vs := ((bks.map Pk.pv)[i].vs ++ List.replicate 16 0).take N }, (0, 0))) := doPlain_one hi hok href (by simp) (show (7 : Int) ≠ 1 ∧ (7 : Int) ≠ 6 ∧ kOther 7 = false by decide) hfp
  obtain ⟨j0, hj0, hz0, hz1, hz2⟩ := info_parts Tryz.infoI64
  obtain ⟨ov, cv, hvf⟩ := r.row.form
  subst hvf
  have hfew : bks.length ≤ 6 := by have := (plains_ok hpo).1; rwa [List.length_map] at this
  obtain ⟨W0, hW0, k0, k1, d0, z0⟩ := box2 w #[.int .i64 7, .string nm, .string ot, .int .i64 at_, .int .i64 (N : Int), .int .i64 ep] #[.int .i64 0, .int .i64 0] 26 30
  have HW0 : Hid (W0 = _) := hW0
  have r0 := (r.below d0).mono d0.size
  clear hW0 z0 r
  go_enter Tryz.func43, Tryz.ntmps43
  go_upto_region 1 with fail
  rw [← HW0.out]
  clear HW0
  go_wp2_with fail
  refine (l9Copy_any _ bks _ (by omega) hr r0).mono ?_
  rintro e w1 ⟨v8, ms, rfl, hpv, own, ap, hnil, b1⟩
  have own0 := own.mono d0.size
  clear own
  replace k0 := (b1.block _ (heap_lt k0)).trans k0
  replace k1 := (b1.block _ (heap_lt k1)).trans k1
  replace d0 := bw_call d0 b1
  replace r0 := (r0.below b1).mono b1.size
  have HPV : Hid (ms.map Pk.pv = bks.map Pk.pv) := hpv
  have hml1 : ms.length ≤ bks.length := by have := congrArg List.length hpv; simp at this; omega
  have hml2 : bks.length ≤ ms.length := by have := congrArg List.length hpv; simp at this; omega
  clear b1 hpv
  have p0 := at_cell k0 0
  have p1 := at_cell k0 1
  have p2 := at_cell k0 2
  have p3 := at_cell k0 3
  have p4 := at_cell k0 4
  have p5 := at_cell k0 5
  go_wp2_with fail
  clear p0 p1 p2 p3 p4 p5
  refine (specOpOk_any 7 nm ot at_ (N : Int) ep _ hn ho).mono ?_
  rw [hok]
  rintro e w2 ⟨rfl, b1⟩
  replace k0 := (b1.block _ (heap_lt k0)).trans k0
  replace k1 := (b1.block _ (heap_lt k1)).trans k1
  replace d0 := bw_call d0 b1
  replace r0 := (r0.below b1).mono b1.size
  replace own0 := own0.below b1
  clear b1
  obtain ⟨o8, c8, rfl⟩ := own_slice own0.row
  go_wp2_with fail
  refine (l9Books_any _ bks _ (by omega) r0).mono ?_
  rintro e w3 ⟨v9, bs, rfl, hbs, ob, hnil9, b1⟩
  replace k0 := (b1.block _ (heap_lt k0)).trans k0
  replace k1 := (b1.block _ (heap_lt k1)).trans k1
  replace d0 := bw_call d0 b1
  replace own0 := own0.below b1
  have rb : ReadsR 5 bookC w3.heap.size w3 v9 bs := ReadsR.of_own bookC_len ob.row
  have hfm : ∀ b ∈ bs, ∃ o k cp, b.m = .slice o k cp := fun b hb => by obtain ⟨o, cp, e⟩ := own_slice (ob.maps b hb); exact ⟨o, _, cp, e⟩
  obtain ⟨o9, c9, h9⟩ := rb.form
  subst h9
  clear b1 r0 ob
  have p0 := at_cell k0 0
  have p1 := at_cell k0 1
  have p2 := at_cell k0 2
  have p3 := at_cell k0 3
  have p4 := at_cell k0 4
  have p5 := at_cell k0 5
  go_wp2_with fail
  clear p0 p1 p2 p3 p4 p5
  refine (l8Refused_any _ bs 7 nm ot at_ (N : Int) ep _ (by omega) rb hfm).mono ?_
  rw [hbs, href]
  rintro e w4 ⟨rfl, b1⟩
  replace k0 := (b1.block _ (heap_lt k0)).trans k0
  replace k1 := (b1.block _ (heap_lt k1)).trans k1
  replace d0 := bw_call d0 b1
  replace own0 := own0.below b1
  replace rb := (rb.below b1).mono b1.size
  clear b1 hfm
  have p1 := at_cell k0 1
  have p0 := at_cell k0 0
  have hfb : findB bs nm = i := by rw [← findP_map, hbs]; exact hfp
  go_wp2_with fail
  clear p0 p1
  refine (specFindBook_any _ bs nm _ rb).mono ?_
  rw [hfb]
  rintro e w5 ⟨rfl, rfl⟩
  clear rb hfb
  have hims : i < ms.length := by omega
  obtain ⟨⟨xn, xz, xm, xr, xf, xe⟩, hX⟩ : ∃ X : Pk, ms[i] = X := ⟨_, rfl⟩
  have HX : Hid (ms[i] = ⟨xn, xz, xm, xr, xf, xe⟩) := hX
  have HMI : Hid ((bks.map Pk.pv)[i] = ⟨xn, xz, xr, xf, xe⟩) := by
    have h := HPV.out
    have h2 : ms[i].pv = (bks.map Pk.pv)[i] := by simp [← h]
    rw [Hid, ← h2, hX]
    rfl
  have owm : w5.ownsRow w.heap.size 2 1 xm xr.length (xr.flatMap intC) := by have h := own0.maps ms[i] (List.getElem_mem hims); rw [hX] at h; exact h
  clear hX
  obtain ⟨g8, hg8⟩ : ∃ g8, o8 = some ⟨g8, 0, none⟩ := by
    rcases own0.row.2 with ⟨_, h0⟩ | ⟨g, cap', cur, e, _⟩
    · omega
    · simp only [Value.slice.injEq] at e
      exact ⟨g, e.1⟩
  subst hg8
  have hvl : (xr.length : Int) = xz := by have h1 := hpp.2.2; rw [HMI.out] at h1; exact h1
  have hxz : 1 ≤ xz ∧ xz ≤ 16 := by have h1 := hpp.1; rw [HMI.out] at h1; exact h1
  have hxl : xr.length ≤ 16 := by omega
  have hx0 : 0 < xr.length := by omega
  have hxl2 : xr.length ≤ 1048576 := by omega
  clear hvl
  obtain ⟨om, cm, hmf⟩ := own_slice owm
  subst hmf
  obtain ⟨gm, hgm⟩ : ∃ gm, om = some ⟨gm, 0, none⟩ := by
    rcases owm.2 with ⟨_, h0⟩ | ⟨g, cap', cur, e, _⟩
    · omega
    · simp only [Value.slice.injEq] at e
      exact ⟨g, e.1⟩
  subst hgm
  obtain ⟨a2, b2⟩ := own_cell pkC_len own0.row i 2 _ (List.getElem?_eq_getElem hims) (by decide)
  have a2' : w5.cell? ⟨g8, i * 5 + 2, none⟩ = some (.slice (some ⟨gm, 0, none⟩) xr.length cm) := by rw [a2, HX.out]; rfl
  have i0 : (0 : Int) ≤ (i : Int) := by omega
  have i1 : (i : Int) < (ms.length : Int) := by omega
  have p0 := at_cell k0 0
  have hds := d0.size
  have RV : Reads w5.heap.size w5 (.slice (some ⟨gm, 0, none⟩) xr.length cm) (xr.map (Value.int .i64)) := by
    have h := Reads.of_own owm
    rw [ints_flat] at h
    exact h
  have HPW : Hid ((bks.map Pk.pv)[i] = ⟨xn, xz, xr, xf, xe⟩) := HMI.out
  have HL : Hid _ := And.intro own0.row.2 ap
  clear a2 b2 owm hpp hpa hpe hpk hbs hfp HMI ap
  go_wp2_with fail
  clear p0 a2'
  refine (l1Copy_any _ xr _ hxl2 RV).mono ?_
  rintro e w6 ⟨v6, rfl, ow6, hn6, b6⟩
  clear RV
  obtain ⟨o6, c6, rfl⟩ := own_slice ow6
  obtain ⟨g6, hg6⟩ : ∃ g6, o6 = some ⟨g6, 0, none⟩ := by
    rcases ow6.2 with ⟨_, h0⟩ | ⟨g, cap', cur, e, _⟩
    · omega
    · simp only [Value.slice.injEq] at e
      exact ⟨g, e.1⟩
  subst hg6
  obtain ⟨v7, w7, hrz, ow7, gr7⟩ := run_zeros_own (P := Tryz.prog) w6 w5.heap.size 37 3 2 j0 (.int .i64 0) 1 8 .i64 .i64 Tryz.underlying37 Tryz.underlying3 hj0 hz0 hz1 hz2 rfl (by decide) g6 xr.length c6 (xr.map (Value.int .i64)) ow6 16 (by decide) (by rw [zeros_i16]; intro u hu; obtain ⟨_, _, rfl⟩ := List.mem_map.1 hu; rfl) (by unfold maxLen; omega) (by omega) b6.size
  rw [zeros_i16, ← List.map_append] at ow7
  have B7 : Below w5.heap.size w5 w7 := b6.grown gr7 b6.size (fun z hz => by simp only [Option.some.injEq] at hz; subst hz; exact (ow6.lt g6 rfl).1)
  clear gr7 ow6 b6 hn6
  obtain ⟨o7, c7, hv7⟩ := own_slice ow7
  subst hv7
  have k07 := (B7.block _ (heap_lt k0)).trans k0
  have k17 := (B7.block _ (heap_lt k1)).trans k1
  have d7 := bw_call d0 B7
  have own7 := own0.below B7
  have RV7 : Reads w7.heap.size w7 (.slice o7 N c7) (((xr ++ List.replicate 16 0).take N).map (Value.int .i64)) := by
    have hlen : (xr ++ List.replicate 16 (0 : Int)).length = xr.length + 16 := by simp
    have h : ReadsR 1 intC w7.heap.size w7 (.slice o7 (xr.length + 16) c7) (xr ++ List.replicate 16 0) := ReadsR.of_own intC_len (by rw [ints_flat, hlen]; exact ow7)
    exact readsK_to (h.take N (by omega))
  have hc7 : xr.length + 16 ≤ c7 := by
    rcases ow7.2 with ⟨e, h⟩ | ⟨g', cap', cur, e, _, hh, h1, _⟩
    · omega
    · simp only [Value.slice.injEq] at e
      omega
  obtain ⟨ys, hys⟩ : ∃ ys, (xr ++ List.replicate 16 (0 : Int)).take N = ys := ⟨_, rfl⟩
  have HYS : Hid ((xr ++ List.replicate 16 (0 : Int)).take N = ys) := hys
  rw [hys] at RV7
  have hyl : ys.length ≤ 1048576 := by rw [← hys, List.length_take]; omega
  have j0' : (0 : Int) ≤ (N : Int) := by omega
  have j1' : (N : Int) ≤ (c7 : Int) := by omega
  have p4 := at_cell k07 4
  clear k0 k1 d0 own0 ow7 hys
  go_wp2_with (at_builtin; refine Lib.wpList_append_run _ rfl _ _ _ _ rfl _ _ rfl rfl _ _ (hrz _) ?_)
  clear p4 hrz
  refine (l1Copy_any _ ys _ hyl RV7).mono ?_
  rintro e w8 ⟨v8, rfl, ow8, hn8, b8⟩
  obtain ⟨oy, cy, hvy⟩ := own_slice ow8
  subst hvy
  have ow8' : w8.ownsRow w.heap.size 2 1 (.slice oy ys.length cy) ys.length (ys.flatMap intC) := by rw [ints_flat]; exact owns_mono ow8 d7.size
  have own8 := own7.below b8
  have k08 := (b8.block _ (heap_lt k07)).trans k07
  have k18 := (b8.block _ (heap_lt k17)).trans k17
  have d8 := bw_call d7 b8
  have l8 := own8.row.lt g8 rfl
  have n2 : w.heap.size ≠ g8 := fun e => own_not_box own8.row k08 (by decide) (by rw [e]; rfl)
  have n3 : w.heap.size + 1 ≠ g8 := fun e => own_not_box own8.row k18 (by decide) (by rw [e]; rfl)
  obtain ⟨owW, apW⟩ := own8.resize HL.out.2 hims HX.out (N : Int) (.slice oy ys.length cy) ys ow8' (fun m hm g hg e => by
    have h1 := ((own7.maps m hm).lt g hg).2
    have h2 := (ow8.lt g e).1
    omega)
  obtain ⟨a2, b2⟩ := own_cell pkC_len own8.row i 2 _ (List.getElem?_eq_getElem hims) (by decide)
  have uA : Upto g8 w8 (w8.setCell ⟨g8, i * 5 + 2, none⟩ (.slice oy ys.length cy)) := (Upto.refl _ _).setCell ⟨g8, i * 5 + 2, none⟩ (.inl rfl) _
  have uW : Upto g8 w8 ((w8.setCell ⟨g8, i * 5 + 2, none⟩ (.slice oy ys.length cy)).setCell ⟨g8, i * 5 + 1, none⟩ (.int .i64 (N : Int))) := uA.setCell ⟨g8, i * 5 + 1, none⟩ (.inl rfl) _
  have rowA := own_put pkC_len own8.row i 2 ms[i] ⟨xn, xz, (.slice oy ys.length cy), ys, xf, xe⟩ (.slice oy ys.length cy) (List.getElem?_eq_getElem hims) (by decide) (by rw [HX.out]; rfl)
  obtain ⟨a1, b1'⟩ := own_cell pkC_len rowA i 1 ⟨xn, xz, (.slice oy ys.length cy), ys, xf, xe⟩ (by simp [hims]) (by decide)
  have a1' : (w8.setCell ⟨g8, i * 5 + 2, none⟩ (.slice oy ys.length cy)).cell? ⟨g8, i * 5 + 1, none⟩ = some (.int .i64 xz) := a1
  clear a1
  have p4 := (uA.cell (p := ⟨w.heap.size, 4, none⟩) (heap_lt k08) n2).trans (at_cell k08 4)
  have k1W := (uW.block _ (heap_lt k18) n3).trans k18
  have dW := d8.trans (uW.toBelow d8.size l8.1)
  have HS : Hid _ := k_end (c := 0) (v := 0) k1W owW dW (Nat.le_succ _)
  have HAP : Hid _ := apW
  have HPZ : Hid ((ms.set i ⟨xn, (N : Int), (.slice oy ys.length cy), ys, xf, xe⟩).map Pk.pv = (bks.map Pk.pv).set i { (bks.map Pk.pv)[i] with sz := (N : Int), vs := ((bks.map Pk.pv)[i].vs ++ List.replicate 16 0).take N }) := by
    rw [Hid, List.map_set, HPV.out, HPW.out, ← HYS.out]
    rfl
  have q0 := at_cell k1W 0
  have q1 := at_cell k1W 1
  have f0 := at_open k1W 0
  have f1 := at_open k1W 1
  clear k07 k17 d7 own7 own8 k08 k18 d8 owW apW rowA uA uW k1W dW RV7 ow8 ow8' b8 B7 HL HX HYS
  go_wp2_with fail
  exact bodyPost_ret (v := .tuple #[.slice (some ⟨g8, 0, none⟩) ms.length c8, .agg #[.int .i64 0, .int .i64 0]]) (by simp [results, Tryz.results43, go_sem, at_cell HS.out.1]) rfl ⟨_, _, by rw [HDO.out], by rw [HDO.out]; exact HPZ.out, HS.out.2.1, HAP.out, HS.out.2.2⟩
end Go.Proofs.YtcefcglonooelaaGreatDoor

namespace Go.Proofs.YtcefcglonooelaaGreatDoor
open Go.RowKit

set_option linter.unusedVariables false

set_option maxRecDepth 100000


def droppedAllL (s : List Int × List Int) (l : List Int) : List Int × List Int := l.foldl (fun s p => (dropped s.1 s.2 p).1) s

theorem poolOk_of {n : Nat} {cs ps : List Int} (h : Cells n cs ps) (hn : 1 ≤ n ∧ n ≤ 24) (hb : ∀ k, k < n → 0 ≤ cs.getD k 0 ∧ cs.getD k 0 ≤ 400) : poolOk cs ps = true := by
  have hc := h.c
  have hp := h.p
  refine (poolOk_iff cs ps).2 ⟨by omega, by omega, by omega, fun j hj => (cellOk_iff _ _).2 ?_⟩
  have h1 := hb j (by omega)
  have h2 := h.val j (by omega)
  exact ⟨h1.1, h1.2, h2.1, h2.2.1, h2.2.2⟩

theorem dropped_one {n : Nat} {cs ps : List Int} (h : Cells n cs ps) (hn : 1 ≤ n ∧ n ≤ 24) (hb : ∀ k, k < n → 0 ≤ cs.getD k 0 ∧ cs.getD k 0 ≤ 400) (k : Nat) (hk : k < n) (h1 : 1 ≤ cs.getD k 0) : dropped cs ps (k : Int) = (dropOne (cs, ps) (k : Int), true) := by
  have hc := h.c
  have e : dropOne (cs, ps) (k : Int) = (cs.set k (cs.getD k 0 - 1), if cs.getD k 0 = 1 then ps.set k 0 else ps) := by
    rw [dropOne, if_pos (by omega : (0 : Int) ≤ (k : Int)), Int.toNat_natCast]
  rw [e, dropped, if_pos (poolOk_of h hn hb), countAt_of cs k (by omega), if_pos h1, Int.toNat_natCast]

theorem droppedAll_link {n : Nat} (hn : 1 ≤ n ∧ n ≤ 24) (l : List Int) : ∀ {cs ps : List Int}, Cells n cs ps → (∀ k, k < n → 0 ≤ cs.getD k 0 ∧ cs.getD k 0 ≤ 400) → (∀ p ∈ l, 0 ≤ p ∧ p < n) → (∀ k, k < n → (l.count (k : Int) : Int) ≤ cs.getD k 0) → droppedAllL (cs, ps) l = dropAll (cs, ps) l := by
  induction l with
  | nil => intro cs ps _ _ _ _; rfl
  | cons p t ih =>
    intro cs ps h hb hp hc
    obtain ⟨h0, hm⟩ := hp p (List.mem_cons_self ..)
    obtain ⟨m, rfl⟩ := Int.eq_ofNat_of_zero_le h0
    have hm' : m < n := by omega
    have h1 : 1 ≤ cs.getD m 0 := by
      have := hc m hm'
      rw [List.count_cons_self] at this
      omega
    obtain ⟨c1, g1⟩ := dropOne_ok h m hm' h1
    show droppedAllL (dropped cs ps (m : Int)).1 t = dropAll (dropOne (cs, ps) (m : Int)) t
    rw [dropped_one h hn hb m hm' h1]
    show droppedAllL ((dropOne (cs, ps) (m : Int)).1, (dropOne (cs, ps) (m : Int)).2) t = dropAll ((dropOne (cs, ps) (m : Int)).1, (dropOne (cs, ps) (m : Int)).2) t
    refine ih c1 (fun k hk => ?_) (fun q hq => hp q (List.mem_cons_of_mem _ hq)) (fun k hk => ?_)
    · have := hb k hk
      rw [g1]
      split
      · rename_i e; subst e; omega
      · exact this
    · have := hc k hk
      rw [List.count_cons] at this
      rw [g1]
      by_cases ek : m = k
      · subst ek; rw [if_pos rfl]; rw [beq_self_eq_true, if_pos rfl] at this; omega
      · rw [if_neg ek]
        have hne : ((m : Int) == (k : Int)) = false := by rw [beq_eq_false_iff_ne]; omega
        rw [hne, if_neg (by decide)] at this
        omega

theorem dropAll_filter (l : List Int) : ∀ s : List Int × List Int, dropAll s (l.filter (fun p => decide (0 ≤ p))) = dropAll s l := by
  induction l with
  | nil => intro s; rfl
  | cons p t ih =>
    intro s
    by_cases h0 : 0 ≤ p
    · rw [List.filter_cons_of_pos (by simpa using h0)]
      exact ih (dropOne s p)
    · rw [List.filter_cons_of_neg (by simpa using h0)]
      have e : dropAll s (p :: t) = dropAll (dropOne s p) t := rfl
      rw [e, ih, dropOne, if_neg h0]

/-! ### A right shelf's pool -/
theorem ShInv.bound {s : Sf} (h : ShInv s) : ∀ k, k < s.cs.length → 0 ≤ s.cs.getD k 0 ∧ s.cs.getD k 0 ≤ 96 := fun k hk => by
  rw [h.cnt k hk]
  have h5 := cntAll_le s.bs (k : Int)
  have h6 := cntAll_nonneg s.bs (k : Int)
  have h7 := h.few
  omega

theorem ShInv.bound4 {s : Sf} (h : ShInv s) : ∀ k, k < s.cs.length → 0 ≤ s.cs.getD k 0 ∧ s.cs.getD k 0 ≤ 400 := fun k hk => by
  have := h.bound k hk
  omega

theorem ShInv.mapOk {s : Sf} (h : ShInv s) (i : Nat) (hi : i < s.bs.length) : mapOk s.bs[i].rs = true := (book_parts (h.oks _ (List.getElem_mem hi))).2.2.2.1

/-- The pages of a book in the order of its places, from a place on. -/
theorem ShInv.part {s : Sf} (h : ShInv s) (i : Nat) (hi : i < s.bs.length) (n : Nat) : droppedAllL (s.cs, s.ps) (((pages s.bs[i].rs).drop n).filter (fun p => decide (0 ≤ p))) = dropAll (s.cs, s.ps) ((pages s.bs[i].rs).drop n) := by
  have hcn := h.cells.c
  rw [droppedAll_link h.n1 _ h.cells h.bound4 (fun p hp => ?_) (fun k hk => ?_), dropAll_filter]
  · obtain ⟨h1, h2⟩ := List.mem_filter.1 hp
    have h3 : 0 ≤ p := by simpa using h2
    exact ⟨h3, (h.page i hi p (List.mem_of_mem_drop h1) h3).1⟩
  · have h1 := cnt_le_cs h i hi k hk
    unfold Pb.cnt at h1
    have h2 := (List.drop_sublist n (pages s.bs[i].rs)).count_le (k : Int)
    have h3 := ((List.filter_sublist (l := (pages s.bs[i].rs).drop n) (p := fun p => decide (0 ≤ p))).count_le (k : Int))
    omega

theorem ShInv.whole {s : Sf} (h : ShInv s) (i : Nat) (hi : i < s.bs.length) : droppedAllL (s.cs, s.ps) (pagesOf s.bs[i].rs) = dropAll (s.cs, s.ps) ((pages s.bs[i].rs).drop 0) := by
  rw [← h.part i hi 0, List.drop_zero, pagesOf, if_pos (h.mapOk i hi)]

/-! ### Kind by kind -/
structure OpIn (s : Sf) (o : Oq) (i : Nat) : Prop where
  inv : ShInv s
  ok : opOk o = true
  ref : refused s.bs o = 0
  lt : i < s.bs.length
  at_ : findP s.bs o.nm = i

theorem OpIn.book {s : Sf} {o : Oq} {i : Nat} (h : OpIn s o i) : bookAt s.bs (findP s.bs o.nm) = s.bs[i]'h.lt := by rw [h.at_, bookAt_of s.bs i h.lt]

theorem OpIn.place {s : Sf} {o : Oq} {i : Nat} (h : OpIn s o i) (h1 : o.k ≠ 1) (ha : kAt o.k = true) : (0 ≤ o.at_ ∧ o.at_ < 16) ∧ o.at_ < (s.bs[i]'h.lt).sz := by
  have h2 := (refused_parts h.ref).2.2.2.1 h1 ha
  rw [h.book] at h2
  have h3 := (book_parts (h.inv.oks _ (List.getElem_mem h.lt))).2.1
  have h4 := (op_parts h.ok).2.2.2.1
  omega
end Go.Proofs.YtcefcglonooelaaGreatDoor

namespace Go.Proofs.YtcefcglonooelaaGreatDoor
open Go.RowKit

set_option linter.unusedVariables false

set_option maxRecDepth 100000


/-! ### Plain -/
def cmpI (a b : ByteArray) : Int := Lib.compareBytes a.data.toList b.data.toList

theorem cmp_less : ∀ (x y : List UInt8), Lib.compareBytes x y < 0 ↔ Op.bytesLess x y = true := by
  intro x
  induction x with
  | nil =>
    intro y
    cases y with
    | nil => simp [Lib.compareBytes, Op.bytesLess]
    | cons b u => simp [Lib.compareBytes, Op.bytesLess]
  | cons a t ih =>
    intro y
    cases y with
    | nil => simp [Lib.compareBytes, Op.bytesLess]
    | cons b u =>
      simp only [Lib.compareBytes, Op.bytesLess, Bool.or_eq_true, decide_eq_true_eq, Bool.and_eq_true, beq_iff_eq]
      by_cases h1 : a < b
      · simp [h1]
      · by_cases h2 : b < a
        · have hne : a ≠ b := fun e => by subst e; exact UInt8.lt_irrefl a h2
          simp [h1, h2, hne]
        · have he : a = b := UInt8.le_antisymm (UInt8.not_lt.1 h2) (UInt8.not_lt.1 h1)
          subst he
          simp [ih u]

theorem cmpI_neg (a b : ByteArray) : cmpI a b < 0 ↔ ltB a b = true := by
  rw [cmpI, cmp_less, ltB, ByteArray.toList_eq, ByteArray.toList_eq]

/-! ### Texts held against one another -/
set_option maxHeartbeats 1000000 in
theorem cmpString_any (a b : ByteArray) (w : World) :
    Calls Tryz.prog 174 #[.string a, .string b] w fun e w' => e = .returned (.int .i64 (cmpI a b)) ∧ w' = w := by
  go_enter Tryz.func174, Tryz.ntmps174
  go_wp2
  rw [run_callFunc_extern Tryz.func180 (by kernel_rfl) (by kernel_rfl) (by kernel_rfl) (e := Extern.BytealgCompare.compare) (by kernel_rfl), Lib.run_compareString]
  simp only [Result.andThen]
  rw [Oper.upon_value]
  go_wp2
  go_ret
  exact ⟨rfl, rfl⟩

theorem compare_any (a b : ByteArray) (w : World) :
    Calls Tryz.prog 157 #[.string a, .string b] w fun e w' => e = .returned (.int .i64 (cmpI a b)) ∧ w' = w := by
  go_enter Tryz.func157, Tryz.ntmps157
  go_wp2_with (go_at_call 174; refine (cmpString_any _ _ _).mono ?_; rintro e w' ⟨rfl, rfl⟩)
  go_ret
  exact ⟨rfl, rfl⟩

theorem len64_any (n : Nat) (h : n ≤ 7) (w : World) :
    Calls Tryz.prog 173 #[.int .u64 n] w fun e w' => ∃ r : Int, e = .returned (.int .i64 r) ∧ w' = w := by
  have hn : n = 0 ∨ n = 1 ∨ n = 2 ∨ n = 3 ∨ n = 4 ∨ n = 5 ∨ n = 6 ∨ n = 7 := by omega
  rcases hn with rfl | rfl | rfl | rfl | rfl | rfl | rfl | rfl
  all_goals
    go_enter Tryz.func173, Tryz.ntmps173
    go_wp2
    go_ret
    exact ⟨_, rfl, rfl⟩

theorem len_any (n : Nat) (h : n ≤ 7) (w : World) :
    Calls Tryz.prog 156 #[.int .u64 n] w fun e w' => ∃ r : Int, e = .returned (.int .i64 r) ∧ w' = w := by
  go_enter Tryz.func156, Tryz.ntmps156
  go_wp2_with fail
  refine (len64_any n h _).mono ?_
  rintro e w' ⟨r, rfl, rfl⟩
  go_wp2_with fail
  go_ret
  exact ⟨r, rfl, rfl⟩
end Go.Proofs.YtcefcglonooelaaGreatDoor

namespace Go.Proofs.YtcefcglonooelaaGreatDoor
open Go.RowKit

set_option linter.unusedVariables false

set_option maxRecDepth 100000

theorem new_names {bks : List Bk} {n : ByteArray} (h : findP (bks.map Bk.pb) n < 0) : ∀ x ∈ bks, x.nm ≠ n := fun x hx => find_not (bks.map Bk.pb) n h x.pb (List.mem_map_of_mem hx)
end Go.Proofs.YtcefcglonooelaaGreatDoor

