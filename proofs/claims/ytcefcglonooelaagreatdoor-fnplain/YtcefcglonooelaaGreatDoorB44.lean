/-
  Contracts and plain laws, one chapter behind the other.
-/
import Derived.Deep.DeepCutAuto
import Derived.Deep.RegionHeld3
import Derived.Test.YtcefcglonooelaaGreatDoorB07
import Derived.Test.YtcefcglonooelaaGreatDoorB23
import Derived.Test.YtcefcglonooelaaGreatDoorB36
import Derived.Test.YtcefcglonooelaaGreatDoorB41
import Derived.Test.YtcefcglonooelaaGreatDoorB43
namespace Go.Proofs.YtcefcglonooelaaGreatDoor
open Go.RowKit

set_option linter.unusedVariables false


/-- What DidPlain leaves behind. -/
def DidKP (l : List Pv) (o : Oq) (told : Int) (w : World) (e : Ending) (w' : World) : Prop :=
  ∃ (v' : Value) (ms : List Pk), e = .returned (.tuple #[v', .agg #[.int .i64 (didPlain l o told).2.1, .int .i64 (didPlain l o told).2.2]]) ∧ ms.map Pk.pv = (didPlain l o told).1 ∧ OwnK w.heap.size w' v' ms ∧ ApartK ms ∧ Below w.heap.size w w'

set_option maxRecDepth 100000 in
set_option maxHeartbeats 3200000 in
theorem specDidPlain_any (v : Value) (bks : List Pk) (k : Int) (nm ot : ByteArray) (at_ va ep told : Int) (w : World) (hnb : ∀ b ∈ bks, b.nm.size ≤ maxLen) (hn : nm.size ≤ maxLen) (ho : ot.size ≤ maxLen) (r : ReadsK w.heap.size w v bks) :
    Calls Tryz.prog 11 #[v, .agg #[.int .i64 k, .string nm, .string ot, .int .i64 at_, .int .i64 va, .int .i64 ep], .int .i64 told] w (DidKP (bks.map Pk.pv) ⟨k, nm, ot, at_, va, ep⟩ told w) := by
  obtain ⟨ov, cv, hvf⟩ := r.row.form
  subst hvf
  obtain ⟨W0, hW0, k0, k1, d0, z0⟩ := box2 w #[.int .i64 k, .string nm, .string ot, .int .i64 at_, .int .i64 va, .int .i64 ep] #[.int .i64 0, .int .i64 0] 26 30
  have HW0 : Hid (W0 = _) := hW0
  have r0 := (r.below d0).mono d0.size
  clear hW0 z0 r
  go_enter Tryz.func11, Tryz.ntmps11
  go_upto_region 1 with fail
  rw [← HW0.out]
  clear HW0
  go_wp2_with fail
  refine (specPlainsOk_any _ bks _ hnb r0).mono ?_
  rintro e w1 ⟨rfl, b1⟩
  replace k0 := (b1.block _ (heap_lt k0)).trans k0
  replace k1 := (b1.block _ (heap_lt k1)).trans k1
  replace d0 := bw_call d0 b1
  replace r0 := (r0.below b1).mono b1.size
  clear b1
  cases hpo : plainsOk (bks.map Pk.pv)
  · have HD : Hid (didPlain (bks.map Pk.pv) ⟨k, nm, ot, at_, va, ep⟩ told = ([], (1, 0))) := by rw [Hid, didPlain, if_neg (by rw [hpo]; decide)]
    have own1 : OwnK w.heap.size (w1.alloc (.cells #[] 51)) (.slice (some ⟨w1.heap.size, 0, none⟩) 0 0) [] := ⟨owns_mono (own_noplains w1) d0.size, fun b hb => by cases hb⟩
    have bA : Below w1.heap.size w1 (w1.alloc (.cells #[] 51)) := bw_alloc (Below.refl _ _)
    have kA := (bA.block _ (heap_lt k1)).trans k1
    have HS : Hid _ := k_end (c := 1) (v := 0) kA own1 (bw_call d0 bA) (Nat.le_succ _)
    have q0 := at_cell kA 0
    have q1 := at_cell kA 1
    have f0 := at_open kA 0
    have f1 := at_open kA 1
    have q0' := at_cell k1 0
    have q1' := at_cell k1 1
    have f0' := at_open k1 0
    have f1' := at_open k1 1
    clear k0 k1 d0 r0 own1 bA kA hpo
    go_wp2_with fail
    exact bodyPost_ret (v := .tuple #[.slice (some ⟨w1.heap.size, 0, none⟩) 0 0, .agg #[.int .i64 1, .int .i64 0]]) (by simp [results, Tryz.results11, go_sem, at_cell HS.out.1]) rfl ⟨_, [], by rw [HD.out], by rw [HD.out]; rfl, HS.out.2.1, List.Pairwise.nil, HS.out.2.2⟩
  · have HD : Hid (didPlain (bks.map Pk.pv) ⟨k, nm, ot, at_, va, ep⟩ told = doPlain (bks.map Pk.pv) ⟨k, nm, ot, at_, va, ep⟩ told) := by rw [Hid, didPlain, if_pos hpo]
    have hr : ∀ b ∈ bks, b.rs.length ≤ 1048576 := fun b hb => by
      have h := pv_parts ((plains_ok hpo).2 b.pv (List.mem_map_of_mem hb))
      have h1 : (b.rs.length : Int) = b.sz := h.2.2
      have h2 : 1 ≤ b.sz ∧ b.sz ≤ 16 := h.1
      omega
    have HPO : Hid (plainsOk (bks.map Pk.pv) = true) := hpo
    have c0 := at_cell k0 0
    have c1 := at_cell k0 1
    have c2 := at_cell k0 2
    have c3 := at_cell k0 3
    have c4 := at_cell k0 4
    have c5 := at_cell k0 5
    clear hpo
    go_wp2_with fail
    clear c0 c1 c2 c3 c4 c5
    refine (l9Did_any _ bks k nm ot at_ va ep told _ hn ho hr HPO.out r0).mono ?_
    rintro e w2 ⟨v2, ms, rfl, hpv, own, ap, b2⟩
    obtain ⟨⟨l', c', v'⟩, hdo⟩ : ∃ x, doPlain (bks.map Pk.pv) ⟨k, nm, ot, at_, va, ep⟩ told = x := ⟨_, rfl⟩
    rw [hdo] at HD hpv
    rw [hdo]
    simp only at hpv ⊢
    have k2 := (b2.block _ (heap_lt k1)).trans k1
    have HS : Hid _ := k_end (c := c') (v := v') k2 (own.mono d0.size) (bw_call d0 b2) (Nat.le_succ _)
    have HPV : Hid _ := And.intro hpv ap
    have q0 := at_cell k2 0
    have q1 := at_cell k2 1
    have f0 := at_open k2 0
    have f1 := at_open k2 1
    clear k0 k1 k2 d0 r0 own ap b2 hdo hpv
    go_wp2_with fail
    exact bodyPost_ret (v := .tuple #[v2, .agg #[.int .i64 c', .int .i64 v']]) (by simp [results, Tryz.results11, go_sem, at_cell HS.out.1]) rfl ⟨_, ms, by rw [HD.out], by rw [HD.out]; exact HPV.out.1, HS.out.2.1, HPV.out.2, HS.out.2.2⟩
end Go.Proofs.YtcefcglonooelaaGreatDoor

namespace Go.Proofs.YtcefcglonooelaaGreatDoor
open Go.RowKit

set_option linter.unusedVariables false


set_option maxRecDepth 100000 in
set_option maxHeartbeats 6400000 in
theorem implDidPlain_any (v : Value) (bks : List Pk) (k : Int) (nm ot : ByteArray) (at_ va ep told : Int) (w : World) (ad : Nat → Addr) (hv : Vars w ad) (hnb : ∀ b ∈ bks, b.nm.size ≤ maxLen) (hn : nm.size ≤ maxLen) (hot : ot.size ≤ maxLen) (fk : I64 k) (fa : I64 at_) (fv : I64 va) (fe : I64 ep) (r : ReadsK w.heap.size w v bks) :
    Calls Tryz.prog 9 #[v, .agg #[.int .i64 k, .string nm, .string ot, .int .i64 at_, .int .i64 va, .int .i64 ep], .int .i64 told] w (DidKP (bks.map Pk.pv) ⟨k, nm, ot, at_, va, ep⟩ told w) := by
  obtain ⟨ov, cv, hvf⟩ := r.row.form
  subst hvf
  obtain ⟨W0, hW0, k0, k1, d0, z0⟩ := box2 w #[.int .i64 k, .string nm, .string ot, .int .i64 at_, .int .i64 va, .int .i64 ep] #[.int .i64 0, .int .i64 0] 26 30
  have HW0 : Hid (W0 = _) := hW0
  have r0 := (r.below d0).mono d0.size
  have hv0 := hv.below d0
  clear hW0 z0 r hv
  go_enter Tryz.func9, Tryz.ntmps9
  go_upto_region 1 with fail
  rw [← HW0.out]
  clear HW0
  go_wp2_with fail
  refine (implPlainsOk_any _ bks _ hnb r0).mono ?_
  rintro e w1 ⟨rfl, b1⟩
  replace k0 := (b1.block _ (heap_lt k0)).trans k0
  replace k1 := (b1.block _ (heap_lt k1)).trans k1
  replace d0 := bw_call d0 b1
  replace r0 := (r0.below b1).mono b1.size
  replace hv0 := hv0.below b1
  clear b1
  cases hpo : plainsOk (bks.map Pk.pv)
  · have HD : Hid (didPlain (bks.map Pk.pv) ⟨k, nm, ot, at_, va, ep⟩ told = ([], (1, 0))) := by rw [Hid, didPlain, if_neg (by rw [hpo]; decide)]
    have own1 : OwnK w.heap.size (w1.alloc (.cells #[] 51)) (.slice (some ⟨w1.heap.size, 0, none⟩) 0 0) [] := ⟨owns_mono (own_noplains w1) d0.size, fun b hb => by cases hb⟩
    have bA : Below w1.heap.size w1 (w1.alloc (.cells #[] 51)) := bw_alloc (Below.refl _ _)
    have kA := (bA.block _ (heap_lt k1)).trans k1
    have HS : Hid _ := k_end (c := 1) (v := 0) kA own1 (bw_call d0 bA) (Nat.le_succ _)
    have q0 := at_cell kA 0
    have q1 := at_cell kA 1
    have f0 := at_open kA 0
    have f1 := at_open kA 1
    have q0' := at_cell k1 0
    have q1' := at_cell k1 1
    have f0' := at_open k1 0
    have f1' := at_open k1 1
    clear k0 k1 d0 r0 own1 bA kA hpo hv0
    go_wp2_with fail
    exact bodyPost_ret (v := .tuple #[.slice (some ⟨w1.heap.size, 0, none⟩) 0 0, .agg #[.int .i64 1, .int .i64 0]]) (by simp [results, Tryz.results9, go_sem, at_cell HS.out.1]) rfl ⟨_, [], by rw [HD.out], by rw [HD.out]; rfl, HS.out.2.1, List.Pairwise.nil, HS.out.2.2⟩
  · have HD0 : Hid (didPlain (bks.map Pk.pv) ⟨k, nm, ot, at_, va, ep⟩ told = doPlain (bks.map Pk.pv) ⟨k, nm, ot, at_, va, ep⟩ told) := by rw [Hid, didPlain, if_pos hpo]
    have HPO : Hid (plainsOk (bks.map Pk.pv) = true) := hpo
    have hfew : bks.length ≤ 6 := by have := (plains_ok hpo).1; rwa [List.length_map] at this
    have HPT : Hid (∀ b ∈ bks, b.rs.length ≤ 1048576 ∧ b.ep ≤ 1000 ∧ b.nm.size ≤ 1099511627776) := fun b hb => by
      have h0 := (plains_ok hpo).2 b.pv (List.mem_map_of_mem hb)
      have h := pv_parts h0
      have h1 : (b.rs.length : Int) = b.sz := h.2.2
      have h2 : 1 ≤ b.sz ∧ b.sz ≤ 16 := h.1
      have h3 : 0 ≤ b.ep ∧ b.ep ≤ 1000 := h.2.1
      have h4 : Nums.nameB b.nm.data.toList = true := by
        simp only [Pv.ok, plainOk, Bool.and_eq_true] at h0
        exact h0.1.1.1.2
      have h5 := (nameB_size _ h4).2
      exact ⟨by omega, by omega, by omega⟩
    have c0 := at_cell k0 0
    have c1 := at_cell k0 1
    have c2 := at_cell k0 2
    have c3 := at_cell k0 3
    have c4 := at_cell k0 4
    have c5 := at_cell k0 5
    clear hpo
    go_wp2_with fail
    clear c0 c1 c2 c3 c4 c5
    refine (refusedPlain_any _ bks k nm ot at_ va ep told _ ad hv0 hn hot fk fa fv fe hfew (fun b hb => (HPT.out b hb).2.1) r0).mono ?_
    rintro e w2 ⟨rfl, b1⟩
    replace k0 := (b1.block _ (heap_lt k0)).trans k0
    replace k1 := (b1.block _ (heap_lt k1)).trans k1
    replace d0 := bw_call d0 b1
    replace r0 := (r0.below b1).mono b1.size
    replace hv0 := hv0.below b1
    clear b1
    obtain ⟨C, hC⟩ : ∃ C, plCode (bks.map Pk.pv) ⟨k, nm, ot, at_, va, ep⟩ told = C := ⟨_, rfl⟩
    have HC : Hid (plCode (bks.map Pk.pv) ⟨k, nm, ot, at_, va, ep⟩ told = C) := hC
    have hrg := plCode_range (bks.map Pk.pv) ⟨k, nm, ot, at_, va, ep⟩ told
    rw [hC] at hrg ⊢
    clear hC
    by_cases h0 : C = 0
    · subst h0
      obtain ⟨hok, href, hful⟩ := plCode_zero HC.out
      rw [show refErr ad 0 = .nilIface from rfl]
      have HOK : Hid _ := And.intro hok (And.intro href hful)
      clear hok href hful hrg
      have HOWN : Hid (∀ (X : World), Below w2.heap.size w2 X → Calls Tryz.prog 38 #[.slice ov bks.length cv] X fun e w' => ∃ (g cp : Nat) (ms : List Pk), e = .returned (.slice (some ⟨g, 0, none⟩) ms.length cp) ∧ ms.map Pk.pv = bks.map Pk.pv ∧ OwnK X.heap.size w' (.slice (some ⟨g, 0, none⟩) ms.length cp) ms ∧ ApartK ms ∧ Below X.heap.size X w') := fun X hb => ownPlains_any _ bks X hfew (fun b hb => (HPT.out b hb).2.2) (fun b hb => (HPT.out b hb).1) ((r0.below hb).mono hb.size)
      obtain ⟨D, hDD⟩ : ∃ D, doPlain (bks.map Pk.pv) ⟨k, nm, ot, at_, va, ep⟩ told = D := ⟨_, rfl⟩
      have HCH : Hid (∀ (X Y : World) (g cp : Nat) (ms : List Pk), Below w2.heap.size w2 X → Below X.heap.size X Y → ms.map Pk.pv = bks.map Pk.pv → OwnK X.heap.size Y (.slice (some ⟨g, 0, none⟩) ms.length cp) ms → ApartK ms → Calls Tryz.prog 40 #[.slice (some ⟨g, 0, none⟩) ms.length cp, .agg #[.int .i64 k, .string nm, .string ot, .int .i64 at_, .int .i64 va, .int .i64 ep]] Y (ChK X.heap.size D Y)) := fun X Y g cp ms h1 h2 hpv own ap => by
        have h := changedPlains_any X.heap.size g cp ms k nm ot at_ va ep told Y h2.size (by rw [hpv]; exact HPO.out) HOK.out.1 (by rw [hpv]; exact HOK.out.2.1) HOK.out.2.2 own ap
        rw [hpv, hDD] at h
        exact h
      have HD : Hid (didPlain (bks.map Pk.pv) ⟨k, nm, ot, at_, va, ep⟩ told = D) := HD0.out.trans hDD
      have HDC : Hid (D.2.1 = 0) := by
        rw [Hid, ← hDD]
        exact doPlain_ok HOK.out.1 HOK.out.2.1 HOK.out.2.2
      clear hDD
      go_upto_region 6 with fail
      go_cut [9, 10] (fun va vb wx => ∃ (v' : Value) (ms' : List Pk), va = v' ∧ vb = .int .i64 D.2.2 ∧ ms'.map Pk.pv = D.1 ∧ OwnK w2.heap.size wx v' ms' ∧ ApartK ms' ∧ Below w2.heap.size w2 wx)
      case first =>
        have HKeep : ∀ X, Below w2.heap.size w2 X → (Below w2.heap.size w2 X ∧ X.cell? ⟨w.heap.size, 0, none⟩ = some (.int .i64 k) ∧ X.cell? ⟨w.heap.size, 1, none⟩ = some (.string nm) ∧ X.cell? ⟨w.heap.size, 2, none⟩ = some (.string ot) ∧ X.cell? ⟨w.heap.size, 3, none⟩ = some (.int .i64 at_) ∧ X.cell? ⟨w.heap.size, 4, none⟩ = some (.int .i64 va) ∧ X.cell? ⟨w.heap.size, 5, none⟩ = some (.int .i64 ep)) := fun X hb => by
          have x2 := (hb.block _ (heap_lt k0)).trans k0
          exact ⟨hb, at_cell x2 0, at_cell x2 1, at_cell x2 2, at_cell x2 3, at_cell x2 4, at_cell x2 5⟩
        have A1 : Below w2.heap.size w2 w2.drew := bw_drew (Below.refl _ _)
        go_region_held3 (fun X => Below w2.heap.size w2 X ∧ X.cell? ⟨w.heap.size, 0, none⟩ = some (.int .i64 k) ∧ X.cell? ⟨w.heap.size, 1, none⟩ = some (.string nm) ∧ X.cell? ⟨w.heap.size, 2, none⟩ = some (.string ot) ∧ X.cell? ⟨w.heap.size, 3, none⟩ = some (.int .i64 at_) ∧ X.cell? ⟨w.heap.size, 4, none⟩ = some (.int .i64 va) ∧ X.cell? ⟨w.heap.size, 5, none⟩ = some (.int .i64 ep))
          ((refine HKeep _ ?_; repeat (first | exact Below.refl _ _ | exact A3 | exact A4 | refine bw_drew ?_)))
          ((first
            | (go_at_call 38; refine (HOWN.out _ A1).mono ?_; rintro e w5 ⟨g5, c5, ms5, rfl, hpv5, own5, ap5, b5⟩; have HPV5 : Hid _ := hpv5; clear hpv5; have A3 : Below w2.heap.size w2 w5 := bw_call A1 b5; skip)
            | (go_at_call 40; refine (HCH.out _ _ _ _ _ A1 b5 HPV5.out own5 ap5).mono ?_; rintro e w6 ⟨u6, ms6, rfl, hpv6, own6, ap6, b6⟩; have HPV6 : Hid _ := hpv6; clear hpv6; have A4 : Below w2.heap.size w2 w6 := A1.trans ((b5.trans b6).mono A1.size); obtain ⟨o6, c6, hu6⟩ := own_slice own6.row; subst hu6; skip)))
        all_goals
          have own7 := own6.mono A1.size
          clear own6 own5
          go_wp2_with fail
          go_meet
          exact ⟨_, ms6, rfl, rfl, HPV6.out, own7, ap6, A4⟩
      case rest =>
        obtain ⟨v6, ms6, rfl, rfl, hpv6, own6, ap6, bw⟩ := hcut
        rename World => w6
        have k2 := (bw.block _ (heap_lt k1)).trans k1
        obtain ⟨o6, c6, hu6⟩ := own_slice own6.row
        subst hu6
        obtain ⟨l', c', v'⟩ := D
        have HS : Hid _ := k_end (c := 0) (v := v') k2 (own6.mono d0.size) (bw_call d0 bw) (Nat.le_succ _)
        have HPV : Hid _ := And.intro hpv6 ap6
        have q0 := at_cell k2 0
        have q1 := at_cell k2 1
        have f0 := at_open k2 0
        have f1 := at_open k2 1
        clear k0 k1 k2 d0 r0 own6 ap6 bw hpv6 hv0 HOWN HCH
        have HDC2 : Hid (c' = 0) := HDC.out
        clear HDC
        go_wp2_with fail
        exact bodyPost_ret (v := .tuple #[.slice o6 ms6.length c6, .agg #[.int .i64 0, .int .i64 v']]) (by simp [results, Tryz.results9, go_sem, at_cell HS.out.1]) rfl ⟨_, ms6, by rw [HD.out, HDC2.out], by rw [HD.out]; exact HPV.out.1, HS.out.2.1, HPV.out.2, HS.out.2.2⟩
    · have HD : Hid (didPlain (bks.map Pk.pv) ⟨k, nm, ot, at_, va, ep⟩ told = (bks.map Pk.pv, (C, 0))) := by rw [Hid, HD0.out, doPlain_code (by rw [HC.out]; exact h0), HC.out]
      have HE2 : Hid (refErr ad C = .iface 106 (.agg #[.int .i64 C, .iface 228 (.pointer (some (ad (varOf C))))])) := by rw [Hid, refErr, if_neg h0]
      rw [HE2.out]
      go_wp2_with fail
      refine (ownPlains_any _ bks _ hfew (fun b hb => (HPT.out b hb).2.2) (fun b hb => (HPT.out b hb).1) r0).mono ?_
      rintro e w3 ⟨g3, c3, ms3, rfl, hpv3, own3, ap3, b3⟩
      replace k1 := (b3.block _ (heap_lt k1)).trans k1
      have own4 := own3.mono d0.size
      replace d0 := bw_call d0 b3
      replace hv0 := hv0.below b3
      have HPV : Hid _ := And.intro hpv3 ap3
      clear b3 k0 r0 own3 hpv3 ap3 HE2
      go_wp2_with fail
      refine (codeOf_any C (varOf C) _ ad hv0).mono ?_
      rintro e w4 ⟨rfl, b4⟩
      have k2 := (b4.block _ (heap_lt k1)).trans k1
      have HS : Hid _ := k_end (c := C) (v := 0) k2 (own4.below b4) (bw_call d0 b4) (Nat.le_succ _)
      have q0 := at_cell k2 0
      have q1 := at_cell k2 1
      have f0 := at_open k2 0
      have f1 := at_open k2 1
      clear k1 k2 d0 own4 b4 hv0 h0 hrg
      go_wp2_with fail
      exact bodyPost_ret (v := .tuple #[.slice (some ⟨g3, 0, none⟩) ms3.length c3, .agg #[.int .i64 C, .int .i64 0]]) (by simp [results, Tryz.results9, go_sem, at_cell HS.out.1]) rfl ⟨_, ms3, by rw [HD.out], by rw [HD.out]; exact HPV.out.1, HS.out.2.1, HPV.out.2, HS.out.2.2⟩
end Go.Proofs.YtcefcglonooelaaGreatDoor

namespace Go.Proofs.YtcefcglonooelaaGreatDoor
open Go.RowKit

set_option linter.unusedVariables false

set_option maxRecDepth 100000


set_option maxHeartbeats 400000 in
theorem pickC_any (x : Option Addr) (len cap : Nat) (seed n : Int) (w : World) (hs : Src w w.heap.size x len) (hl : len ≤ 4096) (h0 : 0 ≤ seed) (h1 : seed ≤ 1000) (hn : 0 < n) (hn2 : n ≤ 1099511627776) :
    Calls Tryz.prog 23 #[.slice x len cap, .int .i64 seed, .int .i64 n] w fun e w' => ∃ y : Int, e = .returned (.int .i64 y) ∧ (0 ≤ y ∧ y < n) ∧ w' = w := by
  obtain ⟨hm, hsrc⟩ := hs
  have HS : Hid (∀ j, j < len → ∃ b off z, x = some ⟨b, off, none⟩ ∧ b < w.heap.size ∧ w.cell? ⟨b, off + j, none⟩ = some (.int .u8 z) ∧ 0 ≤ z ∧ z ≤ 255) := hsrc
  have hz : (n == 0) = false := by simp; omega
  clear hsrc hm
  go_enter Tryz.func23, Tryz.ntmps23
  go_wp2
  go_loop [7, 8] (fun q i => ∃ (k : Nat) (y : Int), k ≤ len ∧ i = .int .i64 k ∧ q = .int .i64 y ∧ 0 ≤ y ∧ y ≤ 10000000) (fun _ i => len - (intOf i).toNat)
  case atStart => exact ⟨0, _, Nat.zero_le _, rfl, rfl, by omega, by omega⟩
  case round =>
    obtain ⟨k, y, hk, rfl, rfl, y0, y1⟩ := hrel
    by_cases hlt : k < len
    · obtain ⟨b, off, z, rfl, hb, hcz, z0, z1⟩ := HS.out k hlt
      clear HS
      go_wp2
      go_round
      case rel => exact ⟨k + 1, _, by omega, by go_num, rfl, by omega, by omega⟩
      case measure => simp [intOf]; omega
    · go_wp2
      go_ret
      exact ⟨y % n, rfl, ⟨Int.emod_nonneg _ (by omega), Int.emod_lt_of_pos _ hn⟩, rfl⟩
end Go.Proofs.YtcefcglonooelaaGreatDoor

namespace Go.Proofs.YtcefcglonooelaaGreatDoor
set_option linter.unusedVariables false

set_option maxRecDepth 100000

theorem bare_of_pv {bs ms : List Pk} (h : ms.map Pk.pv = bs.map Pk.pv) : ms.map bareK = bs.map bareK := by
  have := congrArg (List.map (fun x : Pv => (x.nm, x.sz, x.vs, x.fx, x.ep))) h
  simp only [List.map_map] at this
  exact this
end Go.Proofs.YtcefcglonooelaaGreatDoor

