/-
  Contracts and plain laws, one chapter behind the other.
-/
import Derived.Deep.DeepCutAuto
import Derived.Deep.RegionHeld3
import Derived.Test.YtcefcglonooelaaGreatDoorB11
import Derived.Test.YtcefcglonooelaaGreatDoorB12
import Derived.Test.YtcefcglonooelaaGreatDoorB25
import Derived.Test.YtcefcglonooelaaGreatDoorB26
namespace Go.Proofs.YtcefcglonooelaaGreatDoor
open Go.RowKit

set_option linter.unusedVariables false


/-- What l9Did leaves behind. -/
def DoKP (l : List Pv) (o : Oq) (told : Int) (w : World) (e : Ending) (w' : World) : Prop :=
  ∃ (v' : Value) (ms : List Pk), e = .returned (.tuple #[v', .agg #[.int .i64 (doPlain l o told).2.1, .int .i64 (doPlain l o told).2.2]]) ∧ ms.map Pk.pv = (doPlain l o told).1 ∧ OwnK w.heap.size w' v' ms ∧ ApartK ms ∧ Below w.heap.size w w'

theorem own_box_k {w w' : World} {base b : Nat} {e : TypeId} {size : Nat} {v : Value} {n : Nat} {xs : List Value} {cs : Array Value} {t : TypeId} (h : w.ownsRow base e size v n xs) (k : w.heap[b]? = some (.cells cs t (0, 0))) (ht : t ≠ e) (u : Upto b w w') : w'.ownsRow base e size v n xs :=
  own_rng_not h fun g hg hv => u.block g hg fun e => own_not_box h k ht (by rw [hv, e])

theorem OwnK.box {base b : Nat} {w w' : World} {v : Value} {ms : List Pk} {cs : Array Value} {t : TypeId} (h : OwnK base w v ms) (k : w.heap[b]? = some (.cells cs t (0, 0))) (h1 : t ≠ 51) (h2 : t ≠ 2) (u : Upto b w w') : OwnK base w' v ms := ⟨own_box_k h.row k h1 u, fun m hm => own_box_k (h.maps m hm) k h2 u⟩

/-- The reply's box is written. -/
theorem k_end {w W : World} {n : Nat} {x0 x1 v8 : Value} {ms : List Pk} {c v : Int} (k1 : W.heap[n]? = some (.cells #[x0, x1] 30 (0, 0))) (own : OwnK w.heap.size W v8 ms) (d : Below w.heap.size w W) (hn : w.heap.size ≤ n) :
    ((W.setCell ⟨n, 0, none⟩ (.int .i64 c)).setCell ⟨n, 1, none⟩ (.int .i64 v)).heap[n]? = some (.cells #[.int .i64 c, .int .i64 v] 30 (0, 0)) ∧ OwnK w.heap.size ((W.setCell ⟨n, 0, none⟩ (.int .i64 c)).setCell ⟨n, 1, none⟩ (.int .i64 v)) v8 ms ∧ Below w.heap.size w ((W.setCell ⟨n, 0, none⟩ (.int .i64 c)).setCell ⟨n, 1, none⟩ (.int .i64 v)) := by
  obtain ⟨h1, h2⟩ := set_two k1 (.int .i64 c) (.int .i64 v)
  exact ⟨h1, own.box k1 (by decide) (by decide) h2, d.trans (h2.toBelow d.size hn)⟩

theorem k_endD {w W : World} {n : Nat} {x0 x1 v8 : Value} {ms : List Pk} {c v : Int} (k1 : W.heap[n]? = some (.cells #[x0, x1] 30 (0, 0))) (own : OwnK w.heap.size W v8 ms) (d : Below w.heap.size w W) (hn : w.heap.size ≤ n) :
    (((W.setCell ⟨n, 0, none⟩ (.int .i64 c)).setCell ⟨n, 1, none⟩ (.int .i64 v)).drew).heap[n]? = some (.cells #[.int .i64 c, .int .i64 v] 30 (0, 0)) ∧ OwnK w.heap.size (((W.setCell ⟨n, 0, none⟩ (.int .i64 c)).setCell ⟨n, 1, none⟩ (.int .i64 v)).drew) v8 ms ∧ Below w.heap.size w (((W.setCell ⟨n, 0, none⟩ (.int .i64 c)).setCell ⟨n, 1, none⟩ (.int .i64 v)).drew) := by
  obtain ⟨h1, h2, h3⟩ := k_end (c := c) (v := v) k1 own d hn
  exact ⟨h1, h2.below ((Below.refl _ _).drew), bw_drew h3⟩

set_option maxRecDepth 100000 in
set_option maxHeartbeats 6400000 in
theorem l9Did_bad (v : Value) (bks : List Pk) (k : Int) (nm ot : ByteArray) (at_ va ep : Int) (told : Int) (w : World) (hn : nm.size ≤ maxLen) (ho : ot.size ≤ maxLen) (hr : ∀ b ∈ bks, b.rs.length ≤ 1048576) (hpo : plainsOk (bks.map Pk.pv) = true) (r : ReadsK w.heap.size w v bks) (hok : opOk ⟨k, nm, ot, at_, va, ep⟩ = false) :
    Calls Tryz.prog 43 #[v, .agg #[.int .i64 k, .string nm, .string ot, .int .i64 at_, .int .i64 va, .int .i64 ep], .int .i64 told] w (DoKP (bks.map Pk.pv) ⟨k, nm, ot, at_, va, ep⟩ told w) := by
  obtain ⟨ov, cv, hvf⟩ := r.row.form
  subst hvf
  have hfew : bks.length ≤ 6 := by have := (plains_ok hpo).1; rwa [List.length_map] at this
  obtain ⟨W0, hW0, k0, k1, d0, z0⟩ := box2 w #[.int .i64 k, .string nm, .string ot, .int .i64 at_, .int .i64 va, .int .i64 ep] #[.int .i64 0, .int .i64 0] 26 30
  have HW0 : Hid (W0 = _) := hW0
  have r0 := (r.below d0).mono d0.size
  clear hW0 z0 r
  go_enter Tryz.func43, Tryz.ntmps43
  go_upto_region 1 with fail
  rw [← HW0.out]
  clear HW0
  go_wp2_with fail
  refine (l9Copy_any _ bks _ (by omega) hr r0).mono ?_
  rintro e w1 ⟨v8, ms, rfl, hpv, own, ap, hnil, b1⟩
  have own0 := own.mono d0.size
  clear own
  replace k0 := (b1.block _ (heap_lt k0)).trans k0
  replace k1 := (b1.block _ (heap_lt k1)).trans k1
  replace d0 := bw_call d0 b1
  replace r0 := (r0.below b1).mono b1.size
  have HPV : Hid (ms.map Pk.pv = bks.map Pk.pv) := hpv
  have hml1 : ms.length ≤ bks.length := by have := congrArg List.length hpv; simp at this; omega
  have hml2 : bks.length ≤ ms.length := by have := congrArg List.length hpv; simp at this; omega
  clear b1 hpv
  have p0 := at_cell k0 0
  have p1 := at_cell k0 1
  have p2 := at_cell k0 2
  have p3 := at_cell k0 3
  have p4 := at_cell k0 4
  have p5 := at_cell k0 5
  go_wp2_with fail
  clear p0 p1 p2 p3 p4 p5
  refine (specOpOk_any k nm ot at_ va ep _ hn ho).mono ?_
  rw [hok]
  rintro e w2 ⟨rfl, b1⟩
  replace k0 := (b1.block _ (heap_lt k0)).trans k0
  replace k1 := (b1.block _ (heap_lt k1)).trans k1
  replace d0 := bw_call d0 b1
  replace r0 := (r0.below b1).mono b1.size
  replace own0 := own0.below b1
  clear b1
  obtain ⟨o8, c8, rfl⟩ := own_slice own0.row
  have HS : Hid _ := k_end (c := 1) (v := 0) k1 own0 d0 (Nat.le_succ _)
  have HD : Hid (doPlain (bks.map Pk.pv) _ _ = _) := doPlain_bad told hok
  have q0 := at_cell k1 0
  have q1 := at_cell k1 1
  have f0 := at_open k1 0
  have f1 := at_open k1 1
  have HAP : Hid _ := ap
  clear k0 k1 own0 d0 ap
  go_wp2_with fail
  exact bodyPost_ret (v := .tuple #[.slice o8 ms.length c8, .agg #[.int .i64 1, .int .i64 0]]) (by simp [results, Tryz.results43, go_sem, at_cell HS.out.1]) rfl ⟨_, ms, by rw [HD.out], by rw [HD.out]; exact HPV.out, HS.out.2.1, HAP.out, HS.out.2.2⟩

set_option maxRecDepth 100000 in
set_option maxHeartbeats 6400000 in
theorem l9Did_refd (v : Value) (bks : List Pk) (k : Int) (nm ot : ByteArray) (at_ va ep : Int) (told : Int) (w : World) (hn : nm.size ≤ maxLen) (ho : ot.size ≤ maxLen) (hr : ∀ b ∈ bks, b.rs.length ≤ 1048576) (hpo : plainsOk (bks.map Pk.pv) = true) (r : ReadsK w.heap.size w v bks) (hok : opOk ⟨k, nm, ot, at_, va, ep⟩ = true) (href : refused ((bks.map Pk.pv).map Pv.pb) ⟨k, nm, ot, at_, va, ep⟩ ≠ 0) :
    Calls Tryz.prog 43 #[v, .agg #[.int .i64 k, .string nm, .string ot, .int .i64 at_, .int .i64 va, .int .i64 ep], .int .i64 told] w (DoKP (bks.map Pk.pv) ⟨k, nm, ot, at_, va, ep⟩ told w) := by
  have hk9 := (opOk_bd _ hok).1
  simp only at hk9
  obtain ⟨rc, hrc⟩ : ∃ rc, refused ((bks.map Pk.pv).map Pv.pb) ⟨k, nm, ot, at_, va, ep⟩ = rc := ⟨_, rfl⟩
  have HDR : Hid (doPlain (bks.map Pk.pv) ⟨k, nm, ot, at_, va, ep⟩ told = (bks.map Pk.pv, (rc, 0))) := by rw [Hid, doPlain_refd told hok href, hrc]
  have hrn : rc ≠ 0 := by rw [← hrc]; exact href
  have hrb : (rc != 0) = true := by rw [bne_iff_ne]; exact hrn
  obtain ⟨ov, cv, hvf⟩ := r.row.form
  subst hvf
  have hfew : bks.length ≤ 6 := by have := (plains_ok hpo).1; rwa [List.length_map] at this
  obtain ⟨W0, hW0, k0, k1, d0, z0⟩ := box2 w #[.int .i64 k, .string nm, .string ot, .int .i64 at_, .int .i64 va, .int .i64 ep] #[.int .i64 0, .int .i64 0] 26 30
  have HW0 : Hid (W0 = _) := hW0
  have r0 := (r.below d0).mono d0.size
  clear hW0 z0 r
  go_enter Tryz.func43, Tryz.ntmps43
  go_upto_region 1 with fail
  rw [← HW0.out]
  clear HW0
  go_wp2_with fail
  refine (l9Copy_any _ bks _ (by omega) hr r0).mono ?_
  rintro e w1 ⟨v8, ms, rfl, hpv, own, ap, hnil, b1⟩
  have own0 := own.mono d0.size
  clear own
  replace k0 := (b1.block _ (heap_lt k0)).trans k0
  replace k1 := (b1.block _ (heap_lt k1)).trans k1
  replace d0 := bw_call d0 b1
  replace r0 := (r0.below b1).mono b1.size
  have HPV : Hid (ms.map Pk.pv = bks.map Pk.pv) := hpv
  have hml1 : ms.length ≤ bks.length := by have := congrArg List.length hpv; simp at this; omega
  have hml2 : bks.length ≤ ms.length := by have := congrArg List.length hpv; simp at this; omega
  clear b1 hpv
  have p0 := at_cell k0 0
  have p1 := at_cell k0 1
  have p2 := at_cell k0 2
  have p3 := at_cell k0 3
  have p4 := at_cell k0 4
  have p5 := at_cell k0 5
  go_wp2_with fail
  clear p0 p1 p2 p3 p4 p5
  refine (specOpOk_any k nm ot at_ va ep _ hn ho).mono ?_
  rw [hok]
  rintro e w2 ⟨rfl, b1⟩
  replace k0 := (b1.block _ (heap_lt k0)).trans k0
  replace k1 := (b1.block _ (heap_lt k1)).trans k1
  replace d0 := bw_call d0 b1
  replace r0 := (r0.below b1).mono b1.size
  replace own0 := own0.below b1
  clear b1
  obtain ⟨o8, c8, rfl⟩ := own_slice own0.row
  go_wp2_with fail
  refine (l9Books_any _ bks _ (by omega) r0).mono ?_
  rintro e w3 ⟨v9, bs, rfl, hbs, ob, hnil9, b1⟩
  replace k0 := (b1.block _ (heap_lt k0)).trans k0
  replace k1 := (b1.block _ (heap_lt k1)).trans k1
  replace d0 := bw_call d0 b1
  replace own0 := own0.below b1
  have rb : ReadsR 5 bookC w3.heap.size w3 v9 bs := ReadsR.of_own bookC_len ob.row
  have hfm : ∀ b ∈ bs, ∃ o k cp, b.m = .slice o k cp := fun b hb => by obtain ⟨o, cp, e⟩ := own_slice (ob.maps b hb); exact ⟨o, _, cp, e⟩
  obtain ⟨o9, c9, h9⟩ := rb.form
  subst h9
  clear b1 r0 ob
  have p0 := at_cell k0 0
  have p1 := at_cell k0 1
  have p2 := at_cell k0 2
  have p3 := at_cell k0 3
  have p4 := at_cell k0 4
  have p5 := at_cell k0 5
  go_wp2_with fail
  clear p0 p1 p2 p3 p4 p5
  refine (l8Refused_any _ bs k nm ot at_ va ep _ (by omega) rb hfm).mono ?_
  rw [hbs, hrc]
  rintro e w4 ⟨rfl, b1⟩
  replace k0 := (b1.block _ (heap_lt k0)).trans k0
  replace k1 := (b1.block _ (heap_lt k1)).trans k1
  replace d0 := bw_call d0 b1
  replace own0 := own0.below b1
  replace rb := (rb.below b1).mono b1.size
  clear b1 hfm
  have HS : Hid _ := k_end (c := rc) (v := 0) k1 own0 d0 (Nat.le_succ _)
  have HD : Hid (doPlain (bks.map Pk.pv) _ _ = _) := HDR.out
  have q0 := at_cell k1 0
  have q1 := at_cell k1 1
  have f0 := at_open k1 0
  have f1 := at_open k1 1
  have HAP : Hid _ := ap
  clear k0 k1 own0 d0 ap
  go_wp2_with fail
  exact bodyPost_ret (v := .tuple #[.slice o8 ms.length c8, .agg #[.int .i64 rc, .int .i64 0]]) (by simp [results, Tryz.results43, go_sem, at_cell HS.out.1]) rfl ⟨_, ms, by rw [HD.out], by rw [HD.out]; exact HPV.out, HS.out.2.1, HAP.out, HS.out.2.2⟩
end Go.Proofs.YtcefcglonooelaaGreatDoor

namespace Go.Proofs.YtcefcglonooelaaGreatDoor
open Go.RowKit

set_option linter.unusedVariables false


set_option maxRecDepth 100000 in
set_option maxHeartbeats 6400000 in
theorem l9Did_9 (v : Value) (bks : List Pk) (nm ot : ByteArray) (at_ va ep : Int) (told : Int) (w : World) (hn : nm.size ≤ maxLen) (ho : ot.size ≤ maxLen) (hr : ∀ b ∈ bks, b.rs.length ≤ 1048576) (hpo : plainsOk (bks.map Pk.pv) = true) (r : ReadsK w.heap.size w v bks) (hok : opOk ⟨9, nm, ot, at_, va, ep⟩ = true) (href : refused ((bks.map Pk.pv).map Pv.pb) ⟨9, nm, ot, at_, va, ep⟩ = 0) :
    Calls Tryz.prog 43 #[v, .agg #[.int .i64 9, .string nm, .string ot, .int .i64 at_, .int .i64 va, .int .i64 ep], .int .i64 told] w (DoKP (bks.map Pk.pv) ⟨9, nm, ot, at_, va, ep⟩ told w) := by
  obtain ⟨i, hi, hfp, hpk, hpa, hpe⟩ := foundV (o := ⟨9, nm, ot, at_, va, ep⟩) hpo href (show (9 : Int) ≠ 1 by decide)
  simp only at hfp hpa hpe
  have hib : i < bks.length := by rw [List.length_map] at hi; exact hi
  have hat0 := (opOk_bd _ hok).2.2.2.1.1
  simp only at hat0
  have hpp := pv_parts hpk
  have hlt := hpa (by decide)
  obtain ⟨A, rfl⟩ := Int.eq_ofNat_of_zero_le hat0
  have HDO : Hid (doPlain (bks.map Pk.pv) ⟨9, nm, ot, (A : Int), va, ep⟩ told = (bks.map Pk.pv, (0, (bks.map Pk.pv)[i].vs.getD A 0))) := doPlain_one hi hok href (by simp) (show (9 : Int) ≠ 1 ∧ (9 : Int) ≠ 6 ∧ kOther 9 = false by decide) hfp
  obtain ⟨ov, cv, hvf⟩ := r.row.form
  subst hvf
  have hfew : bks.length ≤ 6 := by have := (plains_ok hpo).1; rwa [List.length_map] at this
  obtain ⟨W0, hW0, k0, k1, d0, z0⟩ := box2 w #[.int .i64 9, .string nm, .string ot, .int .i64 (A : Int), .int .i64 va, .int .i64 ep] #[.int .i64 0, .int .i64 0] 26 30
  have HW0 : Hid (W0 = _) := hW0
  have r0 := (r.below d0).mono d0.size
  clear hW0 z0 r
  go_enter Tryz.func43, Tryz.ntmps43
  go_upto_region 1 with fail
  rw [← HW0.out]
  clear HW0
  go_wp2_with fail
  refine (l9Copy_any _ bks _ (by omega) hr r0).mono ?_
  rintro e w1 ⟨v8, ms, rfl, hpv, own, ap, hnil, b1⟩
  have own0 := own.mono d0.size
  clear own
  replace k0 := (b1.block _ (heap_lt k0)).trans k0
  replace k1 := (b1.block _ (heap_lt k1)).trans k1
  replace d0 := bw_call d0 b1
  replace r0 := (r0.below b1).mono b1.size
  have HPV : Hid (ms.map Pk.pv = bks.map Pk.pv) := hpv
  have hml1 : ms.length ≤ bks.length := by have := congrArg List.length hpv; simp at this; omega
  have hml2 : bks.length ≤ ms.length := by have := congrArg List.length hpv; simp at this; omega
  clear b1 hpv
  have p0 := at_cell k0 0
  have p1 := at_cell k0 1
  have p2 := at_cell k0 2
  have p3 := at_cell k0 3
  have p4 := at_cell k0 4
  have p5 := at_cell k0 5
  go_wp2_with fail
  clear p0 p1 p2 p3 p4 p5
  refine (specOpOk_any 9 nm ot (A : Int) va ep _ hn ho).mono ?_
  rw [hok]
  rintro e w2 ⟨rfl, b1⟩
  replace k0 := (b1.block _ (heap_lt k0)).trans k0
  replace k1 := (b1.block _ (heap_lt k1)).trans k1
  replace d0 := bw_call d0 b1
  replace r0 := (r0.below b1).mono b1.size
  replace own0 := own0.below b1
  clear b1
  obtain ⟨o8, c8, rfl⟩ := own_slice own0.row
  go_wp2_with fail
  refine (l9Books_any _ bks _ (by omega) r0).mono ?_
  rintro e w3 ⟨v9, bs, rfl, hbs, ob, hnil9, b1⟩
  replace k0 := (b1.block _ (heap_lt k0)).trans k0
  replace k1 := (b1.block _ (heap_lt k1)).trans k1
  replace d0 := bw_call d0 b1
  replace own0 := own0.below b1
  have rb : ReadsR 5 bookC w3.heap.size w3 v9 bs := ReadsR.of_own bookC_len ob.row
  have hfm : ∀ b ∈ bs, ∃ o k cp, b.m = .slice o k cp := fun b hb => by obtain ⟨o, cp, e⟩ := own_slice (ob.maps b hb); exact ⟨o, _, cp, e⟩
  obtain ⟨o9, c9, h9⟩ := rb.form
  subst h9
  clear b1 r0 ob
  have p0 := at_cell k0 0
  have p1 := at_cell k0 1
  have p2 := at_cell k0 2
  have p3 := at_cell k0 3
  have p4 := at_cell k0 4
  have p5 := at_cell k0 5
  go_wp2_with fail
  clear p0 p1 p2 p3 p4 p5
  refine (l8Refused_any _ bs 9 nm ot (A : Int) va ep _ (by omega) rb hfm).mono ?_
  rw [hbs, href]
  rintro e w4 ⟨rfl, b1⟩
  replace k0 := (b1.block _ (heap_lt k0)).trans k0
  replace k1 := (b1.block _ (heap_lt k1)).trans k1
  replace d0 := bw_call d0 b1
  replace own0 := own0.below b1
  replace rb := (rb.below b1).mono b1.size
  clear b1 hfm
  have p1 := at_cell k0 1
  have p0 := at_cell k0 0
  have hfb : findB bs nm = i := by rw [← findP_map, hbs]; exact hfp
  go_wp2_with fail
  clear p0 p1
  refine (specFindBook_any _ bs nm _ rb).mono ?_
  rw [hfb]
  rintro e w5 ⟨rfl, rfl⟩
  clear rb hfb
  have hims : i < ms.length := by omega
  obtain ⟨⟨xn, xz, xm, xr, xf, xe⟩, hX⟩ : ∃ X : Pk, ms[i] = X := ⟨_, rfl⟩
  have HX : Hid (ms[i] = ⟨xn, xz, xm, xr, xf, xe⟩) := hX
  have HMI : Hid ((bks.map Pk.pv)[i] = ⟨xn, xz, xr, xf, xe⟩) := by
    have h := HPV.out
    have h2 : ms[i].pv = (bks.map Pk.pv)[i] := by simp [← h]
    rw [Hid, ← h2, hX]
    rfl
  have owm : w5.ownsRow w.heap.size 2 1 xm xr.length (xr.flatMap intC) := by have h := own0.maps ms[i] (List.getElem_mem hims); rw [hX] at h; exact h
  clear hX
  obtain ⟨g8, hg8⟩ : ∃ g8, o8 = some ⟨g8, 0, none⟩ := by
    rcases own0.row.2 with ⟨_, h0⟩ | ⟨g, cap', cur, e, _⟩
    · omega
    · simp only [Value.slice.injEq] at e
      exact ⟨g, e.1⟩
  subst hg8
  have hvl : (xr.length : Int) = xz := by have h1 := hpp.2.2; rw [HMI.out] at h1; exact h1
  have hAl : A < xr.length := by rw [HMI.out] at hlt; have h2 : (A : Int) < xz := hlt; omega
  have HVV : Hid ((bks.map Pk.pv)[i].vs.getD A 0 = xr[A]) := by
    rw [Hid, HMI.out]
    show xr.getD A 0 = _
    simp [List.getD_eq_getElem?_getD, hAl]
  obtain ⟨om, cm, hmf⟩ := own_slice owm
  subst hmf
  obtain ⟨gm, hgm⟩ : ∃ gm, om = some ⟨gm, 0, none⟩ := by
    rcases owm.2 with ⟨_, h0⟩ | ⟨g, cap', cur, e, _⟩
    · omega
    · simp only [Value.slice.injEq] at e
      exact ⟨g, e.1⟩
  subst hgm
  obtain ⟨a2, b2⟩ := own_cell pkC_len own0.row i 2 _ (List.getElem?_eq_getElem hims) (by decide)
  have a2' : w5.cell? ⟨g8, i * 5 + 2, none⟩ = some (.slice (some ⟨gm, 0, none⟩) xr.length cm) := by rw [a2, HX.out]; rfl
  obtain ⟨av, bv⟩ := own_cell intC_len owm A 0 _ (List.getElem?_eq_getElem hAl) (by decide)
  have av' : w5.cell? ⟨gm, A, none⟩ = some (.int .i64 xr[A]) := by rw [Nat.mul_one, Nat.add_zero] at av; exact av
  generalize xr[A] = z at av' HVV
  have i0 : (0 : Int) ≤ (i : Int) := by omega
  have i1 : (i : Int) < (ms.length : Int) := by omega
  have i2 : (0 : Int) ≤ (A : Int) := by omega
  have i3 : (A : Int) < (xr.length : Int) := by omega
  have p0 := at_cell k0 0
  have p3 := at_cell k0 3
  have n1 : g8 ≠ w.heap.size + 1 := fun e => own_not_box own0.row k1 (by decide) (by rw [e]; rfl)
  have n2 : gm ≠ w.heap.size + 1 := fun e => own_not_box owm k1 (by decide) (by rw [e]; rfl)
  have l8 := (own0.row.lt g8 rfl).2
  have lm := (owm.lt gm rfl).2
  have HKeep : ∀ X, Upto (w.heap.size + 1) w5 X → (X.cell? ⟨g8, i * 5 + 2, none⟩ = some (.slice (some ⟨gm, 0, none⟩) xr.length cm) ∧ X.cell? ⟨w.heap.size, 3, none⟩ = some (.int .i64 (A : Int)) ∧ X.cell? ⟨gm, A, none⟩ = some (.int .i64 z)) := fun X u =>
    ⟨(u.cell (p := ⟨g8, i * 5 + 2, none⟩) l8 n1).trans a2', (u.cell (p := ⟨w.heap.size, 3, none⟩) (heap_lt k0) (by simp)).trans (at_cell k0 3), (u.cell (p := ⟨gm, A, none⟩) lm n2).trans av'⟩
  have HSA : Hid _ := k_endD (c := 0) (v := z) k1 own0 d0 (Nat.le_succ _)
  have HAP : Hid _ := ap
  have q0 := at_cell k1 0
  have q1 := at_cell k1 1
  have f0 := at_open k1 0
  have f1 := at_open k1 1
  have q0d : w5.drew.cell? ⟨w.heap.size + 1, 0, none⟩ = some (.int .i64 0) := at_cell k1 0
  have q1d : w5.drew.cell? ⟨w.heap.size + 1, 1, none⟩ = some (.int .i64 0) := at_cell k1 1
  have f0d : w5.drew.frozen? ⟨w.heap.size + 1, 0, none⟩ = false := at_open k1 0
  have f1d : w5.drew.frozen? ⟨w.heap.size + 1, 1, none⟩ = false := at_open k1 1
  clear k0 k1 own0 d0 ap a2 b2 a2' av av' owm bv HX hvl hpp hpa hpe hpk hbs hfp
  go_wp2_with fail
  clear p0 p3
  go_region_held3 (fun X => X.cell? ⟨g8, i * 5 + 2, none⟩ = some (.slice (some ⟨gm, 0, none⟩) xr.length cm) ∧ X.cell? ⟨w.heap.size, 3, none⟩ = some (.int .i64 (A : Int)) ∧ X.cell? ⟨gm, A, none⟩ = some (.int .i64 z))
    ((refine HKeep _ ?_; repeat (first | exact Upto.refl _ _ | (apply Upto.setCell; rotate_left; exact Or.inl rfl) | refine Upto.drew ?_)))
    ((fail))
  all_goals
    clear HKeep q0 q1 f0 f1 q0d q1d f0d f1d
    go_wp2_with fail
    exact bodyPost_ret (v := .tuple #[.slice (some ⟨g8, 0, none⟩) ms.length c8, .agg #[.int .i64 0, .int .i64 z]]) (by simp [results, Tryz.results43, go_sem, at_cell HSA.out.1]) rfl ⟨_, ms, by rw [HDO.out, HVV.out], by rw [HDO.out]; exact HPV.out, HSA.out.2.1, HAP.out, HSA.out.2.2⟩
end Go.Proofs.YtcefcglonooelaaGreatDoor

