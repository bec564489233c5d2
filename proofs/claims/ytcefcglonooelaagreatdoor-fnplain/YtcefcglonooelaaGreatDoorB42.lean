/-
  Contracts and plain laws, one chapter behind the other.
-/
import Derived.Lib.LazyBuf
import Derived.Deep.DeepCutAuto
import Derived.Deep.RegionHeld3
import Derived.Lib.AppendZeros
import Derived.Test.YtcefcglonooelaaGreatDoorB02
import Derived.Test.YtcefcglonooelaaGreatDoorB04
import Derived.Test.YtcefcglonooelaaGreatDoorB05
import Derived.Test.YtcefcglonooelaaGreatDoorB06
import Derived.Test.YtcefcglonooelaaGreatDoorB09
import Derived.Test.YtcefcglonooelaaGreatDoorB10
import Derived.Test.YtcefcglonooelaaGreatDoorB12
import Derived.Test.YtcefcglonooelaaGreatDoorB21
import Derived.Test.YtcefcglonooelaaGreatDoorB22
import Derived.Test.YtcefcglonooelaaGreatDoorB24
import Derived.Test.YtcefcglonooelaaGreatDoorB28
import Derived.Test.YtcefcglonooelaaGreatDoorB29
import Derived.Test.YtcefcglonooelaaGreatDoorB30
import Derived.Test.YtcefcglonooelaaGreatDoorB33
import Derived.Test.YtcefcglonooelaaGreatDoorB37
import Derived.Test.YtcefcglonooelaaGreatDoorB41
namespace Go.Proofs.YtcefcglonooelaaGreatDoor
open Go.RowKit

set_option linter.unusedVariables false

set_option maxRecDepth 100000

/-- The first ones of a row that is read. -/
theorem readsR_take {α : Type} {k : Nat} {cs : α → List Value} {B : Nat} {w : World} {g cap n : Nat} {xs : List α} (h : ReadsR k cs B w (.slice (some ⟨g, 0, none⟩) n cap) xs) (i : Nat) (hi : i ≤ xs.length) : ReadsR k cs B w (.slice (some ⟨g, 0, none⟩) i cap) (xs.take i) := by
  obtain ⟨o, c, hv, hm, hc, hr⟩ := h
  simp only [Value.slice.injEq] at hv
  obtain ⟨rfl, -, rfl⟩ := hv
  have hl : (xs.take i).length = i := by rw [List.length_take]; omega
  refine ⟨some ⟨g, 0, none⟩, cap, by rw [hl], by rw [hl]; omega, fun j x hj => ?_, by rw [hl]; omega⟩
  have hj' : xs[j]? = some x := by
    have hlt := (List.getElem?_eq_some_iff.1 hj).1
    rw [hl] at hlt
    rwa [List.getElem?_take_of_lt hlt] at hj
  exact hc j x hj'

/-- Those behind a place of a row that is read. -/
theorem readsR_drop {α : Type} {k : Nat} {cs : α → List Value} {B : Nat} {w : World} {g cap n : Nat} {xs : List α} (h : ReadsR k cs B w (.slice (some ⟨g, 0, none⟩) n cap) xs) (i : Nat) (hi : i ≤ xs.length) : ReadsR k cs B w (.slice (if cap = i then some ⟨g, 0, none⟩ else some ⟨g, i * k, none⟩) (xs.length - i) (cap - i)) (xs.drop i) := by
  obtain ⟨o, c, hv, hm, hc, hr⟩ := h
  simp only [Value.slice.injEq] at hv
  obtain ⟨rfl, hn, rfl⟩ := hv
  refine ⟨_, _, by rw [List.length_drop], by rw [List.length_drop]; omega, fun j x hj => ?_, by rw [List.length_drop]; omega⟩
  rw [List.getElem?_drop] at hj
  obtain ⟨g', off', e, hg, hx⟩ := hc (i + j) x hj
  simp only [Option.some.injEq, Addr.mk.injEq] at e
  obtain ⟨rfl, rfl, -⟩ := e
  have hl := (List.getElem?_eq_some_iff.1 hj).1
  rw [if_neg (by omega)]
  exact ⟨g, i * k, rfl, hg, fun z u hz => by have := hx z u hz; rw [Nat.zero_add, Nat.add_mul] at this; exact this⟩
end Go.Proofs.YtcefcglonooelaaGreatDoor

namespace Go.Proofs.YtcefcglonooelaaGreatDoor
open Go.RowKit

set_option linter.unusedVariables false


theorem delK_facts {wx X : World} {b : Nat} {v1 v2 : Value} {T : TypeId} (bX : Below wx.heap.size wx X) (hbox : wx.heap[b]? = some (.cells #[v1, v2] T (0, 0))) : (X.cell? ⟨b, 0, none⟩ = some v1 ∧ X.cell? ⟨b, 1, none⟩ = some v2) ∧ X.frozen? ⟨b, 0, none⟩ = false ∧ X.frozen? ⟨b, 1, none⟩ = false := by
  have h1 := (bX.block _ (heap_lt hbox)).trans hbox
  exact ⟨⟨at_cell h1 0, at_cell h1 1⟩, at_open h1 0, at_open h1 1⟩

theorem delK_end {base i : Nat} {W wd : World} {v vd : Value} {ms : List Pk} (hi : i < ms.length) (own : OwnK base W v ms) (hb : base ≤ W.heap.size) (bd : Below W.heap.size W wd) (ownd : wd.ownsRow W.heap.size 51 5 vd (0 + i + (ms.length - (i + 1))) ([] ++ (ms.take i).flatMap pkC ++ (ms.drop (i + 1)).flatMap pkC)) : OwnK base wd vd (ms.take i ++ ms.drop (i + 1)) := by
  have hl : (ms.take i ++ ms.drop (i + 1)).length = 0 + i + (ms.length - (i + 1)) := by
    rw [List.length_append, List.length_take, List.length_drop, Nat.min_eq_left (by omega), Nat.zero_add]
  have hf : (ms.take i ++ ms.drop (i + 1)).flatMap pkC = [] ++ (ms.take i).flatMap pkC ++ (ms.drop (i + 1)).flatMap pkC := by
    rw [List.flatMap_append, List.nil_append]
  refine ⟨by rw [hl, hf]; exact owns_mono ownd hb, fun y hy => ?_⟩
  rcases List.mem_append.1 hy with hy | hy
  · exact owns_below (own.maps y (List.mem_of_mem_take hy)) bd
  · exact owns_below (own.maps y (List.mem_of_mem_drop hy)) bd

theorem apart_erase {ms : List Pk} (h : ApartK ms) (i : Nat) : ApartK (ms.take i ++ ms.drop (i + 1)) := by
  unfold ApartK at h ⊢
  exact h.sublist (by rw [← List.eraseIdx_eq_take_drop_succ]; exact List.eraseIdx_sublist _ _)

set_option maxRecDepth 100000 in
set_option maxHeartbeats 6400000 in
theorem l9Did_6 (v : Value) (bks : List Pk) (nm ot : ByteArray) (at_ va ep : Int) (told : Int) (w : World) (hn : nm.size ≤ maxLen) (ho : ot.size ≤ maxLen) (hr : ∀ b ∈ bks, b.rs.length ≤ 1048576) (hpo : plainsOk (bks.map Pk.pv) = true) (r : ReadsK w.heap.size w v bks) (hok : opOk ⟨6, nm, ot, at_, va, ep⟩ = true) (href : refused ((bks.map Pk.pv).map Pv.pb) ⟨6, nm, ot, at_, va, ep⟩ = 0) :
    Calls Tryz.prog 43 #[v, .agg #[.int .i64 6, .string nm, .string ot, .int .i64 at_, .int .i64 va, .int .i64 ep], .int .i64 told] w (DoKP (bks.map Pk.pv) ⟨6, nm, ot, at_, va, ep⟩ told w) := by
  obtain ⟨i, hi, hfp, hpk, hpa, hpe⟩ := foundV (o := ⟨6, nm, ot, at_, va, ep⟩) hpo href (show (6 : Int) ≠ 1 by decide)
  simp only at hfp hpa hpe
  have hib : i < bks.length := by rw [List.length_map] at hi; exact hi
  have HDO : Hid (doPlain (bks.map Pk.pv) ⟨6, nm, ot, at_, va, ep⟩ told = ((bks.map Pk.pv).take i ++ (bks.map Pk.pv).drop (i + 1), (0, 0))) := by
    rw [Hid, doPlain, if_neg (by rw [hok]; decide), if_neg (by rw [href]; decide), if_neg (by simp), if_neg (by simp), if_pos rfl, hfp, Int.toNat_natCast]
  obtain ⟨ov, cv, hvf⟩ := r.row.form
  subst hvf
  have hfew : bks.length ≤ 6 := by have := (plains_ok hpo).1; rwa [List.length_map] at this
  obtain ⟨W0, hW0, k0, k1, d0, z0⟩ := box2 w #[.int .i64 6, .string nm, .string ot, .int .i64 at_, .int .i64 va, .int .i64 ep] #[.int .i64 0, .int .i64 0] 26 30
  have HW0 : Hid (W0 = _) := hW0
  have r0 := (r.below d0).mono d0.size
  clear hW0 z0 r
  go_enter Tryz.func43, Tryz.ntmps43
  go_upto_region 1 with fail
  rw [← HW0.out]
  clear HW0
  go_wp2_with fail
  refine (l9Copy_any _ bks _ (by omega) hr r0).mono ?_
  rintro e w1 ⟨v8, ms, rfl, hpv, own, ap, hnil, b1⟩
  have own0 := own.mono d0.size
  clear own
  replace k0 := (b1.block _ (heap_lt k0)).trans k0
  replace k1 := (b1.block _ (heap_lt k1)).trans k1
  replace d0 := bw_call d0 b1
  replace r0 := (r0.below b1).mono b1.size
  have HPV : Hid (ms.map Pk.pv = bks.map Pk.pv) := hpv
  have hml1 : ms.length ≤ bks.length := by have := congrArg List.length hpv; simp at this; omega
  have hml2 : bks.length ≤ ms.length := by have := congrArg List.length hpv; simp at this; omega
  clear b1 hpv
  have p0 := at_cell k0 0
  have p1 := at_cell k0 1
  have p2 := at_cell k0 2
  have p3 := at_cell k0 3
  have p4 := at_cell k0 4
  have p5 := at_cell k0 5
  go_wp2_with fail
  clear p0 p1 p2 p3 p4 p5
  refine (specOpOk_any 6 nm ot at_ va ep _ hn ho).mono ?_
  rw [hok]
  rintro e w2 ⟨rfl, b1⟩
  replace k0 := (b1.block _ (heap_lt k0)).trans k0
  replace k1 := (b1.block _ (heap_lt k1)).trans k1
  replace d0 := bw_call d0 b1
  replace r0 := (r0.below b1).mono b1.size
  replace own0 := own0.below b1
  clear b1
  obtain ⟨o8, c8, rfl⟩ := own_slice own0.row
  go_wp2_with fail
  refine (l9Books_any _ bks _ (by omega) r0).mono ?_
  rintro e w3 ⟨v9, bs, rfl, hbs, ob, hnil9, b1⟩
  replace k0 := (b1.block _ (heap_lt k0)).trans k0
  replace k1 := (b1.block _ (heap_lt k1)).trans k1
  replace d0 := bw_call d0 b1
  replace own0 := own0.below b1
  have rb : ReadsR 5 bookC w3.heap.size w3 v9 bs := ReadsR.of_own bookC_len ob.row
  have hfm : ∀ b ∈ bs, ∃ o k cp, b.m = .slice o k cp := fun b hb => by obtain ⟨o, cp, e⟩ := own_slice (ob.maps b hb); exact ⟨o, _, cp, e⟩
  obtain ⟨o9, c9, h9⟩ := rb.form
  subst h9
  clear b1 r0 ob
  have p0 := at_cell k0 0
  have p1 := at_cell k0 1
  have p2 := at_cell k0 2
  have p3 := at_cell k0 3
  have p4 := at_cell k0 4
  have p5 := at_cell k0 5
  go_wp2_with fail
  clear p0 p1 p2 p3 p4 p5
  refine (l8Refused_any _ bs 6 nm ot at_ va ep _ (by omega) rb hfm).mono ?_
  rw [hbs, href]
  rintro e w4 ⟨rfl, b1⟩
  replace k0 := (b1.block _ (heap_lt k0)).trans k0
  replace k1 := (b1.block _ (heap_lt k1)).trans k1
  replace d0 := bw_call d0 b1
  replace own0 := own0.below b1
  replace rb := (rb.below b1).mono b1.size
  clear b1 hfm
  have p1 := at_cell k0 1
  have p0 := at_cell k0 0
  have hfb : findB bs nm = i := by rw [← findP_map, hbs]; exact hfp
  go_wp2_with fail
  clear p0 p1
  refine (specFindBook_any _ bs nm _ rb).mono ?_
  rw [hfb]
  rintro e w5 ⟨rfl, rfl⟩
  clear rb hfb
  have hims : i < ms.length := by omega
  obtain ⟨⟨xn, xz, xm, xr, xf, xe⟩, hX⟩ : ∃ X : Pk, ms[i] = X := ⟨_, rfl⟩
  have HX : Hid (ms[i] = ⟨xn, xz, xm, xr, xf, xe⟩) := hX
  have HMI : Hid ((bks.map Pk.pv)[i] = ⟨xn, xz, xr, xf, xe⟩) := by
    have h := HPV.out
    have h2 : ms[i].pv = (bks.map Pk.pv)[i] := by simp [← h]
    rw [Hid, ← h2, hX]
    rfl
  have owm : w5.ownsRow w.heap.size 2 1 xm xr.length (xr.flatMap intC) := by have h := own0.maps ms[i] (List.getElem_mem hims); rw [hX] at h; exact h
  clear hX
  obtain ⟨g8, hg8⟩ : ∃ g8, o8 = some ⟨g8, 0, none⟩ := by
    rcases own0.row.2 with ⟨_, h0⟩ | ⟨g, cap', cur, e, _⟩
    · omega
    · simp only [Value.slice.injEq] at e
      exact ⟨g, e.1⟩
  subst hg8
  clear owm HX HMI
  obtain ⟨i0, hi0, hz0, hz1, hz2⟩ := info_parts Tryz.infoPlain
  have hcl : ms.length ≤ c8 := by
    rcases own0.row.2 with ⟨e, _⟩ | ⟨g', cap', cur, e, _, hh, h1, _⟩
    · simp at e
    · simp only [Value.slice.injEq, Option.some.injEq, Addr.mk.injEq, and_true, true_and] at e
      omega
  have rr : ReadsR 5 pkC w5.heap.size w5 (.slice (some ⟨g8, 0, none⟩) ms.length c8) ms := ReadsR.of_own pkC_len own0.row
  have hfm : ∀ b ∈ ms, ∃ o k cp, b.m = .slice o k cp := fun b hbm => by obtain ⟨o, c, e⟩ := own_slice (own0.maps b hbm); exact ⟨_, _, _, e⟩
  have HD2 : Hid (∀ u ∈ (ms.drop (i + 1)).flatMap pkC, u.oneCell' = true) := plains_one _ (fun b hb => hfm b (List.mem_of_mem_drop hb))
  have HT : Hid (∀ u ∈ (ms.take i).flatMap pkC, u.oneCell' = true) := plains_one _ (fun b hb => hfm b (List.mem_of_mem_take hb))
  have HDL : Hid (((ms.drop (i + 1)).flatMap pkC).length = (ms.length - (i + 1)) * 5) := by rw [Hid, flat_length pkC_len, List.length_drop]
  have HTL : Hid (((ms.take i).flatMap pkC).length = i * 5) := by rw [Hid, flat_length pkC_len, List.length_take, Nat.min_eq_left (by omega)]
  have HS1 : Hid (∀ X : World, Below w5.heap.size w5 X → ∀ j u, ((ms.take i).flatMap pkC)[j]? = some u → ∃ g' off', some (⟨g8, 0, none⟩ : Addr) = some ⟨g', off', none⟩ ∧ X.cell? ⟨g', off' + j, none⟩ = some u) := fun X bX => flat_src pkC_len (by decide) ((rr.take i (by omega)).below bX)
  have HM1 : Hid (0 + i ≤ maxLen) := by rw [Hid]; unfold maxLen; omega
  have HB1 : Hid ((0 + i) * 64 ≤ 140737488355328) := by rw [Hid]; omega
  have HM2 : Hid (0 + i + (ms.length - (i + 1)) ≤ maxLen) := by rw [Hid]; unfold maxLen; omega
  have HB2 : Hid ((0 + i + (ms.length - (i + 1))) * 64 ≤ 140737488355328) := by rw [Hid]; omega
  have hds := d0.size
  have HK : Hid _ := And.intro k1 (And.intro d0 own0)
  have HAP : Hid _ := apart_erase ap i
  have HPW : Hid ((ms.take i ++ ms.drop (i + 1)).map Pk.pv = (bks.map Pk.pv).take i ++ (bks.map Pk.pv).drop (i + 1)) := by rw [Hid, List.map_append, List.map_take, List.map_drop, HPV.out]
  have hw1 : IntKind.i64.wrap ((i : Int) + 1) = (i : Int) + 1 := by rw [IntKind.wrap_i64]; omega
  have hw2 : ((i : Int) + 1).toNat = i + 1 := by omega
  have j0 : (0 : Int) ≤ (i : Int) := by omega
  have j1 : (i : Int) ≤ (ms.length : Int) := by omega
  have j2 : (i : Int) ≤ (c8 : Int) := by omega
  have j3 : (0 : Int) ≤ (i : Int) + 1 := by omega
  have j4 : (i : Int) + 1 ≤ (ms.length : Int) := by omega
  have j5 : (i : Int) + 1 ≤ (c8 : Int) := by omega
  obtain ⟨⟨y00, y01⟩, y02, y03⟩ := delK_facts (X := w5) (Below.refl _ _) k1
  obtain ⟨⟨y10, y11⟩, y12, y13⟩ := delK_facts (X := w5.drew) ((Below.refl _ _).drew) k1
  obtain ⟨⟨y20, y21⟩, y22, y23⟩ := delK_facts (X := (w5.alloc (.cells #[] 51)).drew) ((bw_alloc (Below.refl _ _)).drew) k1
  have p0 := at_cell k0 0
  clear ap hfm hpa hpe hpk hbs hfp k1 d0 own0
  by_cases hcp : c8 = i + 1
  · subst hcp
    have hdr : (ms.drop (i + 1)).flatMap pkC = [] := by rw [List.drop_of_length_le (by omega)]; rfl
    have jx : (i : Int) ≤ (i : Int) + 1 := by omega
    have HS2 : Hid (∀ X : World, ∀ j u, ((ms.drop (i + 1)).flatMap pkC)[j]? = some u → ∃ g' off', some (⟨g8, 0, none⟩ : Addr) = some ⟨g', off', none⟩ ∧ X.cell? ⟨g', off' + j, none⟩ = some u) := fun X j u h => by rw [hdr] at h; simp at h
    clear hdr rr
    go_wp2_with fail
    clear p0
    go_region_law (first
      | (refine step_append_reads rfl (.tmp 51) (.tmp 54) 24 rfl w5.heap.size 51 i0 (.agg #[.string ByteArray.empty, .int .i64 0, .slice none 0 0, .bool false, .int .i64 0]) 5 64 Tryz.underlying24 hi0 hz0 hz1 hz2 rfl (by decide) (.slice (some ⟨w5.heap.size, 0, none⟩) 0 0) 0 [] ?e1 ?own (some ⟨g8, 0, none⟩) i (i + 1) ((ms.take i).flatMap pkC) ?e2 HTL.out ?hn HT.out HM1.out HB1.out ?hbase ?_
         case e1 => first | rfl | simp [Act.eval]
         case e2 => first | rfl | (simp [Act.eval] <;> omega)
         case own => exact own_noplains w5
         case hn => exact HS1.out _ (bw_alloc (Below.refl _ _)).drew
         case hbase => simp <;> omega
         intro va' wa owna growa nila
         have ba : Below w5.heap.size w5 wa := ((bw_alloc (Below.refl _ _)).drew).grown growa (by simp <;> omega) (fun z hz => by simp [Value.ownBlock] at hz; omega)
         obtain ⟨⟨ya0, ya1⟩, ya2, ya3⟩ := delK_facts (X := wa) ba HK.out.1)
      | (refine step_append_reads rfl (.tmp 55) (.tmp 59) 24 rfl w5.heap.size 51 i0 (.agg #[.string ByteArray.empty, .int .i64 0, .slice none 0 0, .bool false, .int .i64 0]) 5 64 Tryz.underlying24 hi0 hz0 hz1 hz2 rfl (by decide) va' (0 + i) ([] ++ (ms.take i).flatMap pkC) ?e1 owna (some ⟨g8, 0, none⟩) (ms.length - (i + 1)) 0 ((ms.drop (i + 1)).flatMap pkC) ?e2 HDL.out (HS2.out _) HD2.out HM2.out HB2.out ?hbase ?_
         case e1 => first | rfl | simp [Act.eval]
         case e2 => first | rfl | (simp [Act.eval] <;> omega)
         case hbase => have := ba.size; omega
         intro vd wd ownd growd nild
         have bd : Below w5.heap.size w5 wd := ba.grown growd (by have := ba.size; omega) (fun z hz => (owna.lt z hz).1)
         obtain ⟨⟨yd0, yd1⟩, yd2, yd3⟩ := delK_facts (X := wd) bd HK.out.1))
    all_goals
      have kd := (bd.block _ (heap_lt HK.out.1)).trans HK.out.1
      have HS : Hid _ := k_end (c := 0) (v := 0) kd (delK_end hims HK.out.2.2 hds bd ownd) (bw_call HK.out.2.1 bd) (Nat.le_succ _)
      clear ownd owna growa growd bd ba HS1 HS2 kd HK
      go_wp2_with fail
      exact bodyPost_ret (v := .tuple #[vd, .agg #[.int .i64 0, .int .i64 0]]) (by simp [results, Tryz.results43, go_sem, at_cell HS.out.1]) rfl ⟨vd, _, by rw [HDO.out], by rw [HDO.out]; exact HPW.out, HS.out.2.1, HAP.out, HS.out.2.2⟩
  · have rd2 := rr.drop (i + 1) (by omega)
    rw [Nat.zero_add] at rd2
    have HS2 : Hid (∀ X : World, Below w5.heap.size w5 X → ∀ j u, ((ms.drop (i + 1)).flatMap pkC)[j]? = some u → ∃ g' off', some (⟨g8, (i + 1) * 5, none⟩ : Addr) = some ⟨g', off', none⟩ ∧ X.cell? ⟨g', off' + j, none⟩ = some u) := fun X bX => flat_src pkC_len (by decide) (rd2.below bX)
    clear rd2 rr
    go_wp2_with fail
    clear p0
    go_region_law (first
      | (refine step_append_reads rfl (.tmp 51) (.tmp 54) 24 rfl w5.heap.size 51 i0 (.agg #[.string ByteArray.empty, .int .i64 0, .slice none 0 0, .bool false, .int .i64 0]) 5 64 Tryz.underlying24 hi0 hz0 hz1 hz2 rfl (by decide) (.slice (some ⟨w5.heap.size, 0, none⟩) 0 0) 0 [] ?e1 ?own (some ⟨g8, 0, none⟩) i c8 ((ms.take i).flatMap pkC) ?e2 HTL.out ?hn HT.out HM1.out HB1.out ?hbase ?_
         case e1 => first | rfl | simp [Act.eval]
         case e2 => first | rfl | (simp [Act.eval] <;> omega)
         case own => exact own_noplains w5
         case hn => exact HS1.out _ (bw_alloc (Below.refl _ _)).drew
         case hbase => simp <;> omega
         intro va' wa owna growa nila
         have ba : Below w5.heap.size w5 wa := ((bw_alloc (Below.refl _ _)).drew).grown growa (by simp <;> omega) (fun z hz => by simp [Value.ownBlock] at hz; omega)
         obtain ⟨⟨ya0, ya1⟩, ya2, ya3⟩ := delK_facts (X := wa) ba HK.out.1)
      | (refine step_append_reads rfl (.tmp 55) (.tmp 59) 24 rfl w5.heap.size 51 i0 (.agg #[.string ByteArray.empty, .int .i64 0, .slice none 0 0, .bool false, .int .i64 0]) 5 64 Tryz.underlying24 hi0 hz0 hz1 hz2 rfl (by decide) va' (0 + i) ([] ++ (ms.take i).flatMap pkC) ?e1 owna (some ⟨g8, (i + 1) * 5, none⟩) (ms.length - (i + 1)) (c8 - (i + 1)) ((ms.drop (i + 1)).flatMap pkC) ?e2 HDL.out (HS2.out _ ba) HD2.out HM2.out HB2.out ?hbase ?_
         case e1 => first | rfl | simp [Act.eval]
         case e2 => first | rfl | (simp [Act.eval] <;> omega)
         case hbase => have := ba.size; omega
         intro vd wd ownd growd nild
         have bd : Below w5.heap.size w5 wd := ba.grown growd (by have := ba.size; omega) (fun z hz => (owna.lt z hz).1)
         obtain ⟨⟨yd0, yd1⟩, yd2, yd3⟩ := delK_facts (X := wd) bd HK.out.1))
    all_goals
      have kd := (bd.block _ (heap_lt HK.out.1)).trans HK.out.1
      have HS : Hid _ := k_end (c := 0) (v := 0) kd (delK_end hims HK.out.2.2 hds bd ownd) (bw_call HK.out.2.1 bd) (Nat.le_succ _)
      clear ownd owna growa growd bd ba HS1 HS2 kd HK
      go_wp2_with fail
      exact bodyPost_ret (v := .tuple #[vd, .agg #[.int .i64 0, .int .i64 0]]) (by simp [results, Tryz.results43, go_sem, at_cell HS.out.1]) rfl ⟨vd, _, by rw [HDO.out], by rw [HDO.out]; exact HPW.out, HS.out.2.1, HAP.out, HS.out.2.2⟩
end Go.Proofs.YtcefcglonooelaaGreatDoor

namespace Go.Proofs.YtcefcglonooelaaGreatDoor
open Go.RowKit

set_option linter.unusedVariables false


set_option maxRecDepth 100000 in
set_option maxHeartbeats 6400000 in
theorem changedPlains_6 (base g cp i : Nat) (ms : List Pk) (nm ot : ByteArray) (at_ va ep : Int) (w : World) (hbase : base ≤ w.heap.size) (hi : i < ms.length) (hl : ms.length ≤ 6) (own : OwnK base w (.slice (some ⟨g, 0, none⟩) ms.length cp) ms) (ap : ApartK ms) (hfp : findP ((ms.map Pk.pv).map Pv.pb) nm = i) :
    Calls Tryz.prog 40 #[.slice (some ⟨g, 0, none⟩) ms.length cp, .agg #[.int .i64 6, .string nm, .string ot, .int .i64 at_, .int .i64 va, .int .i64 ep]] w fun e w' => ∃ (v' : Value) (ms' : List Pk), e = .returned (.tuple #[v', .int .i64 0]) ∧ ms'.map Pk.pv = (ms.map Pk.pv).take i ++ (ms.map Pk.pv).drop (i + 1) ∧ OwnK base w' v' ms' ∧ ApartK ms' ∧ Below base w w' := by
  have HAP : Hid _ := ap
  clear ap
  have hms' : ∀ b ∈ ms.map Pk.bk, ∃ o k cap, b.m = .slice o k cap := fun b hb => by obtain ⟨x, hx, rfl⟩ := List.mem_map.1 hb; exact ⟨none, 0, 0, rfl⟩
  have HFB : Hid (∀ (v : Value) (w : World), ReadsR 5 bookC w.heap.size w v (ms.map Pk.bk) → Calls Tryz.prog 76 #[v, .string nm] w fun e w' => e = .returned (.int .i64 (i : Int)) ∧ Below w.heap.size w w') := fun v w r => by
    have h := implFindBook_any v (ms.map Pk.bk) nm w hms' r
    rw [findB_P, bk_pb, hfp] at h
    exact h
  have HWV : Hid (∀ (w : World) (r : ReadsK w.heap.size w (.slice (some ⟨g, 0, none⟩) ms.length cp) ms), _) := fun w r => withoutValues_any _ ms w hl r
  obtain ⟨W0, hW0, kO, d0, z0⟩ := box1 w #[.int .i64 6, .string nm, .string ot, .int .i64 at_, .int .i64 va, .int .i64 ep] 26
  have HW0 : Hid (W0 = _) := hW0
  have own0 := own.below d0
  have HR0 : Hid (ReadsK W0.heap.size W0 (.slice (some ⟨g, 0, none⟩) ms.length cp) ms) := own0.reads
  have z0a : w.heap.size < W0.heap.size := by omega
  have hb0 : base ≤ W0.heap.size := by omega
  clear hW0 z0 own hms' hfp
  go_enter Tryz.func40, Tryz.ntmps40
  go_wp2_with fail
  rw [← HW0.out]
  clear HW0
  go_cut [6] (fun v wx => v = .int .i64 (i : Int) ∧ Below W0.heap.size W0 wx)
  case first =>
    have HKeep : ∀ X, Below W0.heap.size W0 X → (Below W0.heap.size W0 X ∧ X.cell? ⟨w.heap.size, 1, none⟩ = some (.string nm)) := fun X hb => by
      have x2 := (hb.block _ (heap_lt kO)).trans kO
      exact ⟨hb, at_cell x2 1⟩
    have A1 : Below W0.heap.size W0 W0.drew := bw_drew (Below.refl _ _)
    go_region_held3 (fun X => Below W0.heap.size W0 X ∧ X.cell? ⟨w.heap.size, 1, none⟩ = some (.string nm))
      ((refine HKeep _ ?_; repeat (first | exact Below.refl _ _ | exact A3 | exact A4 | refine bw_drew ?_)))
      ((first
        | (go_at_call 46; refine (HWV.out _ ((HR0.out.below A1).mono A1.size)).mono ?_; rintro e w5 ⟨u5, rfl, og, b5⟩; have A3 : Below W0.heap.size W0 w5 := bw_call A1 b5; skip)
        | (go_at_call 76; refine (HFB.out _ _ (ReadsR.of_own bookC_len og)).mono ?_; rintro e w6 ⟨rfl, b6⟩; have A4 : Below W0.heap.size W0 w6 := bw_call A3 b6; skip)))
    all_goals
      go_wp2_with fail
      go_meet
      exact ⟨rfl, A4⟩
  case rest =>
    obtain ⟨rfl, bw⟩ := hcut
    rename World => W1
    replace kO := (bw.block _ (heap_lt kO)).trans kO
    have own1 := own0.below bw
    have d1 := bw_call d0 bw
    have hb1 : base ≤ W1.heap.size := Nat.le_trans hb0 bw.size
    have z1a : w.heap.size < W1.heap.size := Nat.lt_of_lt_of_le z0a bw.size
    clear HFB HWV HR0 own0 d0 bw hb0 z0a
    have q0 := at_cell kO 0
    have rr : ReadsR 5 pkC W1.heap.size W1 (.slice (some ⟨g, 0, none⟩) ms.length cp) ms := ReadsR.of_own pkC_len own1.row
    have HRT := readsR_take rr i (by omega)
    have HRD := readsR_drop rr (i + 1) (by omega)
    have hkb : ms.length ≤ cp := by
      rcases own1.row.2 with ⟨e, he⟩ | ⟨g', cap', cur, e, _, _, hnc, _⟩
      · cases e
      · cases e; exact hnc
    have hfm : ∀ b ∈ ms, ∃ o k cp, b.m = .slice o k cp := fun b hbm => by obtain ⟨o, c, e⟩ := own_slice (own1.maps b hbm); exact ⟨_, _, _, e⟩
    have HMT : Hid (∀ b ∈ ms.take i, ∃ o k cp, b.m = .slice o k cp) := fun b hb => hfm b (List.mem_of_mem_take hb)
    have HMD : Hid (∀ b ∈ ms.drop (i + 1), ∃ o k cp, b.m = .slice o k cp) := fun b hb => hfm b (List.mem_of_mem_drop hb)
    have hll : (ms.take i).length + (ms.drop (i + 1)).length ≤ 12 := by rw [List.length_take, List.length_drop]; omega
    obtain ⟨N, hN⟩ : ∃ N, ms.take i ++ ms.drop (i + 1) = N := ⟨_, rfl⟩
    have HNE : Hid (ms.take i ++ ms.drop (i + 1) = N) := hN
    have HN : Hid (∀ b ∈ N, b ∈ ms) := fun b hb => by
      rw [← hN] at hb
      rcases List.mem_append.1 hb with q | q
      · exact List.mem_of_mem_take q
      · exact List.mem_of_mem_drop q
    have HAPN : Hid (ApartK N) := by rw [Hid, ← hN]; exact apart_erase HAP.out i
    have HPV : Hid (N.map Pk.pv = (ms.map Pk.pv).take i ++ (ms.map Pk.pv).drop (i + 1)) := by rw [Hid, ← hN, List.map_append, List.map_take, List.map_drop]
    have wi : IntKind.i64.wrap ((i : Int) + 1) = (i : Int) + 1 := by rw [IntKind.wrap_i64]; omega
    have ti : ((i : Int) + 1).toNat = i + 1 := by omega
    have g0 : (0 : Int) ≤ (i : Int) + 1 := by omega
    have g1 : (i : Int) + 1 ≤ (ms.length : Int) := by omega
    have g2 : (i : Int) ≤ (cp : Int) := by omega
    have g3 : i ≤ cp := by omega
    have g4 : i + 1 ≤ ms.length := by omega
    have g8 : (0 : Int) ≤ (i : Int) := by omega
    have g9 : (i : Int) ≤ (ms.length : Int) := by omega
    have HD : Hid (Below w.heap.size w W1) := d1
    clear hN hfm rr d1 kO
    go_upto_region 9 with fail
    clear q0
    by_cases hkq : cp = i + 1
    · subst hkq
      rw [if_pos rfl, Nat.sub_self, Nat.sub_eq_zero_of_le hkb] at HRD
      have g5 : (i : Int) ≤ ((i + 1 : Nat) : Int) := by omega
      have g6 : (i : Int) ≤ (i : Int) + 1 := by omega
      have g7 : ((i + 1 : Nat) : Int) ≤ (ms.length : Int) := by omega
      have dX : Below W1.heap.size W1 (W1.alloc (.cells #[.slice (some ⟨g, 0, none⟩) i (i + 1), .slice (some ⟨g, 0, none⟩) 0 0] 24)).drew := bw_drew (bw_alloc (Below.refl _ _))
      have kX : (W1.alloc (.cells #[.slice (some ⟨g, 0, none⟩) i (i + 1), .slice (some ⟨g, 0, none⟩) 0 0] 24)).drew.heap[W1.heap.size]? = some (.cells #[.slice (some ⟨g, 0, none⟩) i (i + 1), .slice (some ⟨g, 0, none⟩) 0 0] 24 (0, 0)) := heap_alloc_new W1 _
      have X0 : Hid _ := at_cell kX 0
      have X1 : Hid _ := at_cell kX 1
      have RT := (HRT.below dX).mono dX.size
      have RD := (HRD.below dX).mono dX.size
      clear kX
      go_region_held3 (fun X => Below W1.heap.size W1 X)
        ((repeat (first | exact Below.refl _ _ | exact A8 | refine bw_drew ?_ | refine bw_alloc ?_)))
        ((go_at_call 80; refine (concatK_any W1.heap.size _ _ (ms.take i) (ms.drop (i + 1)) _ hll X0.out X1.out HMT.out HMD.out RT RD).mono ?_; rintro e w8 ⟨ub, rfl, ow8, b8⟩; rw [HNE.out] at ow8; have A8 : Below W1.heap.size W1 w8 := bw_call dX b8; obtain ⟨o6, c6, hub⟩ := own_slice ow8; subst hub; skip))
      all_goals
        have own8 := own1.below A8
        have dd := dX.size
        have HE : Hid (OwnK base w8 (.slice o6 N.length c6) N ∧ Below base w w8) := ⟨⟨owns_mono ow8 (by omega), fun b hb => own8.maps b (HN.out b hb)⟩, (bw_call HD.out A8).mono hbase⟩
        clear own8 ow8 b8 own1 A8 dX RT RD HRT HRD X0 X1
        go_wp2_with fail
        exact bodyPost_ret (v := .tuple #[.slice o6 N.length c6, .int .i64 0]) (by simp [results, Tryz.results40, go_sem]) rfl ⟨_, N, rfl, HPV.out, HE.out.1, HAPN.out, HE.out.2⟩
    · rw [if_neg hkq] at HRD
      have g5 : (i : Int) + 1 ≤ (cp : Int) := by omega
      have g6 : i + 1 ≤ cp := by omega
      have dX : Below W1.heap.size W1 (W1.alloc (.cells #[.slice (some ⟨g, 0, none⟩) i cp, .slice (some ⟨g, (i + 1) * 5, none⟩) (ms.length - (i + 1)) (cp - (i + 1))] 24)).drew := bw_drew (bw_alloc (Below.refl _ _))
      have kX : (W1.alloc (.cells #[.slice (some ⟨g, 0, none⟩) i cp, .slice (some ⟨g, (i + 1) * 5, none⟩) (ms.length - (i + 1)) (cp - (i + 1))] 24)).drew.heap[W1.heap.size]? = some (.cells #[.slice (some ⟨g, 0, none⟩) i cp, .slice (some ⟨g, (i + 1) * 5, none⟩) (ms.length - (i + 1)) (cp - (i + 1))] 24 (0, 0)) := heap_alloc_new W1 _
      have X0 : Hid _ := at_cell kX 0
      have X1 : Hid _ := at_cell kX 1
      have RT := (HRT.below dX).mono dX.size
      have RD := (HRD.below dX).mono dX.size
      clear kX
      go_region_held3 (fun X => Below W1.heap.size W1 X)
        ((repeat (first | exact Below.refl _ _ | exact A8 | refine bw_drew ?_ | refine bw_alloc ?_)))
        ((go_at_call 80; refine (concatK_any W1.heap.size _ _ (ms.take i) (ms.drop (i + 1)) _ hll X0.out X1.out HMT.out HMD.out RT RD).mono ?_; rintro e w8 ⟨ub, rfl, ow8, b8⟩; rw [HNE.out] at ow8; have A8 : Below W1.heap.size W1 w8 := bw_call dX b8; obtain ⟨o6, c6, hub⟩ := own_slice ow8; subst hub; skip))
      all_goals
        have own8 := own1.below A8
        have dd := dX.size
        have HE : Hid (OwnK base w8 (.slice o6 N.length c6) N ∧ Below base w w8) := ⟨⟨owns_mono ow8 (by omega), fun b hb => own8.maps b (HN.out b hb)⟩, (bw_call HD.out A8).mono hbase⟩
        clear own8 ow8 b8 own1 A8 dX RT RD HRT HRD X0 X1
        go_wp2_with fail
        exact bodyPost_ret (v := .tuple #[.slice o6 N.length c6, .int .i64 0]) (by simp [results, Tryz.results40, go_sem]) rfl ⟨_, N, rfl, HPV.out, HE.out.1, HAPN.out, HE.out.2⟩
end Go.Proofs.YtcefcglonooelaaGreatDoor

