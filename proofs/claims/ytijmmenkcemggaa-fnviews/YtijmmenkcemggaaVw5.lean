/-
  Chapter 14: the specification's Without and Joined, at every argument.
-/
import Derived.Test.YtijmmenkcemggaaVw4
namespace Go.Proofs.Ytijmmenkcemggaa
open Go.RowKit Nums
set_option linter.unusedVariables false
set_option maxRecDepth 100000

/-- The answer's box is written. -/
theorem view_end (w W : World) (n : Int) (u x y : Value) (b : Nat) (ms : List Int) (hb : w.heap.size ≤ b) (k : W.heap[b]? = some (.cells #[x, y] 26 (0, 0))) (own : W.ownsRow (b + 1) 2 1 u ms.length (ms.map (Value.int .i64))) (d : Below w.heap.size w W) :
    ((W.setCell ⟨b, 0, none⟩ (.int .i64 n)).setCell ⟨b, 1, none⟩ u).heap[b]? = some (.cells #[.int .i64 n, u] 26 (0, 0)) ∧ ((W.setCell ⟨b, 0, none⟩ (.int .i64 n)).setCell ⟨b, 1, none⟩ u).ownsRow w.heap.size 2 1 u ms.length (ms.map (Value.int .i64)) ∧ Below w.heap.size w ((W.setCell ⟨b, 0, none⟩ (.int .i64 n)).setCell ⟨b, 1, none⟩ u) := by
  obtain ⟨h1, h2⟩ := set_two k (.int .i64 n) u
  exact ⟨h1, owns_mono (ownsRow_upto own h2 (by omega)) (by omega), d.trans (h2.toBelow d.size (by omega))⟩

theorem owns_uptoN {w w' : World} {c base : Nat} {e : TypeId} {size : Nat} {v : Value} {n : Nat} {xs : List Value} (h : w.ownsRow base e size v n xs) (u : Upto c w w') (hb : v.ownBlock ≠ some c) : w'.ownsRow base e size v n xs := by
  obtain ⟨h1, h2⟩ := h
  refine ⟨h1, ?_⟩
  rcases h2 with h2 | ⟨g, cap, cur, hv, hg, hh, r⟩
  · exact Or.inl h2
  · have hlt : g < w.heap.size := by
      rcases Nat.lt_or_ge g w.heap.size with q | q
      · exact q
      · simp [Array.getElem?_eq_none q] at hh
    exact Or.inr ⟨g, cap, cur, hv, hg, by rw [u.block g hlt (fun q => hb (by rw [hv, ← q]; rfl))]; exact hh, r⟩

theorem withoutV_bad {n : Int} {ms : List Int} {h : Int} (hv : viewOk n ms = false) : withoutV n ms h = ((0, []), false) ∧ joinedV n ms h = ((0, []), false) := ⟨by rw [withoutV, if_neg (by rw [hv]; decide)], by rw [joinedV, if_neg (by rw [hv]; decide)]⟩
theorem withoutV_stay {n : Int} {ms : List Int} {h : Int} (hv : viewOk n ms = true) (hg : ¬ goes n ms h) : withoutV n ms h = ((n, ms), false) := by rw [withoutV, if_pos hv, if_neg hg]
theorem joinedV_stay {n : Int} {ms : List Int} {h : Int} (hv : viewOk n ms = true) (hg : ¬ comes n ms h) : joinedV n ms h = ((n, ms), false) := by rw [joinedV, if_pos hv, if_neg hg]
theorem joinedV_come {n : Int} {ms : List Int} {h : Int} (hv : viewOk n ms = true) (hg : comes n ms h) : joinedV n ms h = ((n + 1, ms ++ [h]), true) := by rw [joinedV, if_pos hv, if_pos hg]

set_option maxHeartbeats 3200000 in
theorem specWithout_any (n : Int) (v : Value) (ms : List Int) (h : Int) (w : World) (r : Reads w.heap.size w v (ms.map (Value.int .i64))) :
    Calls Try.prog 17 #[.agg #[.int .i64 n, v], .int .i64 h] w fun e w' => ∃ v' : Value, e = .returned (.tuple #[.agg #[.int .i64 (withoutV n ms h).1.1, v'], .bool (withoutV n ms h).2]) ∧ w'.ownsRow w.heap.size 2 1 v' (withoutV n ms h).1.2.length ((withoutV n ms h).1.2.map (Value.int .i64)) ∧ Below w.heap.size w w' := by
  obtain ⟨W0, hW0, k0, k1, d0, z0⟩ := box2 w #[.int .i64 n, v] #[.int .i64 0, .slice none 0 0] 26 26
  have r0 := (r.below d0).mono d0.size
  have HW0 : Hid (W0 = _) := hW0
  have p0 := at_cell k0 0
  have p1 := at_cell k0 1
  clear hW0 r
  go_enter Try.func17, Try.ntmps17
  go_wp2_with fail
  rw [← HW0.out]
  clear HW0
  refine (specViewOk_any n v ms _ r0).mono ?_
  rintro e w1 ⟨rfl, b1⟩
  replace k0 := (b1.block _ (by omega)).trans k0
  replace k1 := (b1.block _ (by omega)).trans k1
  replace r0 := (r0.below b1).mono b1.size
  replace d0 := bw_call d0 b1
  have z1 : w.heap.size + 1 + 1 ≤ w1.heap.size := by have := b1.size; omega
  clear p0 p1 b1 z0
  cases hok : viewOk n ms
  · have HV : Hid _ := (withoutV_bad (h := h) hok).1
    have q0 := at_cell k1 0
    have q1 := at_cell k1 1
    have f0 := at_open k1 0
    have f1 := at_open k1 1
    have HS : Hid _ := view_end w w1 0 (.slice none 0 0) _ _ (w.heap.size + 1) [] (by omega) k1 (owns_nil _ _ _ _) d0
    clear k0 k1 r0 hok
    go_wp2_with fail
    refine bodyPost_ret (v := .tuple #[.agg #[.int .i64 0, .slice none 0 0], .bool false]) (by simp [results, Try.results17, go_sem, at_cell HS.out.1]) rfl ⟨.slice none 0 0, by rw [HV.out], by rw [HV.out]; exact HS.out.2.1, HS.out.2.2⟩
  · obtain ⟨-, -, hnb, hl1, hl4⟩ := viewOk_parts hok
    have HOK : Hid (viewOk n ms = true) := hok
    have p0 := at_cell k0 0
    have p1 := at_cell k0 1
    clear hok
    go_wp2_with fail
    refine (l14Copy_any n v ms _ (by omega) r0).mono ?_
    rintro e w2 ⟨u, rfl, own, hu, b2⟩
    replace k1 := (b2.block _ (by omega)).trans k1
    replace d0 := bw_call d0 b2
    have z2 := b2.size
    obtain ⟨o1, c1, rfl⟩ := own_slice own
    clear p0 p1 b2 k0 r0 hu
    have dB : Below w2.heap.size w2 (w2.alloc (.cells #[.int .i64 n, .slice o1 ms.length c1] 26)) := bw_alloc (Below.refl _ _)
    have kB := heap_alloc_new w2 (.cells #[.int .i64 n, .slice o1 ms.length c1] 26)
    replace k1 := (dB.block _ (by omega)).trans k1
    replace own := owns_below own dB
    replace d0 := bw_call d0 dB
    have z3 := dB.size
    clear dB
    by_cases hg : goes n ms h
    · have HV : Hid _ := withoutV_go HOK.out hg
      obtain ⟨hg1, hg2, hg3⟩ := hg
      obtain ⟨i, hi⟩ := Int.eq_ofNat_of_zero_le hg1
      have hil : i < ms.length := by have := vAt_bd ms h; omega
      rw [hi, Int.toNat_natCast] at HV
      have HI : Hid (vAt ms h = (i : Int)) := hi
      clear hg1 hi
      go_wp2_with fail
      generalize w2.alloc (.cells #[.int .i64 n, .slice o1 ms.length c1] 26) = W3 at *
      refine (l14Without_yes _ _ n _ ms h i _ hil HI.out hg3 hnb hl4 hg2 kB own).mono ?_
      rintro e w4 ⟨v4, rfl, kB4, own4, hn4, u4⟩
      have k14 := (u4.block _ (by omega) (by omega)).trans k1
      have d4 := d0.trans (u4.toBelow d0.size (by omega))
      obtain ⟨o4, c4, rfl⟩ := own_slice own4
      have p0 := at_cell kB4 0
      have p1 := at_cell kB4 1
      have q0 := at_cell k14 0
      have q1 := at_cell k14 1
      have f0 := at_open k14 0
      have f1 := at_open k14 1
      have HS : Hid _ := view_end w w4 (n + 1) _ _ _ (w.heap.size + 1) _ (by omega) k14 (owns_mono own4 (by omega)) d4
      clear k1 own kB k14 kB4 own4 d4 d0 u4
      go_wp2_with fail
      refine bodyPost_ret (v := .tuple #[.agg #[.int .i64 (n + 1), .slice o4 (lessV ms i).length c4], .bool true]) (by simp [results, Try.results17, go_sem, at_cell HS.out.1]) rfl ⟨_, by rw [HV.out], by rw [HV.out]; exact HS.out.2.1, HS.out.2.2⟩
    · have HV : Hid _ := withoutV_stay HOK.out hg
      have HG : Hid _ := hg
      clear hg
      go_wp2_with fail
      generalize w2.alloc (.cells #[.int .i64 n, .slice o1 ms.length c1] 26) = W3 at *
      refine (l14Without_no _ n _ ms h _ HG.out kB (Reads.of_own own)).mono ?_
      rintro e w4 ⟨rfl, b4⟩
      have k14 := (b4.block _ (by omega)).trans k1
      have kB4 := (b4.block _ (heap_lt kB)).trans kB
      have own4 := owns_below own b4
      have d4 := bw_call d0 b4
      have p0 := at_cell kB4 0
      have p1 := at_cell kB4 1
      have q0 := at_cell k14 0
      have q1 := at_cell k14 1
      have f0 := at_open k14 0
      have f1 := at_open k14 1
      have HS : Hid _ := view_end w w4 n _ _ _ (w.heap.size + 1) ms (by omega) k14 (owns_mono own4 (by omega)) d4
      clear k1 own kB k14 kB4 own4 d4 d0 b4
      go_wp2_with fail
      refine bodyPost_ret (v := .tuple #[.agg #[.int .i64 n, .slice o1 ms.length c1], .bool false]) (by simp [results, Try.results17, go_sem, at_cell HS.out.1]) rfl ⟨_, by rw [HV.out], by rw [HV.out]; exact HS.out.2.1, HS.out.2.2⟩

set_option maxHeartbeats 6400000 in
theorem specJoined_any (n : Int) (v : Value) (ms : List Int) (h : Int) (w : World) (r : Reads w.heap.size w v (ms.map (Value.int .i64))) :
    Calls Try.prog 21 #[.agg #[.int .i64 n, v], .int .i64 h] w fun e w' => ∃ v' : Value, e = .returned (.tuple #[.agg #[.int .i64 (joinedV n ms h).1.1, v'], .bool (joinedV n ms h).2]) ∧ w'.ownsRow w.heap.size 2 1 v' (joinedV n ms h).1.2.length ((joinedV n ms h).1.2.map (Value.int .i64)) ∧ Below w.heap.size w w' := by
  obtain ⟨i0, hi0, hz0, hz1, hz2⟩ := info_parts Try.infoI64
  obtain ⟨W0, hW0, k0, k1, d0, z0⟩ := box2 w #[.int .i64 n, v] #[.int .i64 0, .slice none 0 0] 26 26
  have r0 := (r.below d0).mono d0.size
  have HW0 : Hid (W0 = _) := hW0
  have p0 := at_cell k0 0
  have p1 := at_cell k0 1
  clear hW0 r
  go_enter Try.func21, Try.ntmps21
  go_wp2_with fail
  rw [← HW0.out]
  clear HW0
  refine (specViewOk_any n v ms _ r0).mono ?_
  rintro e w1 ⟨rfl, b1⟩
  replace k0 := (b1.block _ (by omega)).trans k0
  replace k1 := (b1.block _ (by omega)).trans k1
  replace r0 := (r0.below b1).mono b1.size
  replace d0 := bw_call d0 b1
  have z1 : w.heap.size + 1 + 1 ≤ w1.heap.size := by have := b1.size; omega
  clear p0 p1 b1 z0
  cases hok : viewOk n ms
  · have HV : Hid _ := (withoutV_bad (h := h) hok).2
    have q0 := at_cell k1 0
    have q1 := at_cell k1 1
    have f0 := at_open k1 0
    have f1 := at_open k1 1
    have HS : Hid _ := view_end w w1 0 (.slice none 0 0) _ _ (w.heap.size + 1) [] (by omega) k1 (owns_nil _ _ _ _) d0
    clear k0 k1 r0 hok
    go_wp2_with fail
    refine bodyPost_ret (v := .tuple #[.agg #[.int .i64 0, .slice none 0 0], .bool false]) (by simp [results, Try.results21, go_sem, at_cell HS.out.1]) rfl ⟨.slice none 0 0, by rw [HV.out], by rw [HV.out]; exact HS.out.2.1, HS.out.2.2⟩
  · obtain ⟨-, -, hnb, hl1, hl4⟩ := viewOk_parts hok
    have HOK : Hid (viewOk n ms = true) := hok
    have p0 := at_cell k0 0
    have p1 := at_cell k0 1
    clear hok
    go_wp2_with fail
    refine (l14Copy_any n v ms _ (by omega) r0).mono ?_
    rintro e w2 ⟨u, rfl, own, hu, b2⟩
    replace k0 := (b2.block _ (by omega)).trans k0
    replace k1 := (b2.block _ (by omega)).trans k1
    replace r0 := (r0.below b2).mono b2.size
    replace d0 := bw_call d0 b2
    have z2 := b2.size
    obtain ⟨o1, c1, rfl⟩ := own_slice own
    clear p0 p1 b2 hu
    have dB : Below w2.heap.size w2 (w2.alloc (.cells #[.int .i64 n, .slice o1 ms.length c1] 26)) := bw_alloc (Below.refl _ _)
    have kB := heap_alloc_new w2 (.cells #[.int .i64 n, .slice o1 ms.length c1] 26)
    replace k0 := (dB.block _ (by omega)).trans k0
    replace k1 := (dB.block _ (by omega)).trans k1
    replace r0 := (r0.below dB).mono dB.size
    replace own := owns_below own dB
    replace d0 := bw_call d0 dB
    have z3 : w2.heap.size < (w2.alloc (.cells #[.int .i64 n, .slice o1 ms.length c1] 26)).heap.size := heap_lt kB
    clear dB
    go_wp2_with fail
    generalize w2.alloc (.cells #[.int .i64 n, .slice o1 ms.length c1] 26) = W3 at *
    have stay : ¬ comes n ms h → ∀ (W : World), Below W3.heap.size W3 W → W.heap[w2.heap.size]? = some (.cells #[.int .i64 n, .slice o1 ms.length c1] 26 (0, 0)) ∧ W.heap[w.heap.size + 1]? = some (.cells #[.int .i64 0, .slice none 0 0] 26 (0, 0)) ∧ W.ownsRow w1.heap.size 2 1 (.slice o1 ms.length c1) ms.length (ms.map (Value.int .i64)) ∧ Below w.heap.size w W ∧ joinedV n ms h = ((n, ms), false) := fun hg W bW =>
      ⟨(bW.block _ z3).trans kB, (bW.block _ (by omega)).trans k1, owns_below own bW, bw_call d0 bW, joinedV_stay HOK.out hg⟩
    have HST : Hid _ := stay
    clear stay
    refine (l1In_any h 0 3 _).mono ?_
    rintro e w' ⟨rfl, rfl⟩
    cases hin : (decide ((0 : Int) ≤ h) && decide (h ≤ 3))
    · obtain ⟨kB4, k14, own4, d4, hv⟩ := HST.out (fun q => by simp [q.1.1, q.1.2] at hin) w' (Below.refl _ _)
      have HV : Hid _ := hv
      have p0 := at_cell kB4 0
      have p1 := at_cell kB4 1
      have q0 := at_cell k14 0
      have q1 := at_cell k14 1
      have f0 := at_open k14 0
      have f1 := at_open k14 1
      have HS : Hid _ := view_end w w' n _ _ _ (w.heap.size + 1) ms (by omega) k14 (owns_mono own4 (by omega)) d4
      clear k0 k1 r0 own kB k14 kB4 own4 d4 d0 hv HST hin
      go_wp2_with fail
      refine bodyPost_ret (v := .tuple #[.agg #[.int .i64 n, .slice o1 ms.length c1], .bool false]) (by simp [results, Try.results21, go_sem, at_cell HS.out.1]) rfl ⟨_, by rw [HV.out], by rw [HV.out]; exact HS.out.2.1, HS.out.2.2⟩
    · have hh : 0 ≤ h ∧ h ≤ 3 := by simpa using hin
      have p0 := at_cell k0 0
      have p1 := at_cell k0 1
      clear hin
      go_wp2_with fail
      refine (l14At_any n v ms h _ r0).mono ?_
      rintro e w4 ⟨rfl, b4⟩
      have HC : Hid (comes n ms h ↔ vAt ms h < 0 ∧ n ≠ 1000) := ⟨fun q => ⟨q.2.1, q.2.2⟩, fun q => ⟨hh, q.1, q.2⟩⟩
      replace k0 := (b4.block _ (by omega)).trans k0
      have p0' := at_cell k0 0
      have p1' := at_cell k0 1
      clear p0 p1
      by_cases ha : vAt ms h < 0
      · have hga : ¬ (vAt ms h ≥ 0) := by omega
        by_cases hn : n = 1000
        · obtain ⟨kB4, k14, own4, d4, hv⟩ := HST.out (fun q => (HC.out.1 q).2 hn) w4 b4
          have HV : Hid _ := hv
          subst hn
          generalize vAt ms h = a at ha hga
          have p0 := at_cell kB4 0
          have p1 := at_cell kB4 1
          have q0 := at_cell k14 0
          have q1 := at_cell k14 1
          have f0 := at_open k14 0
          have f1 := at_open k14 1
          have HS : Hid _ := view_end w w4 1000 _ _ _ (w.heap.size + 1) ms (by omega) k14 (owns_mono own4 (by omega)) d4
          clear k0 k1 r0 own kB k14 kB4 own4 d4 d0 hv HST HC b4
          go_wp2_with fail
          refine bodyPost_ret (v := .tuple #[.agg #[.int .i64 1000, .slice o1 ms.length c1], .bool false]) (by simp [results, Try.results21, go_sem, at_cell HS.out.1]) rfl ⟨_, by rw [HV.out], by rw [HV.out]; exact HS.out.2.1, HS.out.2.2⟩
        · have hv := joinedV_come HOK.out (HC.out.2 ⟨ha, hn⟩)
          have HV : Hid _ := hv
          have hnq : (n == 1000) = false := by rw [beq_eq_false_iff_ne]; exact hn
          have hw3 : IntKind.i64.wrap (n + 1) = n + 1 := by rw [IntKind.wrap_i64]; omega
          generalize vAt ms h = a at ha hga
          have kB4 := (b4.block _ z3).trans kB
          have k14 := (b4.block _ (by omega)).trans k1
          have own4 := owns_below own b4
          have d4 := bw_call d0 b4
          have z4 := b4.size
          have p0 := at_cell kB4 0
          have p1 := at_cell kB4 1
          clear k1 r0 own kB d0 hv HST HC b4
          go_wp2_with (at_builtin; refine wpList_append_own _ rfl _ _ 24 rfl w1.heap.size 2 i0 (.int .i64 0) 1 8 Try.underlying24 hi0 hz0 hz1 hz2 rfl (by decide) _ _ _ rfl (own4.alloc _) ⟨w4.heap.size, 0, none⟩ 1 1 [.int .i64 h] rfl rfl ?c1 ?c2 ?c3 ?c4 ?c5 ?_)
          case c1 => exact new_one _ _ _
          case c2 => intro u hu; simp at hu; subst hu; rfl
          case c3 => unfold maxLen; omega
          case c4 => omega
          case c5 => simp; omega
          intro v5 w5 own5 grow5 nil5
          have e5 : ms.map (Value.int .i64) ++ [.int .i64 h] = (ms ++ [h]).map (Value.int .i64) := by simp
          have e6 : ms.length + 1 = (ms ++ [h]).length := by simp
          rw [e5, e6] at own5
          obtain ⟨o5, c5, rfl⟩ := own_slice own5
          have hnb4 := own_not_box own4 kB4 (by decide)
          have hlo : ∀ q, (Value.slice o1 ms.length c1).ownBlock = some q → w1.heap.size ≤ q := fun q hq => (own4.lt q hq).1
          have bk : ∀ (q : Nat) (X : Option Obj), q < w4.heap.size → (Value.slice o1 ms.length c1).ownBlock ≠ some q → w4.heap[q]? = X → w5.heap[q]? = X := fun q X hq hne hx => (grow5.block q (by simp; omega) (fun z => hne z.symm)).trans ((Below.heap_alloc w4 _ q hq).trans hx)
          have kB5 := bk _ _ (by omega) hnb4 kB4
          have k15 := bk _ _ (by omega) (fun q => by have := hlo _ q; omega) k14
          have k05 := bk _ _ (by omega) (fun q => by have := hlo _ q; omega) k0
          have d5 : Below w.heap.size w w5 := (bw_alloc d4).grown grow5 (by have := d4.size; simp; omega) (fun q hq => by have := hlo q hq; omega)
          have u6 : Upto w2.heap.size w5 (w5.setCell ⟨w2.heap.size, 1, none⟩ (.slice o5 (ms ++ [h]).length c5)) := (Upto.refl _ _).setCell ⟨w2.heap.size, 1, none⟩ (.inl rfl) _
          have k6B := set_1 kB5 (.slice o5 (ms ++ [h]).length c5)
          have k60 := (u6.block _ (heap_lt k05) (by omega)).trans k05
          have u7 := u6.setCell ⟨w2.heap.size, 0, none⟩ (.inl rfl) (.int .i64 (n + 1))
          have k7B := set_0 k6B (.int .i64 (n + 1))
          have k71 := (u7.block _ (heap_lt k15) (by omega)).trans k15
          have own7 := owns_mono (owns_uptoN own5 u7 (own_not_box own5 kB5 (by decide))) (show w.heap.size + 1 + 1 ≤ w1.heap.size by omega)
          have d7 := d5.trans (u7.toBelow d5.size (by omega))
          have p5 := at_cell kB5 1
          have f5 := at_open kB5 1
          have p60 := at_cell k60 0
          have p61 := at_cell k6B 0
          have f61 := at_open k6B 0
          have p70 := at_cell k7B 0
          have p71 := at_cell k7B 1
          have q0 := at_cell k71 0
          have q1 := at_cell k71 1
          have f0 := at_open k71 0
          have f1 := at_open k71 1
          have HS : Hid _ := view_end w _ (n + 1) _ _ _ (w.heap.size + 1) (ms ++ [h]) (by omega) k71 own7 d7
          have HL : Hid ((ms ++ [h]).length = (ms ++ [h]).length) := rfl
          generalize hL : (ms ++ [h]).length = L at *
          clear k0 k14 kB4 own4 d4 own5 grow5 nil5 hnb4 hlo bk kB5 k15 k05 d5 u6 k6B k60 u7 k7B k71 own7 d7 e5 e6 p0' p1' p0 p1
          go_wp2_with fail
          refine bodyPost_ret (v := .tuple #[.agg #[.int .i64 (n + 1), .slice o5 L c5], .bool true]) (by simp [results, Try.results21, go_sem, at_cell HS.out.1]) rfl ⟨_, by rw [HV.out], by rw [HV.out, hL]; exact HS.out.2.1, HS.out.2.2⟩
      · obtain ⟨kB4, k14, own4, d4, hv⟩ := HST.out (fun q => ha (HC.out.1 q).1) w4 b4
        have hga : vAt ms h ≥ 0 := by omega
        have HV : Hid _ := hv
        generalize vAt ms h = a at ha hga
        have p0 := at_cell kB4 0
        have p1 := at_cell kB4 1
        have q0 := at_cell k14 0
        have q1 := at_cell k14 1
        have f0 := at_open k14 0
        have f1 := at_open k14 1
        have HS : Hid _ := view_end w w4 n _ _ _ (w.heap.size + 1) ms (by omega) k14 (owns_mono own4 (by omega)) d4
        clear k0 k1 r0 own kB k14 kB4 own4 d4 d0 hv HST HC b4
        go_wp2_with fail
        refine bodyPost_ret (v := .tuple #[.agg #[.int .i64 n, .slice o1 ms.length c1], .bool false]) (by simp [results, Try.results21, go_sem, at_cell HS.out.1]) rfl ⟨_, by rw [HV.out], by rw [HV.out]; exact HS.out.2.1, HS.out.2.2⟩

end Go.Proofs.Ytijmmenkcemggaa
