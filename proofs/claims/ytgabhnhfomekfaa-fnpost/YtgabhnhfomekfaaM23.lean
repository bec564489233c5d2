/-
  Contracts and plain laws, one chapter behind the other.
-/
import Derived.Deep.Cut
import Derived.Test.YtgabhnhfomekfaaM22
namespace Go.Proofs.Ytgabhnhfomekfaa
open Go.RowKit

set_option linter.unusedVariables false

set_option maxRecDepth 100000


theorem flat_src15 {α : Type} {k : Nat} {cs : α → List Value} (hk : ∀ x, (cs x).length = k) (hk0 : 0 < k) {B : Nat} {w : World} {o : Option Addr} {n cap : Nat} {xs : List α} (h : ReadsR k cs B w (.slice o n cap) xs) : ∀ j u, (xs.flatMap cs)[j]? = some u → ∃ g off, o = some ⟨g, off, none⟩ ∧ w.cell? ⟨g, off + j, none⟩ = some u := fun j u hj => by
  obtain ⟨o', cap', e, -, hc, -⟩ := h
  simp only [Value.slice.injEq] at e
  obtain ⟨rfl, rfl, rfl⟩ := e
  have hjl := (List.getElem?_eq_some_iff.1 hj).1
  rw [flat_length hk] at hjl
  have hi3 : j / k < xs.length := Nat.div_lt_of_lt_mul (by rw [Nat.mul_comm]; exact hjl)
  obtain ⟨g, off, e, hg, hx⟩ := hc (j / k) xs[j / k] (List.getElem?_eq_getElem hi3)
  refine ⟨g, off, e, ?_⟩
  have hm := Nat.mod_lt j hk0
  have hd : j / k * k + j % k = j := by rw [Nat.mul_comm]; exact Nat.div_add_mod j k
  have hf := flat_get hk xs (j / k) (j % k) xs[j / k] (List.getElem?_eq_getElem hi3) hm
  rw [hd] at hf
  have := hx (j % k) u (by rw [← hf]; exact hj)
  rwa [show off + j / k * k + j % k = off + j by omega] at this

theorem msgs_one (l : List Mg) : ∀ u ∈ l.flatMap mgC, u.oneCell' = true := fun u hu => by
  obtain ⟨m, -, hm⟩ := List.mem_flatMap.1 hu
  simp only [mgC, List.mem_cons, List.not_mem_nil, or_false] at hm
  rcases hm with rfl | rfl | rfl | rfl | rfl | rfl | rfl | rfl | rfl | rfl | rfl | rfl | rfl | rfl | rfl <;> rfl

def allOk (l : List Mg) : Bool := l.all msgOk

def postOk (l : List Mg) : Bool := allOk l && decide (l.length ≤ 60)

def posted (l m : List Mg) : List Mg × Bool := if postOk l = true then (if postOk m = true ∧ l.length + m.length ≤ 60 then (l ++ m, true) else (l, false)) else ([], false)

theorem allOk_no {l : List Mg} {k : Nat} (hk : k < l.length) (h : msgOk l[k] = false) : allOk l = false := by
  rw [allOk, Bool.eq_false_iff]
  intro h2
  rw [List.all_eq_true.1 h2 _ (List.getElem_mem hk)] at h
  cases h

theorem own_nomsgs (w : World) : (w.alloc (.cells #[] 38)).ownsRow w.heap.size 38 15 (.slice (some ⟨w.heap.size, 0, none⟩) 0 0) 0 [] := ⟨rfl, .inr ⟨_, 0, _, rfl, Nat.le_refl _, heap_alloc_new w _, Nat.le_refl _, Nat.zero_le _, rfl, rfl⟩⟩

set_option maxHeartbeats 3200000 in
theorem l15Ok_any (v : Value) (l : List Mg) (w : World) (hf : FitPost l) (r : ReadsR 15 mgC w.heap.size w v l) :
    Calls Try.prog 27 #[v] w fun e w' => e = .returned (.bool (postOk l)) ∧ Below w.heap.size w w' := by
  have HF : Hid _ := hf
  obtain ⟨o, cap, rfl, hm, hc, -⟩ := r
  have HC : Hid _ := mg_cells hc
  unfold maxLen at hm
  clear hc hf
  go_enter Try.func27, Try.ntmps27
  go_wp2_with fail
  go_loopw [3] (fun i wr => ∃ k : Nat, k ≤ l.length ∧ i = .int .i64 k ∧ (∀ j (hj : j < l.length), j < k → msgOk l[j] = true) ∧ Below w.heap.size w wr) (fun i _ => l.length - (intOf i).toNat)
  case atStart => exact ⟨0, Nat.zero_le _, rfl, fun j _ h => by omega, Below.refl _ _⟩
  case round =>
    obtain ⟨kk, hk, rfl, hall, hb⟩ := hrel
    have HA : Hid _ := hall
    clear hall
    by_cases hlt : kk < l.length
    · obtain ⟨g, off, rfl, hg, a0, a1, a2, a3, a4, a5, a6, a7, a8, a9, a10, a11, a12, a13, a14⟩ := HC.out kk hlt
      have hfe := HF.out l[kk] (List.getElem_mem hlt)
      have HN : Hid (msgOk l[kk] = false → postOk l = false) := fun h => by rw [postOk, allOk_no hlt h]; rfl
      have HY : Hid (msgOk l[kk] = true → ∀ j (hj : j < l.length), j < kk + 1 → msgOk l[j] = true) := fun h j hj hjk => by
        rcases Nat.lt_or_ge j kk with y | y
        · exact HA.out j hj y
        · obtain rfl : j = kk := by omega
          exact h
      obtain ⟨x, hx⟩ : ∃ x, l[kk] = x := ⟨_, rfl⟩
      have HX : Hid (l[kk] = x) := hx
      rw [hx] at a0 a1 a2 a3 a4 a5 a6 a7 a8 a9 a10 a11 a12 a13 a14 hfe
      clear hx HC HA
      obtain ⟨kd, ds, vw, ⟨sq, cl, tg, ⟨k, nm, ot, at_, va, ep⟩⟩, s, rc, rv⟩ := x
      simp only at a0 a1 a2 a3 a4 a5 a6 a7 a8 a9 a10 a11 a12 a13 a14
      replace a0 := (hb.cell (p := ⟨g, off + kk * 15, none⟩) hg).trans a0
      replace a1 := (hb.cell (p := ⟨g, off + kk * 15 + 1, none⟩) hg).trans a1
      replace a2 := (hb.cell (p := ⟨g, off + kk * 15 + 2, none⟩) hg).trans a2
      replace a3 := (hb.cell (p := ⟨g, off + kk * 15 + 3, none⟩) hg).trans a3
      replace a4 := (hb.cell (p := ⟨g, off + kk * 15 + 4, none⟩) hg).trans a4
      replace a5 := (hb.cell (p := ⟨g, off + kk * 15 + 5, none⟩) hg).trans a5
      replace a6 := (hb.cell (p := ⟨g, off + kk * 15 + 6, none⟩) hg).trans a6
      replace a7 := (hb.cell (p := ⟨g, off + kk * 15 + 7, none⟩) hg).trans a7
      replace a8 := (hb.cell (p := ⟨g, off + kk * 15 + 8, none⟩) hg).trans a8
      replace a9 := (hb.cell (p := ⟨g, off + kk * 15 + 9, none⟩) hg).trans a9
      replace a10 := (hb.cell (p := ⟨g, off + kk * 15 + 10, none⟩) hg).trans a10
      replace a11 := (hb.cell (p := ⟨g, off + kk * 15 + 11, none⟩) hg).trans a11
      replace a12 := (hb.cell (p := ⟨g, off + kk * 15 + 12, none⟩) hg).trans a12
      replace a13 := (hb.cell (p := ⟨g, off + kk * 15 + 13, none⟩) hg).trans a13
      replace a14 := (hb.cell (p := ⟨g, off + kk * 15 + 14, none⟩) hg).trans a14
      go_wp2_with fail
      refine (specMsgOk_any kd ds vw sq cl tg k nm ot at_ va ep s rc rv _ hfe.1.1.1 hfe.1.1.2).mono ?_
      rintro e w1 ⟨rfl, b1⟩
      replace hb := bw_call hb b1
      clear a0 a1 a2 a3 a4 a5 a6 a7 a8 a9 a10 a11 a12 a13 a14 b1
      cases hmo : msgOk ⟨kd, ds, vw, ⟨sq, cl, tg, ⟨k, nm, ot, at_, va, ep⟩⟩, s, rc, rv⟩
      · have HV : Hid _ := HN.out (by rw [HX.out]; exact hmo)
        clear hmo
        go_wp2_with fail
        go_ret
        exact ⟨ret_bool HV.out.symm, hb⟩
      · have HV : Hid _ := HY.out (by rw [HX.out]; exact hmo)
        clear hmo
        go_wp2_with fail
        go_roundw
        case rel => exact ⟨kk + 1, by omega, by go_num, HV.out, hb⟩
        case measure => simp [intOf]; omega
    · have hall2 : allOk l = true := List.all_eq_true.2 (fun x hx => by
        obtain ⟨j, hj, rfl⟩ := List.getElem_of_mem hx
        exact HA.out j hj (by omega))
      have HV : Hid (postOk l = decide ((l.length : Int) ≤ 60)) := by
        rw [Hid, postOk, hall2, Bool.true_and]
        by_cases h60 : l.length ≤ 60
        · rw [decide_eq_true h60, decide_eq_true (show (l.length : Int) ≤ 60 by omega)]
        · rw [decide_eq_false h60, decide_eq_false (show ¬ (l.length : Int) ≤ 60 by omega)]
      clear hall2 HC HA HF
      go_wp2_with fail
      go_ret
      exact ⟨ret_bool HV.out.symm, hb⟩

set_option maxHeartbeats 3200000 in
theorem specPosted_any (v1 v2 : Value) (l m : List Mg) (w : World) (hf1 : FitPost l) (hf2 : FitPost m) (r1 : ReadsR 15 mgC w.heap.size w v1 l) (r2 : ReadsR 15 mgC w.heap.size w v2 m) :
    Calls Try.prog 12 #[v1, v2] w fun e w' => ∃ v', e = .returned (.tuple #[v', .bool (posted l m).2]) ∧ w'.ownsRow w.heap.size 38 15 v' (posted l m).1.length ((posted l m).1.flatMap mgC) ∧ Below w.heap.size w w' := by
  obtain ⟨i0, hi, hz0, hz1, hz2⟩ := info_parts Try.infoMsg
  obtain ⟨o1, c1, rfl⟩ := r1.form
  obtain ⟨o2, c2, rfl⟩ := r2.form
  go_enter Try.func12, Try.ntmps12
  go_wp2_with fail
  refine (l15Ok_any _ l _ hf1 r1).mono ?_
  rintro e w1 ⟨rfl, b1⟩
  cases h1 : postOk l
  · have HP : Hid (posted l m = ([], false)) := by rw [Hid, posted, h1]; rfl
    have own1 := owns_mono (own_nomsgs w1) b1.size
    have bA : Below w.heap.size w (w1.alloc (.cells #[] 38)) := bw_alloc b1
    clear h1 r1 r2 b1
    go_wp2_with fail
    exact bodyPost_ret (v := .tuple #[.slice (some ⟨w1.heap.size, 0, none⟩) 0 0, .bool false]) (by simp [results, Try.results12, go_sem]) rfl ⟨_, by rw [HP.out], by rw [HP.out]; exact own1, bA⟩
  have H1 : Hid (postOk l = true) := h1
  have hl60 : l.length ≤ 60 := by
    simp only [postOk, Bool.and_eq_true, decide_eq_true_eq] at h1
    exact h1.2
  obtain ⟨W2, hW2⟩ : ∃ W2, W2 = w1.alloc (.cells #[] 38) := ⟨_, rfl⟩
  have b2 : Below w1.heap.size w1 W2 := by rw [hW2]; exact bw_alloc (Below.refl _ _)
  have own0 : W2.ownsRow w.heap.size 38 15 (.slice (some ⟨w1.heap.size, 0, none⟩) 0 0) 0 [] := by rw [hW2]; exact owns_mono (own_nomsgs w1) b1.size
  have B2 := bw_call b1 b2
  have r12 := (r1.below B2).mono B2.size
  have r22 := (r2.below B2).mono B2.size
  have HW2 : Hid (W2 = _) := hW2
  have HSRC : Hid _ := flat_src15 mgC_len (by decide) r12
  clear hW2 h1 b2 b1 r1 r22
  go_wp2_with (at_builtin; rw [← HW2.out]; refine wpList_append_reads rfl _ _ 24 rfl w.heap.size 38 i0 (.agg #[.int .i64 0, .int .i64 0, .int .i64 0, .int .i64 0, .int .i64 0, .int .i64 0, .int .i64 0, .string ByteArray.empty, .string ByteArray.empty, .int .i64 0, .int .i64 0, .int .i64 0, .int .i64 0, .int .i64 0, .int .i64 0]) 15 136 Try.underlying24 hi hz0 hz1 hz2 rfl (by decide) (.slice (some ⟨w1.heap.size, 0, none⟩) 0 0) 0 [] rfl own0 o1 l.length c1 (l.flatMap mgC) rfl (flat_length mgC_len l) HSRC.out (msgs_one l) (by unfold maxLen; omega) (by omega) B2.size ?_)
  intro v3 w3 own3 gr3 nil3
  have own3' : w3.ownsRow w.heap.size 38 15 v3 l.length (l.flatMap mgC) := by simpa using own3
  have hbl : ∀ k, (Value.slice (some ⟨w1.heap.size, 0, none⟩) 0 0).ownBlock = some k → w.heap.size ≤ k := fun k hk => (own0.lt k hk).1
  have B3 : Below w.heap.size w w3 := B2.grown gr3 B2.size hbl
  obtain ⟨o3, c3, rfl⟩ := own_slice own3'
  have r23 := (r2.below B3).mono B3.size
  have hr2 := r2
  clear own3 gr3 nil3 hbl own0 HW2 HSRC r12 B2
  go_wp2_with fail
  refine (l15Ok_any _ m _ hf2 r23).mono ?_
  rintro e w4 ⟨rfl, b4⟩
  have own4 := owns_below own3' b4
  have B4 := bw_call B3 b4
  have r24 := (r2.below B4).mono B4.size
  clear own3' r23 b4 B3 r2 hr2
  cases h2 : postOk m
  · have HP : Hid (posted l m = (l, false)) := by rw [Hid, posted, if_pos H1.out, if_neg (by rw [h2]; simp)]
    clear h2
    go_wp2_with fail
    exact bodyPost_ret (v := .tuple #[.slice o3 l.length c3, .bool false]) (by simp [results, Try.results12, go_sem]) rfl ⟨_, by rw [HP.out], by rw [HP.out]; exact own4, B4⟩
  have H2 : Hid (postOk m = true) := h2
  have hm60 : m.length ≤ 60 := by
    simp only [postOk, Bool.and_eq_true, decide_eq_true_eq] at h2
    exact h2.2
  clear h2
  by_cases hs : l.length + m.length ≤ 60
  case neg =>
    have HP : Hid (posted l m = (l, false)) := by rw [Hid, posted, if_pos H1.out, if_neg (fun h => hs h.2)]
    have hs' : (60 : Int) < (l.length : Int) + (m.length : Int) := by omega
    go_wp2_with fail
    exact bodyPost_ret (v := .tuple #[.slice o3 l.length c3, .bool false]) (by simp [results, Try.results12, go_sem]) rfl ⟨_, by rw [HP.out], by rw [HP.out]; exact own4, B4⟩
  have HP : Hid (posted l m = (l ++ m, true)) := by rw [Hid, posted, if_pos H1.out, if_pos ⟨H2.out, hs⟩]
  have hs' : ¬ (60 : Int) < (l.length : Int) + (m.length : Int) := by omega
  have HS2 : Hid _ := flat_src15 mgC_len (by decide) r24
  have hbl : Hid (∀ k, (Value.slice o3 l.length c3).ownBlock = some k → w.heap.size ≤ k) := fun k hk => (own4.lt k hk).1
  go_wp2_with (at_builtin; refine wpList_append_reads rfl _ _ 24 rfl w.heap.size 38 i0 (.agg #[.int .i64 0, .int .i64 0, .int .i64 0, .int .i64 0, .int .i64 0, .int .i64 0, .int .i64 0, .string ByteArray.empty, .string ByteArray.empty, .int .i64 0, .int .i64 0, .int .i64 0, .int .i64 0, .int .i64 0, .int .i64 0]) 15 136 Try.underlying24 hi hz0 hz1 hz2 rfl (by decide) (.slice o3 l.length c3) l.length (l.flatMap mgC) rfl own4 o2 m.length c2 (m.flatMap mgC) rfl (flat_length mgC_len m) HS2.out (msgs_one m) (by unfold maxLen; omega) (by omega) B4.size ?_)
  intro v5 w5 own5 gr5 nil5
  have B5 : Below w.heap.size w w5 := B4.grown gr5 B4.size hbl.out
  have HF : Hid (w5.ownsRow w.heap.size 38 15 v5 (l ++ m).length ((l ++ m).flatMap mgC)) := by
    rw [Hid, List.length_append, List.flatMap_append]
    exact own5
  clear own5 gr5 nil5 own4 r24 HS2
  go_wp2_with fail
  exact bodyPost_ret (v := .tuple #[v5, .bool true]) (by simp [results, Try.results12, go_sem]) rfl ⟨v5, by rw [HP.out], by rw [HP.out]; exact HF.out, B5⟩
end Go.Proofs.Ytgabhnhfomekfaa

