/-
  Contracts and plain laws, one chapter behind the other.
-/
import Derived.Deep.RegionLaw
import Derived.Test.YtghhphhnalfjaaaM01
import Derived.Test.YtghhphhnalfjaaaM04
namespace Go.Proofs.Ytghhphhnalfjaaa
open Go.RowKit

set_option linter.unusedVariables false

set_option maxRecDepth 100000


theorem flat_src15 {α : Type} {k : Nat} {cs : α → List Value} (hk : ∀ x, (cs x).length = k) (hk0 : 0 < k) {B : Nat} {w : World} {o : Option Addr} {n cap : Nat} {xs : List α} (h : ReadsR k cs B w (.slice o n cap) xs) : ∀ j u, (xs.flatMap cs)[j]? = some u → ∃ g off, o = some ⟨g, off, none⟩ ∧ w.cell? ⟨g, off + j, none⟩ = some u := fun j u hj => by
  obtain ⟨o', cap', e, -, hc, -⟩ := h
  simp only [Value.slice.injEq] at e
  obtain ⟨rfl, rfl, rfl⟩ := e
  have hjl := (List.getElem?_eq_some_iff.1 hj).1
  rw [flat_length hk] at hjl
  have hi3 : j / k < xs.length := Nat.div_lt_of_lt_mul (by rw [Nat.mul_comm]; exact hjl)
  obtain ⟨g, off, e, hg, hx⟩ := hc (j / k) xs[j / k] (List.getElem?_eq_getElem hi3)
  refine ⟨g, off, e, ?_⟩
  have hm := Nat.mod_lt j hk0
  have hd : j / k * k + j % k = j := by rw [Nat.mul_comm]; exact Nat.div_add_mod j k
  have hf := flat_get hk xs (j / k) (j % k) xs[j / k] (List.getElem?_eq_getElem hi3) hm
  rw [hd] at hf
  have := hx (j % k) u (by rw [← hf]; exact hj)
  rwa [show off + j / k * k + j % k = off + j by omega] at this

theorem msgs_one (l : List Mg) : ∀ u ∈ l.flatMap mgC, u.oneCell' = true := fun u hu => by
  obtain ⟨m, -, hm⟩ := List.mem_flatMap.1 hu
  simp only [mgC, List.mem_cons, List.not_mem_nil, or_false] at hm
  rcases hm with rfl | rfl | rfl | rfl | rfl | rfl | rfl | rfl | rfl | rfl | rfl | rfl | rfl | rfl | rfl <;> rfl

def allOk (l : List Mg) : Bool := l.all msgOk

def postOk (l : List Mg) : Bool := allOk l && decide (l.length ≤ 60)

def posted (l m : List Mg) : List Mg × Bool := if postOk l = true then (if postOk m = true ∧ l.length + m.length ≤ 60 then (l ++ m, true) else (l, false)) else ([], false)

theorem allOk_no {l : List Mg} {k : Nat} (hk : k < l.length) (h : msgOk l[k] = false) : allOk l = false := by
  rw [allOk, Bool.eq_false_iff]
  intro h2
  rw [List.all_eq_true.1 h2 _ (List.getElem_mem hk)] at h
  cases h

theorem own_nomsgs (w : World) : (w.alloc (.cells #[] 38)).ownsRow w.heap.size 38 15 (.slice (some ⟨w.heap.size, 0, none⟩) 0 0) 0 [] := ⟨rfl, .inr ⟨_, 0, _, rfl, Nat.le_refl _, heap_alloc_new w _, Nat.le_refl _, Nat.zero_le _, rfl, rfl⟩⟩

set_option maxHeartbeats 3200000 in
theorem l15Ok_any (v : Value) (l : List Mg) (w : World) (hf : FitPost l) (r : ReadsR 15 mgC w.heap.size w v l) :
    Calls Try.prog 44 #[v] w fun e w' => e = .returned (.bool (postOk l)) ∧ Below w.heap.size w w' := by
  have HF : Hid _ := hf
  obtain ⟨o, cap, rfl, hm, hc, -⟩ := r
  have HC : Hid _ := mg_cells hc
  unfold maxLen at hm
  clear hc hf
  go_enter Try.func44, Try.ntmps44
  go_wp2_with fail
  go_loopw [3] (fun i wr => ∃ k : Nat, k ≤ l.length ∧ i = .int .i64 k ∧ (∀ j (hj : j < l.length), j < k → msgOk l[j] = true) ∧ Below w.heap.size w wr) (fun i _ => l.length - (intOf i).toNat)
  case atStart => exact ⟨0, Nat.zero_le _, rfl, fun j _ h => by omega, Below.refl _ _⟩
  case round =>
    obtain ⟨kk, hk, rfl, hall, hb⟩ := hrel
    have HA : Hid _ := hall
    clear hall
    by_cases hlt : kk < l.length
    · obtain ⟨g, off, rfl, hg, a0, a1, a2, a3, a4, a5, a6, a7, a8, a9, a10, a11, a12, a13, a14⟩ := HC.out kk hlt
      have hfe := HF.out l[kk] (List.getElem_mem hlt)
      have HN : Hid (msgOk l[kk] = false → postOk l = false) := fun h => by rw [postOk, allOk_no hlt h]; rfl
      have HY : Hid (msgOk l[kk] = true → ∀ j (hj : j < l.length), j < kk + 1 → msgOk l[j] = true) := fun h j hj hjk => by
        rcases Nat.lt_or_ge j kk with y | y
        · exact HA.out j hj y
        · obtain rfl : j = kk := by omega
          exact h
      obtain ⟨x, hx⟩ : ∃ x, l[kk] = x := ⟨_, rfl⟩
      have HX : Hid (l[kk] = x) := hx
      rw [hx] at a0 a1 a2 a3 a4 a5 a6 a7 a8 a9 a10 a11 a12 a13 a14 hfe
      clear hx HC HA
      obtain ⟨kd, ds, vw, ⟨sq, cl, tg, ⟨k, nm, ot, at_, va, ep⟩⟩, s, rc, rv⟩ := x
      simp only at a0 a1 a2 a3 a4 a5 a6 a7 a8 a9 a10 a11 a12 a13 a14
      replace a0 := (hb.cell (p := ⟨g, off + kk * 15, none⟩) hg).trans a0
      replace a1 := (hb.cell (p := ⟨g, off + kk * 15 + 1, none⟩) hg).trans a1
      replace a2 := (hb.cell (p := ⟨g, off + kk * 15 + 2, none⟩) hg).trans a2
      replace a3 := (hb.cell (p := ⟨g, off + kk * 15 + 3, none⟩) hg).trans a3
      replace a4 := (hb.cell (p := ⟨g, off + kk * 15 + 4, none⟩) hg).trans a4
      replace a5 := (hb.cell (p := ⟨g, off + kk * 15 + 5, none⟩) hg).trans a5
      replace a6 := (hb.cell (p := ⟨g, off + kk * 15 + 6, none⟩) hg).trans a6
      replace a7 := (hb.cell (p := ⟨g, off + kk * 15 + 7, none⟩) hg).trans a7
      replace a8 := (hb.cell (p := ⟨g, off + kk * 15 + 8, none⟩) hg).trans a8
      replace a9 := (hb.cell (p := ⟨g, off + kk * 15 + 9, none⟩) hg).trans a9
      replace a10 := (hb.cell (p := ⟨g, off + kk * 15 + 10, none⟩) hg).trans a10
      replace a11 := (hb.cell (p := ⟨g, off + kk * 15 + 11, none⟩) hg).trans a11
      replace a12 := (hb.cell (p := ⟨g, off + kk * 15 + 12, none⟩) hg).trans a12
      replace a13 := (hb.cell (p := ⟨g, off + kk * 15 + 13, none⟩) hg).trans a13
      replace a14 := (hb.cell (p := ⟨g, off + kk * 15 + 14, none⟩) hg).trans a14
      go_wp2_with fail
      refine (specMsgOk_any kd ds vw sq cl tg k nm ot at_ va ep s rc rv _ hfe.1.1.1 hfe.1.1.2).mono ?_
      rintro e w1 ⟨rfl, b1⟩
      replace hb := bw_call hb b1
      clear a0 a1 a2 a3 a4 a5 a6 a7 a8 a9 a10 a11 a12 a13 a14 b1
      cases hmo : msgOk ⟨kd, ds, vw, ⟨sq, cl, tg, ⟨k, nm, ot, at_, va, ep⟩⟩, s, rc, rv⟩
      · have HV : Hid _ := HN.out (by rw [HX.out]; exact hmo)
        clear hmo
        go_wp2_with fail
        go_ret
        exact ⟨ret_bool HV.out.symm, hb⟩
      · have HV : Hid _ := HY.out (by rw [HX.out]; exact hmo)
        clear hmo
        go_wp2_with fail
        go_roundw
        case rel => exact ⟨kk + 1, by omega, by go_num, HV.out, hb⟩
        case measure => simp [intOf]; omega
    · have hall2 : allOk l = true := List.all_eq_true.2 (fun x hx => by
        obtain ⟨j, hj, rfl⟩ := List.getElem_of_mem hx
        exact HA.out j hj (by omega))
      have HV : Hid (postOk l = decide ((l.length : Int) ≤ 60)) := by
        rw [Hid, postOk, hall2, Bool.true_and]
        by_cases h60 : l.length ≤ 60
        · rw [decide_eq_true h60, decide_eq_true (show (l.length : Int) ≤ 60 by omega)]
        · rw [decide_eq_false h60, decide_eq_false (show ¬ (l.length : Int) ≤ 60 by omega)]
      clear hall2 HC HA HF
      go_wp2_with fail
      go_ret
      exact ⟨ret_bool HV.out.symm, hb⟩

set_option maxHeartbeats 3200000 in
theorem specPosted_any (v1 v2 : Value) (l m : List Mg) (w : World) (hf1 : FitPost l) (hf2 : FitPost m) (r1 : ReadsR 15 mgC w.heap.size w v1 l) (r2 : ReadsR 15 mgC w.heap.size w v2 m) :
    Calls Try.prog 16 #[v1, v2] w fun e w' => ∃ v', e = .returned (.tuple #[v', .bool (posted l m).2]) ∧ w'.ownsRow w.heap.size 38 15 v' (posted l m).1.length ((posted l m).1.flatMap mgC) ∧ Below w.heap.size w w' := by
  obtain ⟨i0, hi, hz0, hz1, hz2⟩ := info_parts Try.infoMsg
  obtain ⟨o1, c1, rfl⟩ := r1.form
  obtain ⟨o2, c2, rfl⟩ := r2.form
  go_enter Try.func16, Try.ntmps16
  go_wp2_with fail
  refine (l15Ok_any _ l _ hf1 r1).mono ?_
  rintro e w1 ⟨rfl, b1⟩
  cases h1 : postOk l
  · have HP : Hid (posted l m = ([], false)) := by rw [Hid, posted, h1]; rfl
    have own1 := owns_mono (own_nomsgs w1) b1.size
    have bA : Below w.heap.size w (w1.alloc (.cells #[] 38)) := bw_alloc b1
    clear h1 r1 r2 b1
    go_wp2_with fail
    exact bodyPost_ret (v := .tuple #[.slice (some ⟨w1.heap.size, 0, none⟩) 0 0, .bool false]) (by simp [results, Try.results16, go_sem]) rfl ⟨_, by rw [HP.out], by rw [HP.out]; exact own1, bA⟩
  have H1 : Hid (postOk l = true) := h1
  have hl60 : l.length ≤ 60 := by
    simp only [postOk, Bool.and_eq_true, decide_eq_true_eq] at h1
    exact h1.2
  obtain ⟨W2, hW2⟩ : ∃ W2, W2 = w1.alloc (.cells #[] 38) := ⟨_, rfl⟩
  have b2 : Below w1.heap.size w1 W2 := by rw [hW2]; exact bw_alloc (Below.refl _ _)
  have own0 : W2.ownsRow w.heap.size 38 15 (.slice (some ⟨w1.heap.size, 0, none⟩) 0 0) 0 [] := by rw [hW2]; exact owns_mono (own_nomsgs w1) b1.size
  have B2 := bw_call b1 b2
  have r12 := (r1.below B2).mono B2.size
  have r22 := (r2.below B2).mono B2.size
  have HW2 : Hid (W2 = _) := hW2
  have HSRC : Hid _ := flat_src15 mgC_len (by decide) r12
  clear hW2 h1 b2 b1 r1 r22
  go_wp2_with (at_builtin; rw [← HW2.out]; refine wpList_append_reads rfl _ _ 24 rfl w.heap.size 38 i0 (.agg #[.int .i64 0, .int .i64 0, .int .i64 0, .int .i64 0, .int .i64 0, .int .i64 0, .int .i64 0, .string ByteArray.empty, .string ByteArray.empty, .int .i64 0, .int .i64 0, .int .i64 0, .int .i64 0, .int .i64 0, .int .i64 0]) 15 136 Try.underlying24 hi hz0 hz1 hz2 rfl (by decide) (.slice (some ⟨w1.heap.size, 0, none⟩) 0 0) 0 [] rfl own0 o1 l.length c1 (l.flatMap mgC) rfl (flat_length mgC_len l) HSRC.out (msgs_one l) (by unfold maxLen; omega) (by omega) B2.size ?_)
  intro v3 w3 own3 gr3 nil3
  have own3' : w3.ownsRow w.heap.size 38 15 v3 l.length (l.flatMap mgC) := by simpa using own3
  have hbl : ∀ k, (Value.slice (some ⟨w1.heap.size, 0, none⟩) 0 0).ownBlock = some k → w.heap.size ≤ k := fun k hk => (own0.lt k hk).1
  have B3 : Below w.heap.size w w3 := B2.grown gr3 B2.size hbl
  obtain ⟨o3, c3, rfl⟩ := own_slice own3'
  have r23 := (r2.below B3).mono B3.size
  have hr2 := r2
  clear own3 gr3 nil3 hbl own0 HW2 HSRC r12 B2
  go_wp2_with fail
  refine (l15Ok_any _ m _ hf2 r23).mono ?_
  rintro e w4 ⟨rfl, b4⟩
  have own4 := owns_below own3' b4
  have B4 := bw_call B3 b4
  have r24 := (r2.below B4).mono B4.size
  clear own3' r23 b4 B3 r2 hr2
  cases h2 : postOk m
  · have HP : Hid (posted l m = (l, false)) := by rw [Hid, posted, if_pos H1.out, if_neg (by rw [h2]; simp)]
    clear h2
    go_wp2_with fail
    exact bodyPost_ret (v := .tuple #[.slice o3 l.length c3, .bool false]) (by simp [results, Try.results16, go_sem]) rfl ⟨_, by rw [HP.out], by rw [HP.out]; exact own4, B4⟩
  have H2 : Hid (postOk m = true) := h2
  have hm60 : m.length ≤ 60 := by
    simp only [postOk, Bool.and_eq_true, decide_eq_true_eq] at h2
    exact h2.2
  clear h2
  by_cases hs : l.length + m.length ≤ 60
  case neg =>
    have HP : Hid (posted l m = (l, false)) := by rw [Hid, posted, if_pos H1.out, if_neg (fun h => hs h.2)]
    have hs' : (60 : Int) < (l.length : Int) + (m.length : Int) := by omega
    go_wp2_with fail
    exact bodyPost_ret (v := .tuple #[.slice o3 l.length c3, .bool false]) (by simp [results, Try.results16, go_sem]) rfl ⟨_, by rw [HP.out], by rw [HP.out]; exact own4, B4⟩
  have HP : Hid (posted l m = (l ++ m, true)) := by rw [Hid, posted, if_pos H1.out, if_pos ⟨H2.out, hs⟩]
  have hs' : ¬ (60 : Int) < (l.length : Int) + (m.length : Int) := by omega
  have HS2 : Hid _ := flat_src15 mgC_len (by decide) r24
  have hbl : Hid (∀ k, (Value.slice o3 l.length c3).ownBlock = some k → w.heap.size ≤ k) := fun k hk => (own4.lt k hk).1
  go_wp2_with (at_builtin; refine wpList_append_reads rfl _ _ 24 rfl w.heap.size 38 i0 (.agg #[.int .i64 0, .int .i64 0, .int .i64 0, .int .i64 0, .int .i64 0, .int .i64 0, .int .i64 0, .string ByteArray.empty, .string ByteArray.empty, .int .i64 0, .int .i64 0, .int .i64 0, .int .i64 0, .int .i64 0, .int .i64 0]) 15 136 Try.underlying24 hi hz0 hz1 hz2 rfl (by decide) (.slice o3 l.length c3) l.length (l.flatMap mgC) rfl own4 o2 m.length c2 (m.flatMap mgC) rfl (flat_length mgC_len m) HS2.out (msgs_one m) (by unfold maxLen; omega) (by omega) B4.size ?_)
  intro v5 w5 own5 gr5 nil5
  have B5 : Below w.heap.size w w5 := B4.grown gr5 B4.size hbl.out
  have HF : Hid (w5.ownsRow w.heap.size 38 15 v5 (l ++ m).length ((l ++ m).flatMap mgC)) := by
    rw [Hid, List.length_append, List.flatMap_append]
    exact own5
  clear own5 gr5 nil5 own4 r24 HS2
  go_wp2_with fail
  exact bodyPost_ret (v := .tuple #[v5, .bool true]) (by simp [results, Try.results16, go_sem]) rfl ⟨v5, by rw [HP.out], by rw [HP.out]; exact HF.out, B5⟩
end Go.Proofs.Ytghhphhnalfjaaa

namespace Go.Proofs.Ytghhphhnalfjaaa
open Go.RowKit

set_option linter.unusedVariables false

set_option maxRecDepth 100000


theorem msg_segA {w : World} {base g n cap : Nat} {xs : List Mg} (h : w.ownsRow base 38 15 (.slice (some ⟨g, 0, none⟩) n cap) xs.length (xs.flatMap mgC)) (i : Nat) (hi : i < xs.length) (x : Mg) (hx : xs[i]? = some x) (a0 : Int) (a1 : Int) (a2 : Int) (a3 : Int) (a4 : Int) (a5 : Int) (a6 : Int) :
    (((((((w.setCell ⟨g, i * 15, none⟩ (.int .i64 a0)).setCell ⟨g, i * 15 + 1, none⟩ (.int .i64 a1)).setCell ⟨g, i * 15 + 2, none⟩ (.int .i64 a2)).setCell ⟨g, i * 15 + 3, none⟩ (.int .i64 a3)).setCell ⟨g, i * 15 + 4, none⟩ (.int .i64 a4)).setCell ⟨g, i * 15 + 5, none⟩ (.int .i64 a5)).setCell ⟨g, i * 15 + 6, none⟩ (.int .i64 a6)).ownsRow base 38 15 (.slice (some ⟨g, 0, none⟩) n cap) (xs.set i ⟨a0, a1, a2, ⟨a3, a4, a5, ⟨a6, x.e.o.nm, x.e.o.ot, x.e.o.at_, x.e.o.va, x.e.o.ep⟩⟩, x.s, x.rc, x.rv⟩).length ((xs.set i ⟨a0, a1, a2, ⟨a3, a4, a5, ⟨a6, x.e.o.nm, x.e.o.ot, x.e.o.at_, x.e.o.va, x.e.o.ep⟩⟩, x.s, x.rc, x.rv⟩).flatMap mgC) := by
  have h0 := own_put mgC_len h i 0 x ⟨a0, x.ds, x.vw, ⟨x.e.sq, x.e.cl, x.e.tg, ⟨x.e.o.k, x.e.o.nm, x.e.o.ot, x.e.o.at_, x.e.o.va, x.e.o.ep⟩⟩, x.s, x.rc, x.rv⟩ (.int .i64 a0) hx (by omega) rfl
  have h1 := own_put mgC_len h0 i 1 ⟨a0, x.ds, x.vw, ⟨x.e.sq, x.e.cl, x.e.tg, ⟨x.e.o.k, x.e.o.nm, x.e.o.ot, x.e.o.at_, x.e.o.va, x.e.o.ep⟩⟩, x.s, x.rc, x.rv⟩ ⟨a0, a1, x.vw, ⟨x.e.sq, x.e.cl, x.e.tg, ⟨x.e.o.k, x.e.o.nm, x.e.o.ot, x.e.o.at_, x.e.o.va, x.e.o.ep⟩⟩, x.s, x.rc, x.rv⟩ (.int .i64 a1) (by simp [hi]) (by omega) rfl
  have h2 := own_put mgC_len h1 i 2 ⟨a0, a1, x.vw, ⟨x.e.sq, x.e.cl, x.e.tg, ⟨x.e.o.k, x.e.o.nm, x.e.o.ot, x.e.o.at_, x.e.o.va, x.e.o.ep⟩⟩, x.s, x.rc, x.rv⟩ ⟨a0, a1, a2, ⟨x.e.sq, x.e.cl, x.e.tg, ⟨x.e.o.k, x.e.o.nm, x.e.o.ot, x.e.o.at_, x.e.o.va, x.e.o.ep⟩⟩, x.s, x.rc, x.rv⟩ (.int .i64 a2) (by simp [hi]) (by omega) rfl
  have h3 := own_put mgC_len h2 i 3 ⟨a0, a1, a2, ⟨x.e.sq, x.e.cl, x.e.tg, ⟨x.e.o.k, x.e.o.nm, x.e.o.ot, x.e.o.at_, x.e.o.va, x.e.o.ep⟩⟩, x.s, x.rc, x.rv⟩ ⟨a0, a1, a2, ⟨a3, x.e.cl, x.e.tg, ⟨x.e.o.k, x.e.o.nm, x.e.o.ot, x.e.o.at_, x.e.o.va, x.e.o.ep⟩⟩, x.s, x.rc, x.rv⟩ (.int .i64 a3) (by simp [hi]) (by omega) rfl
  have h4 := own_put mgC_len h3 i 4 ⟨a0, a1, a2, ⟨a3, x.e.cl, x.e.tg, ⟨x.e.o.k, x.e.o.nm, x.e.o.ot, x.e.o.at_, x.e.o.va, x.e.o.ep⟩⟩, x.s, x.rc, x.rv⟩ ⟨a0, a1, a2, ⟨a3, a4, x.e.tg, ⟨x.e.o.k, x.e.o.nm, x.e.o.ot, x.e.o.at_, x.e.o.va, x.e.o.ep⟩⟩, x.s, x.rc, x.rv⟩ (.int .i64 a4) (by simp [hi]) (by omega) rfl
  have h5 := own_put mgC_len h4 i 5 ⟨a0, a1, a2, ⟨a3, a4, x.e.tg, ⟨x.e.o.k, x.e.o.nm, x.e.o.ot, x.e.o.at_, x.e.o.va, x.e.o.ep⟩⟩, x.s, x.rc, x.rv⟩ ⟨a0, a1, a2, ⟨a3, a4, a5, ⟨x.e.o.k, x.e.o.nm, x.e.o.ot, x.e.o.at_, x.e.o.va, x.e.o.ep⟩⟩, x.s, x.rc, x.rv⟩ (.int .i64 a5) (by simp [hi]) (by omega) rfl
  have h6 := own_put mgC_len h5 i 6 ⟨a0, a1, a2, ⟨a3, a4, a5, ⟨x.e.o.k, x.e.o.nm, x.e.o.ot, x.e.o.at_, x.e.o.va, x.e.o.ep⟩⟩, x.s, x.rc, x.rv⟩ ⟨a0, a1, a2, ⟨a3, a4, a5, ⟨a6, x.e.o.nm, x.e.o.ot, x.e.o.at_, x.e.o.va, x.e.o.ep⟩⟩, x.s, x.rc, x.rv⟩ (.int .i64 a6) (by simp [hi]) (by omega) rfl
  rw [List.set_set, List.set_set, List.set_set, List.set_set, List.set_set, List.set_set] at h6
  exact h6

theorem msg_segB {w : World} {base g n cap : Nat} {xs : List Mg} (h : w.ownsRow base 38 15 (.slice (some ⟨g, 0, none⟩) n cap) xs.length (xs.flatMap mgC)) (i : Nat) (hi : i < xs.length) (x : Mg) (hx : xs[i]? = some x) (a7 : ByteArray) :
    (w.setCell ⟨g, i * 15 + 7, none⟩ (.string a7)).ownsRow base 38 15 (.slice (some ⟨g, 0, none⟩) n cap) (xs.set i ⟨x.kd, x.ds, x.vw, ⟨x.e.sq, x.e.cl, x.e.tg, ⟨x.e.o.k, a7, x.e.o.ot, x.e.o.at_, x.e.o.va, x.e.o.ep⟩⟩, x.s, x.rc, x.rv⟩).length ((xs.set i ⟨x.kd, x.ds, x.vw, ⟨x.e.sq, x.e.cl, x.e.tg, ⟨x.e.o.k, a7, x.e.o.ot, x.e.o.at_, x.e.o.va, x.e.o.ep⟩⟩, x.s, x.rc, x.rv⟩).flatMap mgC) := by
  have h7 := own_put mgC_len h i 7 x ⟨x.kd, x.ds, x.vw, ⟨x.e.sq, x.e.cl, x.e.tg, ⟨x.e.o.k, a7, x.e.o.ot, x.e.o.at_, x.e.o.va, x.e.o.ep⟩⟩, x.s, x.rc, x.rv⟩ (.string a7) hx (by omega) rfl
  exact h7

theorem msg_segC {w : World} {base g n cap : Nat} {xs : List Mg} (h : w.ownsRow base 38 15 (.slice (some ⟨g, 0, none⟩) n cap) xs.length (xs.flatMap mgC)) (i : Nat) (hi : i < xs.length) (x : Mg) (hx : xs[i]? = some x) (a8 : ByteArray) (a9 : Int) (a10 : Int) (a11 : Int) (a12 : Int) (a13 : Int) (a14 : Int) :
    (((((((w.setCell ⟨g, i * 15 + 8, none⟩ (.string a8)).setCell ⟨g, i * 15 + 9, none⟩ (.int .i64 a9)).setCell ⟨g, i * 15 + 10, none⟩ (.int .i64 a10)).setCell ⟨g, i * 15 + 11, none⟩ (.int .i64 a11)).setCell ⟨g, i * 15 + 12, none⟩ (.int .i64 a12)).setCell ⟨g, i * 15 + 13, none⟩ (.int .i64 a13)).setCell ⟨g, i * 15 + 14, none⟩ (.int .i64 a14)).ownsRow base 38 15 (.slice (some ⟨g, 0, none⟩) n cap) (xs.set i ⟨x.kd, x.ds, x.vw, ⟨x.e.sq, x.e.cl, x.e.tg, ⟨x.e.o.k, x.e.o.nm, a8, a9, a10, a11⟩⟩, a12, a13, a14⟩).length ((xs.set i ⟨x.kd, x.ds, x.vw, ⟨x.e.sq, x.e.cl, x.e.tg, ⟨x.e.o.k, x.e.o.nm, a8, a9, a10, a11⟩⟩, a12, a13, a14⟩).flatMap mgC) := by
  have h8 := own_put mgC_len h i 8 x ⟨x.kd, x.ds, x.vw, ⟨x.e.sq, x.e.cl, x.e.tg, ⟨x.e.o.k, x.e.o.nm, a8, x.e.o.at_, x.e.o.va, x.e.o.ep⟩⟩, x.s, x.rc, x.rv⟩ (.string a8) hx (by omega) rfl
  have h9 := own_put mgC_len h8 i 9 ⟨x.kd, x.ds, x.vw, ⟨x.e.sq, x.e.cl, x.e.tg, ⟨x.e.o.k, x.e.o.nm, a8, x.e.o.at_, x.e.o.va, x.e.o.ep⟩⟩, x.s, x.rc, x.rv⟩ ⟨x.kd, x.ds, x.vw, ⟨x.e.sq, x.e.cl, x.e.tg, ⟨x.e.o.k, x.e.o.nm, a8, a9, x.e.o.va, x.e.o.ep⟩⟩, x.s, x.rc, x.rv⟩ (.int .i64 a9) (by simp [hi]) (by omega) rfl
  have h10 := own_put mgC_len h9 i 10 ⟨x.kd, x.ds, x.vw, ⟨x.e.sq, x.e.cl, x.e.tg, ⟨x.e.o.k, x.e.o.nm, a8, a9, x.e.o.va, x.e.o.ep⟩⟩, x.s, x.rc, x.rv⟩ ⟨x.kd, x.ds, x.vw, ⟨x.e.sq, x.e.cl, x.e.tg, ⟨x.e.o.k, x.e.o.nm, a8, a9, a10, x.e.o.ep⟩⟩, x.s, x.rc, x.rv⟩ (.int .i64 a10) (by simp [hi]) (by omega) rfl
  have h11 := own_put mgC_len h10 i 11 ⟨x.kd, x.ds, x.vw, ⟨x.e.sq, x.e.cl, x.e.tg, ⟨x.e.o.k, x.e.o.nm, a8, a9, a10, x.e.o.ep⟩⟩, x.s, x.rc, x.rv⟩ ⟨x.kd, x.ds, x.vw, ⟨x.e.sq, x.e.cl, x.e.tg, ⟨x.e.o.k, x.e.o.nm, a8, a9, a10, a11⟩⟩, x.s, x.rc, x.rv⟩ (.int .i64 a11) (by simp [hi]) (by omega) rfl
  have h12 := own_put mgC_len h11 i 12 ⟨x.kd, x.ds, x.vw, ⟨x.e.sq, x.e.cl, x.e.tg, ⟨x.e.o.k, x.e.o.nm, a8, a9, a10, a11⟩⟩, x.s, x.rc, x.rv⟩ ⟨x.kd, x.ds, x.vw, ⟨x.e.sq, x.e.cl, x.e.tg, ⟨x.e.o.k, x.e.o.nm, a8, a9, a10, a11⟩⟩, a12, x.rc, x.rv⟩ (.int .i64 a12) (by simp [hi]) (by omega) rfl
  have h13 := own_put mgC_len h12 i 13 ⟨x.kd, x.ds, x.vw, ⟨x.e.sq, x.e.cl, x.e.tg, ⟨x.e.o.k, x.e.o.nm, a8, a9, a10, a11⟩⟩, a12, x.rc, x.rv⟩ ⟨x.kd, x.ds, x.vw, ⟨x.e.sq, x.e.cl, x.e.tg, ⟨x.e.o.k, x.e.o.nm, a8, a9, a10, a11⟩⟩, a12, a13, x.rv⟩ (.int .i64 a13) (by simp [hi]) (by omega) rfl
  have h14 := own_put mgC_len h13 i 14 ⟨x.kd, x.ds, x.vw, ⟨x.e.sq, x.e.cl, x.e.tg, ⟨x.e.o.k, x.e.o.nm, a8, a9, a10, a11⟩⟩, a12, a13, x.rv⟩ ⟨x.kd, x.ds, x.vw, ⟨x.e.sq, x.e.cl, x.e.tg, ⟨x.e.o.k, x.e.o.nm, a8, a9, a10, a11⟩⟩, a12, a13, a14⟩ (.int .i64 a14) (by simp [hi]) (by omega) rfl
  rw [List.set_set, List.set_set, List.set_set, List.set_set, List.set_set, List.set_set] at h14
  exact h14

/-- A letter that bears the numbers from K on. -/
def markM (K : Int) : Mg := ⟨(K), (K + 1), (K + 1 + 1), ⟨(K + 1 + 1 + 1), (K + 1 + 1 + 1 + 1), (K + 1 + 1 + 1 + 1 + 1), ⟨(K + 1 + 1 + 1 + 1 + 1 + 1), (markS (K + 1 + 1 + 1 + 1 + 1 + 1 + 1)), (markS (K + 1 + 1 + 1 + 1 + 1 + 1 + 1 + 1)), (K + 1 + 1 + 1 + 1 + 1 + 1 + 1 + 1 + 1), (K + 1 + 1 + 1 + 1 + 1 + 1 + 1 + 1 + 1 + 1), (K + 1 + 1 + 1 + 1 + 1 + 1 + 1 + 1 + 1 + 1 + 1)⟩⟩, (K + 1 + 1 + 1 + 1 + 1 + 1 + 1 + 1 + 1 + 1 + 1 + 1), (K + 1 + 1 + 1 + 1 + 1 + 1 + 1 + 1 + 1 + 1 + 1 + 1 + 1), (K + 1 + 1 + 1 + 1 + 1 + 1 + 1 + 1 + 1 + 1 + 1 + 1 + 1 + 1)⟩

def marksM (k : Int) (n : Nat) : List Mg := (List.range n).map fun i : Nat => markM (k + 15 * (i : Int))

theorem marksM_length (k : Int) (n : Nat) : (marksM k n).length = n := by simp [marksM]

theorem marksM_get (k : Int) (n j : Nat) (h : j < n) : (marksM k n)[j]? = some (markM (k + 15 * (j : Int))) := by simp [marksM, h]

theorem marksM_set (k : Int) (xs : List Mg) (j : Nat) (h : j < xs.length) : (marksM k j ++ xs.drop j).set j (markM (k + 15 * (j : Int))) = marksM k (j + 1) ++ xs.drop (j + 1) := by
  have hl : (marksM k j).length = j := marksM_length k j
  have hs : marksM k (j + 1) = marksM k j ++ [markM (k + 15 * (j : Int))] := by simp [marksM, List.range_succ]
  rw [List.set_append_right _ _ (by omega), hl, Nat.sub_self, List.drop_eq_getElem_cons h, List.set_cons_zero, hs]
  exact (List.append_assoc _ [_] _).symm

set_option maxHeartbeats 3200000 in
theorem markedM_any (g cap n base : Nat) (k : Int) (xs : List Mg) (w : World) (hk : 0 ≤ k) (hk2 : k ≤ 1073741824) (hx : xs.length = n) (hn : n ≤ 1048576) (own : w.ownsRow base 38 15 (.slice (some ⟨g, 0, none⟩) n cap) xs.length (xs.flatMap mgC)) :
    Calls Try.prog 25 #[.slice (some ⟨g, 0, none⟩) n cap, .int .i64 k] w fun e w' => e = .returned (.int .i64 (k + 15 * n)) ∧ w'.ownsRow base 38 15 (.slice (some ⟨g, 0, none⟩) n cap) (marksM k n).length ((marksM k n).flatMap mgC) ∧ Only (fun i => i = g) w w' := by
  have HX : Hid (xs.length = n) := hx
  have hx1 : n ≤ xs.length := by omega
  clear hx
  go_enter Try.func25, Try.ntmps25
  go_wp2_with fail
  go_loopw [1, 5] (fun q i wr => ∃ (j : Nat) (K : Int), j ≤ n ∧ i = .int .i64 j ∧ q = .int .i64 K ∧ K = k + 15 * j ∧ wr.ownsRow base 38 15 (.slice (some ⟨g, 0, none⟩) n cap) (marksM k j ++ xs.drop j).length ((marksM k j ++ xs.drop j).flatMap mgC) ∧ Only (fun i => i = g) w wr) (fun _ i _ => n - (intOf i).toNat)
  case atStart => exact ⟨0, k, Nat.zero_le _, rfl, rfl, by simp, by simpa [marksM] using own, Only.refl _ _⟩
  case round =>
    obtain ⟨j, K, hj, rfl, rfl, hK, ow, on⟩ := hrel
    have HK : Hid (K = k + 15 * j) := hK
    clear own
    by_cases hlt : j < n
    · have hK0 : 0 ≤ K := by omega
      have hK1 : K ≤ 10737418240 := by omega
      have hjl : j < (marksM k j ++ xs.drop j).length := by rw [List.length_append, marksM_length, List.length_drop]; omega
      have HMS : Hid _ := marksM_set k xs j (by omega)
      obtain ⟨ys, hys⟩ : ∃ ys, marksM k j ++ xs.drop j = ys := ⟨_, rfl⟩
      rw [hys] at ow hjl
      rw [hys] at HMS
      obtain ⟨⟨t0, t1, t2, t3, t4, t5, t6, -⟩, u0, u1, u2, u3, u4, u5, u6, -⟩ := own_fifteen ow j hjl
      have HX0 : Hid (ys[j]? = some ys[j]) := List.getElem?_eq_getElem hjl
      generalize ys[j] = y at t0 t1 t2 t3 t4 t5 t6 HX0
      have HO : Hid _ := ow
      have HON : Hid _ := on
      clear hK ow on hys hx1
      go_wp2_with fail
      refine (markText_any _ _ ?hk).mono ?_
      case hk => omega
      rintro e w5 ⟨rfl, b5⟩
      have owA := msg_segA HO.out j hjl y HX0.out K (K + 1) (K + 1 + 1) (K + 1 + 1 + 1) (K + 1 + 1 + 1 + 1) (K + 1 + 1 + 1 + 1 + 1) (K + 1 + 1 + 1 + 1 + 1 + 1)
      have ow2 := owns_below owA b5
      have on2 := ((((((((HON.out.setCell ⟨g, j * 15, none⟩ rfl _).setCell ⟨g, j * 15 + 1, none⟩ rfl _).setCell ⟨g, j * 15 + 2, none⟩ rfl _).setCell ⟨g, j * 15 + 3, none⟩ rfl _).setCell ⟨g, j * 15 + 4, none⟩ rfl _).setCell ⟨g, j * 15 + 5, none⟩ rfl _).setCell ⟨g, j * 15 + 6, none⟩ rfl _)).below b5
      have hjl2 : j < (ys.set j (⟨(K), (K + 1), (K + 1 + 1), ⟨(K + 1 + 1 + 1), (K + 1 + 1 + 1 + 1), (K + 1 + 1 + 1 + 1 + 1), ⟨(K + 1 + 1 + 1 + 1 + 1 + 1), y.e.o.nm, y.e.o.ot, y.e.o.at_, y.e.o.va, y.e.o.ep⟩⟩, y.s, y.rc, y.rv⟩ : Mg)).length := by rw [List.length_set]; exact hjl
      have HX2 : Hid ((ys.set j (⟨(K), (K + 1), (K + 1 + 1), ⟨(K + 1 + 1 + 1), (K + 1 + 1 + 1 + 1), (K + 1 + 1 + 1 + 1 + 1), ⟨(K + 1 + 1 + 1 + 1 + 1 + 1), y.e.o.nm, y.e.o.ot, y.e.o.at_, y.e.o.va, y.e.o.ep⟩⟩, y.s, y.rc, y.rv⟩ : Mg))[j]? = some (⟨(K), (K + 1), (K + 1 + 1), ⟨(K + 1 + 1 + 1), (K + 1 + 1 + 1 + 1), (K + 1 + 1 + 1 + 1 + 1), ⟨(K + 1 + 1 + 1 + 1 + 1 + 1), y.e.o.nm, y.e.o.ot, y.e.o.at_, y.e.o.va, y.e.o.ep⟩⟩, y.s, y.rc, y.rv⟩ : Mg)) := by simp [Hid, hjl]
      obtain ⟨⟨-, -, -, -, -, -, -, t7, -⟩, -, -, -, -, -, -, -, u7, -⟩ := own_fifteen ow2 j hjl2
      generalize hy2 : ys.set j (⟨(K), (K + 1), (K + 1 + 1), ⟨(K + 1 + 1 + 1), (K + 1 + 1 + 1 + 1), (K + 1 + 1 + 1 + 1 + 1), ⟨(K + 1 + 1 + 1 + 1 + 1 + 1), y.e.o.nm, y.e.o.ot, y.e.o.at_, y.e.o.va, y.e.o.ep⟩⟩, y.s, y.rc, y.rv⟩ : Mg) = y2 at *
      have HY2 : Hid (ys.set j (⟨(K), (K + 1), (K + 1 + 1), ⟨(K + 1 + 1 + 1), (K + 1 + 1 + 1 + 1), (K + 1 + 1 + 1 + 1 + 1), ⟨(K + 1 + 1 + 1 + 1 + 1 + 1), y.e.o.nm, y.e.o.ot, y.e.o.at_, y.e.o.va, y.e.o.ep⟩⟩, y.s, y.rc, y.rv⟩ : Mg) = y2) := hy2
      generalize y2[j] = yy at t7
      have HO2 : Hid _ := ow2
      have HON2 : Hid _ := on2
      clear t0 t1 t2 t3 t4 t5 t6 u0 u1 u2 u3 u4 u5 u6 owA ow2 on2 b5 hy2 HO HON
      go_wp2_with fail
      refine (markText_any _ _ ?hk).mono ?_
      case hk => omega
      rintro e w6 ⟨rfl, b6⟩
      have owB := msg_segB HO2.out j hjl2 _ HX2.out (markS (K + 1 + 1 + 1 + 1 + 1 + 1 + 1))
      have ow4 := owns_below owB b6
      have on4 := (HON2.out.setCell ⟨g, j * 15 + 7, none⟩ rfl _).below b6
      have hjl3 : j < (y2.set j (⟨(K), (K + 1), (K + 1 + 1), ⟨(K + 1 + 1 + 1), (K + 1 + 1 + 1 + 1), (K + 1 + 1 + 1 + 1 + 1), ⟨(K + 1 + 1 + 1 + 1 + 1 + 1), (markS (K + 1 + 1 + 1 + 1 + 1 + 1 + 1)), y.e.o.ot, y.e.o.at_, y.e.o.va, y.e.o.ep⟩⟩, y.s, y.rc, y.rv⟩ : Mg)).length := by rw [List.length_set]; exact hjl2
      have HX3 : Hid ((y2.set j (⟨(K), (K + 1), (K + 1 + 1), ⟨(K + 1 + 1 + 1), (K + 1 + 1 + 1 + 1), (K + 1 + 1 + 1 + 1 + 1), ⟨(K + 1 + 1 + 1 + 1 + 1 + 1), (markS (K + 1 + 1 + 1 + 1 + 1 + 1 + 1)), y.e.o.ot, y.e.o.at_, y.e.o.va, y.e.o.ep⟩⟩, y.s, y.rc, y.rv⟩ : Mg))[j]? = some (⟨(K), (K + 1), (K + 1 + 1), ⟨(K + 1 + 1 + 1), (K + 1 + 1 + 1 + 1), (K + 1 + 1 + 1 + 1 + 1), ⟨(K + 1 + 1 + 1 + 1 + 1 + 1), (markS (K + 1 + 1 + 1 + 1 + 1 + 1 + 1)), y.e.o.ot, y.e.o.at_, y.e.o.va, y.e.o.ep⟩⟩, y.s, y.rc, y.rv⟩ : Mg)) := by simp [Hid, hjl2]
      obtain ⟨⟨-, -, -, -, -, -, -, -, t8, t9, t10, t11, t12, t13, t14⟩, -, -, -, -, -, -, -, -, u8, u9, u10, u11, u12, u13, u14⟩ := own_fifteen ow4 j hjl3
      generalize hy3 : y2.set j (⟨(K), (K + 1), (K + 1 + 1), ⟨(K + 1 + 1 + 1), (K + 1 + 1 + 1 + 1), (K + 1 + 1 + 1 + 1 + 1), ⟨(K + 1 + 1 + 1 + 1 + 1 + 1), (markS (K + 1 + 1 + 1 + 1 + 1 + 1 + 1)), y.e.o.ot, y.e.o.at_, y.e.o.va, y.e.o.ep⟩⟩, y.s, y.rc, y.rv⟩ : Mg) = y3 at *
      have HY3 : Hid (y2.set j (⟨(K), (K + 1), (K + 1 + 1), ⟨(K + 1 + 1 + 1), (K + 1 + 1 + 1 + 1), (K + 1 + 1 + 1 + 1 + 1), ⟨(K + 1 + 1 + 1 + 1 + 1 + 1), (markS (K + 1 + 1 + 1 + 1 + 1 + 1 + 1)), y.e.o.ot, y.e.o.at_, y.e.o.va, y.e.o.ep⟩⟩, y.s, y.rc, y.rv⟩ : Mg) = y3) := hy3
      generalize y3[j] = yz at t8 t9 t10 t11 t12 t13 t14
      have HO4 : Hid _ := ow4
      have HON4 : Hid _ := on4
      clear t7 u7 owB ow4 on4 b6 hy3 HO2 HON2
      go_wp2_with fail
      go_roundw
      case rel =>
        have owC := msg_segC HO4.out j hjl3 _ HX3.out (markS (K + 1 + 1 + 1 + 1 + 1 + 1 + 1 + 1)) (K + 1 + 1 + 1 + 1 + 1 + 1 + 1 + 1 + 1) (K + 1 + 1 + 1 + 1 + 1 + 1 + 1 + 1 + 1 + 1) (K + 1 + 1 + 1 + 1 + 1 + 1 + 1 + 1 + 1 + 1 + 1) (K + 1 + 1 + 1 + 1 + 1 + 1 + 1 + 1 + 1 + 1 + 1 + 1) (K + 1 + 1 + 1 + 1 + 1 + 1 + 1 + 1 + 1 + 1 + 1 + 1 + 1) (K + 1 + 1 + 1 + 1 + 1 + 1 + 1 + 1 + 1 + 1 + 1 + 1 + 1 + 1)
        have hfin : y3.set j (markM K) = marksM k (j + 1) ++ xs.drop (j + 1) := by
          rw [← HY3.out, ← HY2.out, List.set_set, List.set_set, HK.out]
          exact HMS.out
        have owD : _ := owC
        rw [show (⟨(K), (K + 1), (K + 1 + 1), ⟨(K + 1 + 1 + 1), (K + 1 + 1 + 1 + 1), (K + 1 + 1 + 1 + 1 + 1), ⟨(K + 1 + 1 + 1 + 1 + 1 + 1), (markS (K + 1 + 1 + 1 + 1 + 1 + 1 + 1)), (markS (K + 1 + 1 + 1 + 1 + 1 + 1 + 1 + 1)), (K + 1 + 1 + 1 + 1 + 1 + 1 + 1 + 1 + 1), (K + 1 + 1 + 1 + 1 + 1 + 1 + 1 + 1 + 1 + 1), (K + 1 + 1 + 1 + 1 + 1 + 1 + 1 + 1 + 1 + 1 + 1)⟩⟩, (K + 1 + 1 + 1 + 1 + 1 + 1 + 1 + 1 + 1 + 1 + 1 + 1), (K + 1 + 1 + 1 + 1 + 1 + 1 + 1 + 1 + 1 + 1 + 1 + 1 + 1), (K + 1 + 1 + 1 + 1 + 1 + 1 + 1 + 1 + 1 + 1 + 1 + 1 + 1 + 1)⟩ : Mg) = markM K from rfl, hfin] at owD
        exact ⟨j + 1, _, by omega, by go_num, rfl, by have := HK.out; omega, owD, (((((((HON4.out.setCell ⟨g, j * 15 + 8, none⟩ rfl _).setCell ⟨g, j * 15 + 9, none⟩ rfl _).setCell ⟨g, j * 15 + 10, none⟩ rfl _).setCell ⟨g, j * 15 + 11, none⟩ rfl _).setCell ⟨g, j * 15 + 12, none⟩ rfl _).setCell ⟨g, j * 15 + 13, none⟩ rfl _).setCell ⟨g, j * 15 + 14, none⟩ rfl _)⟩
      case measure => simp [intOf]; omega
    · obtain rfl : j = n := by omega
      have hd : marksM k j ++ xs.drop j = marksM k j := by rw [List.drop_of_length_le (by have := HX.out; omega), List.append_nil]
      rw [hd] at ow
      have HO : Hid _ := And.intro ow on
      clear hK ow on hd hx1
      go_wp2_with fail
      go_ret
      exact ⟨ret_int HK.out, HO.out.1, HO.out.2⟩

/-- A row of letters of one's own, marked; whatever lies in another block stays. -/
theorem markMsgs_any (v : Value) (base : Nat) (k : Int) (xs : List Mg) (w : World) (hk : 0 ≤ k) (hk2 : k ≤ 1073741824) (hn : xs.length ≤ 1048576) (own : w.ownsRow base 38 15 v xs.length (xs.flatMap mgC)) :
    Calls Try.prog 25 #[v, .int .i64 k] w fun e w' => e = .returned (.int .i64 (k + 15 * xs.length)) ∧ w'.ownsRow base 38 15 v (marksM k xs.length).length ((marksM k xs.length).flatMap mgC) ∧ Only (fun i => v.ownBlock = some i) w w' := by
  rcases own.2 with ⟨rfl, h0⟩ | ⟨g, cap, cur, rfl, hg, _⟩
  · obtain rfl : xs = [] := List.length_eq_zero_iff.1 h0
    clear own
    go_enter Try.func25, Try.ntmps25
    go_wp2
    refine wp_loop_rounds 1 ?_
    rw [rounds_succ]
    go_wp2
    go_ret
    exact ⟨ret_int (by simp), World.ownsRow_nil _ _ _ _, Only.refl _ _⟩
  · refine (markedM_any g cap xs.length base k xs w hk hk2 rfl hn own).mono ?_
    rintro e w' ⟨he, ho, h3⟩
    exact ⟨he, ho, h3.mono (fun i h => by rw [h]; rfl)⟩

set_option maxHeartbeats 3200000 in
theorem heldMsgs_any (v : Value) (n : Nat) (k : Int) (w : World) (hk : 0 ≤ k) (hk2 : k ≤ 1073741824) (hn : n ≤ 1048576) (hr : ReadsR 15 mgC w.heap.size w v (marksM k n)) :
    Calls Try.prog 26 #[v, .int .i64 k] w fun e w' => e = .returned (.int .i64 (k + 15 * n)) ∧ Below w.heap.size w w' := by
  obtain ⟨o, cap, rfl, hm, hc, -⟩ := hr
  rw [marksM_length] at hm ⊢
  have HC : Hid _ := mg_cells hc
  clear hc hm
  go_enter Try.func26, Try.ntmps26
  go_wp2_with fail
  go_loopw [1, 5] (fun q i wr => ∃ (j : Nat) (K : Int), j ≤ n ∧ i = .int .i64 j ∧ q = .int .i64 K ∧ K = k + 15 * j ∧ Below w.heap.size w wr) (fun _ i _ => n - (intOf i).toNat)
  case atStart => exact ⟨0, k, Nat.zero_le _, rfl, rfl, by simp, Below.refl _ _⟩
  case round =>
    obtain ⟨j, K, hj, rfl, rfl, hK, hb⟩ := hrel
    have HK : Hid (K = k + 15 * j) := hK
    by_cases hlt : j < n
    · have hK0 : 0 ≤ K := by omega
      have hK1 : K ≤ 10737418240 := by omega
      have hjl : j < (marksM k n).length := by rw [marksM_length]; exact hlt
      obtain ⟨g, off, rfl, hg, a0, a1, a2, a3, a4, a5, a6, a7, a8, a9, a10, a11, a12, a13, a14⟩ := HC.out j hjl
      have hm := marksM_get k n j hlt
      rw [List.getElem?_eq_getElem hjl] at hm
      have hm2 : (marksM k n)[j] = markM K := (Option.some.inj hm).trans (by rw [HK.out])
      rw [hm2] at a0 a1 a2 a3 a4 a5 a6 a7 a8 a9 a10 a11 a12 a13 a14
      simp only [markM] at a0 a1 a2 a3 a4 a5 a6 a7 a8 a9 a10 a11 a12 a13 a14
      replace a0 := (hb.cell (p := ⟨g, off + j * 15, none⟩) hg).trans a0
      replace a1 := (hb.cell (p := ⟨g, off + j * 15 + 1, none⟩) hg).trans a1
      replace a2 := (hb.cell (p := ⟨g, off + j * 15 + 2, none⟩) hg).trans a2
      replace a3 := (hb.cell (p := ⟨g, off + j * 15 + 3, none⟩) hg).trans a3
      replace a4 := (hb.cell (p := ⟨g, off + j * 15 + 4, none⟩) hg).trans a4
      replace a5 := (hb.cell (p := ⟨g, off + j * 15 + 5, none⟩) hg).trans a5
      replace a6 := (hb.cell (p := ⟨g, off + j * 15 + 6, none⟩) hg).trans a6
      replace a7 := (hb.cell (p := ⟨g, off + j * 15 + 7, none⟩) hg).trans a7
      replace a8 := (hb.cell (p := ⟨g, off + j * 15 + 8, none⟩) hg).trans a8
      replace a9 := (hb.cell (p := ⟨g, off + j * 15 + 9, none⟩) hg).trans a9
      replace a10 := (hb.cell (p := ⟨g, off + j * 15 + 10, none⟩) hg).trans a10
      replace a11 := (hb.cell (p := ⟨g, off + j * 15 + 11, none⟩) hg).trans a11
      replace a12 := (hb.cell (p := ⟨g, off + j * 15 + 12, none⟩) hg).trans a12
      replace a13 := (hb.cell (p := ⟨g, off + j * 15 + 13, none⟩) hg).trans a13
      replace a14 := (hb.cell (p := ⟨g, off + j * 15 + 14, none⟩) hg).trans a14
      have hgl : g < wr.heap.size := Nat.lt_of_lt_of_le hg hb.size
      have hcell := BelowOf.cell a7 hgl
      have hne := BelowOf.any wr
      have g1 : (0 : Int) ≤ (j : Int) := by omega
      have g2 : (j : Int) < (n : Int) := by omega
      have hmt := fun W : World => markText_any (K + 1 + 1 + 1 + 1 + 1 + 1 + 1) W (by omega)
      have hmt2 := fun W : World => markText_any (K + 1 + 1 + 1 + 1 + 1 + 1 + 1 + 1) W (by omega)
      have HB : Hid _ := hb
      clear HC hm hm2 hK hjl hb
      go_wp2_with fail
      refine wp_region_of (by kernel_rfl) (by kernel_rfl) ?_
      repeat (go_big_quiet_step ((first | (go_at_call 59; exact calls_of (hmt _)) | rfl)))
      refine wpQuiet_nil ?_
      rintro w1 ⟨⟨wx, cx⟩, hwx⟩
      have b1 : Below wr.heap.size wr w1 := by rw [hwx]; exact cx
      clear hwx cx wx
      have c8 := (b1.cell (p := ⟨g, off + j * 15 + 8, none⟩) hgl).trans a8
      have hgl1 : g < w1.heap.size := Nat.lt_of_lt_of_le hgl b1.size
      clear hcell a0 a1 a2 a3 a4 a5 a6 a7 a8 hmt
      have hcell := BelowOf.cell c8 hgl1
      have hne := BelowOf.any w1
      go_wp2_with fail
      refine wp_region_of (by kernel_rfl) (by kernel_rfl) ?_
      repeat (go_big_quiet_step ((first | (go_at_call 59; exact calls_of (hmt2 _)) | rfl)))
      refine wpQuiet_nil ?_
      rintro w2 ⟨⟨wx, cx⟩, hwx⟩
      have b2 : Below w1.heap.size w1 w2 := by rw [hwx]; exact cx
      clear hwx cx wx
      have b3 := bw_call b1 b2
      replace a9 := (b3.cell (p := ⟨g, off + j * 15 + 9, none⟩) hgl).trans a9
      replace a10 := (b3.cell (p := ⟨g, off + j * 15 + 10, none⟩) hgl).trans a10
      replace a11 := (b3.cell (p := ⟨g, off + j * 15 + 11, none⟩) hgl).trans a11
      replace a12 := (b3.cell (p := ⟨g, off + j * 15 + 12, none⟩) hgl).trans a12
      replace a13 := (b3.cell (p := ⟨g, off + j * 15 + 13, none⟩) hgl).trans a13
      replace a14 := (b3.cell (p := ⟨g, off + j * 15 + 14, none⟩) hgl).trans a14
      clear hcell hne c8 hmt2 b1 b2
      go_wp2_with fail
      go_roundw
      case rel => exact ⟨j + 1, _, by omega, by go_num, rfl, by have := HK.out; omega, HB.out.trans (b3.mono HB.out.size)⟩
      case measure => simp [intOf]; omega
    · obtain rfl : j = n := by omega
      clear hK
      go_wp2_with fail
      go_ret
      exact ⟨ret_int HK.out, hb⟩

/-- Letters of one's own, as the laws carry them. -/
structure OwnMs (base : Nat) (w : World) (v : Value) (l : List Mg) : Prop where
  c : w.ownsRow base 38 15 v l.length (l.flatMap mgC)

theorem OwnMs.below {base : Nat} {w w' : World} {v : Value} {l : List Mg} (h : OwnMs base w v l) (b : Below w.heap.size w w') : OwnMs base w' v l := ⟨owns_below h.c b⟩

theorem OwnMs.mono {base base' : Nat} {w : World} {v : Value} {l : List Mg} (h : OwnMs base w v l) (b : base' ≤ base) : OwnMs base' w v l := ⟨owns_mono h.c b⟩

theorem OwnMs.r {base : Nat} {w : World} {v : Value} {l : List Mg} (h : OwnMs base w v l) : ReadsR 15 mgC w.heap.size w v l := ReadsR.of_own mgC_len h.c

theorem OwnMs.rng {lo hi base : Nat} {w w' : World} {v : Value} {l : List Mg} (h : OwnMs base w v l) (k : Rng lo hi w w') (hb : hi ≤ base) : OwnMs base w' v l := ⟨own_rng h.c k hb⟩

theorem OwnMs.span {base : Nat} {w : World} {v : Value} {l : List Mg} (h : OwnMs base w v l) : ∀ g, v.ownBlock = some g → base ≤ g ∧ g < w.heap.size := fun g h1 => h.c.lt g h1

theorem OwnMs.forms {base : Nat} {w : World} {v : Value} {l : List Mg} (h : OwnMs base w v l) : ∃ o c, v = .slice o l.length c := own_slice h.c

theorem toMsgsV_any (v : Value) (bs : List Mg) (w : World) (hn : bs.length ≤ 1048576) (r : ReadsR 15 mgC w.heap.size w v bs) :
    Calls Try.prog 23 #[v] w fun e w' => ∃ u, e = .returned u ∧ OwnMs w.heap.size w' u bs ∧ Below w.heap.size w w' :=
  (toMsgs_any v bs w hn r).mono fun _ _ ⟨h1, h2, h3⟩ => ⟨_, h1, ⟨h2⟩, h3⟩

theorem markMsgsV_any (v : Value) (l : List Mg) (lo hi : Nat) (k : Int) (w : World) (hk : 0 ≤ k) (hn : l.length ≤ 1048576) (hk2 : k ≤ 1073741824) (own : OwnMs lo w v l) (hhi : ∀ g, v.ownBlock = some g → lo ≤ g ∧ g < hi) :
    Calls Try.prog 25 #[v, .int .i64 k] w fun e w' => e = .returned (.int .i64 (k + 15 * l.length)) ∧ OwnMs lo w' v (marksM k l.length) ∧ Rng lo hi w w' :=
  (markMsgs_any v lo k l w hk hk2 hn own.c).mono fun _ _ ⟨h1, h2, h3⟩ => ⟨h1, ⟨h2⟩, ⟨h3.os, h3.tape, h3.output, h3.size, fun i hi' hc => h3.block i hi' (fun h => by have := hhi i h; omega)⟩⟩
end Go.Proofs.Ytghhphhnalfjaaa

namespace Go.Proofs.Ytghhphhnalfjaaa
open Go.RowKit

set_option linter.unusedVariables false

set_option maxRecDepth 100000


def twice (l : List Mg) (a : Int) : List Mg × Bool := if postOk l = true then (if 0 ≤ a ∧ a.toNat < l.length ∧ l.length ≠ 60 then (l ++ (l[a.toNat]?).toList, true) else (l, false)) else ([], false)

theorem new_msg (w : World) (m : Mg) (t : TypeId) : ∀ (j : Nat) (u : Value), (mgC m)[j]? = some u → (w.alloc (.cells #[.int .i64 m.kd, .int .i64 m.ds, .int .i64 m.vw, .int .i64 m.e.sq, .int .i64 m.e.cl, .int .i64 m.e.tg, .int .i64 m.e.o.k, .string m.e.o.nm, .string m.e.o.ot, .int .i64 m.e.o.at_, .int .i64 m.e.o.va, .int .i64 m.e.o.ep, .int .i64 m.s, .int .i64 m.rc, .int .i64 m.rv] t)).cell? ((⟨w.heap.size, 0, none⟩ : Addr).add j) = some u := by
  intro j u hj
  rw [addr_add]
  exact (World.cell?_alloc_mark w #[.int .i64 m.kd, .int .i64 m.ds, .int .i64 m.vw, .int .i64 m.e.sq, .int .i64 m.e.cl, .int .i64 m.e.tg, .int .i64 m.e.o.k, .string m.e.o.nm, .string m.e.o.ot, .int .i64 m.e.o.at_, .int .i64 m.e.o.va, .int .i64 m.e.o.ep, .int .i64 m.s, .int .i64 m.rc, .int .i64 m.rv] t (0, 0) j).trans (by simpa [mgC] using hj)

set_option maxHeartbeats 3200000 in
theorem specTwice_any (v1 : Value) (l : List Mg) (a : Int) (w : World) (hf1 : FitPost l) (r1 : ReadsR 15 mgC w.heap.size w v1 l) :
    Calls Try.prog 21 #[v1, .int .i64 a] w fun e w' => ∃ v', e = .returned (.tuple #[v', .bool (twice l a).2]) ∧ w'.ownsRow w.heap.size 38 15 v' (twice l a).1.length ((twice l a).1.flatMap mgC) ∧ Below w.heap.size w w' := by
  obtain ⟨i0, hi, hz0, hz1, hz2⟩ := info_parts Try.infoMsg
  obtain ⟨o1, c1, rfl⟩ := r1.form
  go_enter Try.func21, Try.ntmps21
  go_wp2_with fail
  refine (l15Ok_any _ l _ hf1 r1).mono ?_
  rintro e w1 ⟨rfl, b1⟩
  cases h1 : postOk l
  · have HP : Hid (twice l a = ([], false)) := by rw [Hid, twice, h1]; rfl
    have own1 := owns_mono (own_nomsgs w1) b1.size
    have bA : Below w.heap.size w (w1.alloc (.cells #[] 38)) := bw_alloc b1
    clear h1 r1 b1
    go_wp2_with fail
    exact bodyPost_ret (v := .tuple #[.slice (some ⟨w1.heap.size, 0, none⟩) 0 0, .bool false]) (by simp [results, Try.results21, go_sem]) rfl ⟨_, by rw [HP.out], by rw [HP.out]; exact own1, bA⟩
  have H1 : Hid (postOk l = true) := h1
  have hl60 : l.length ≤ 60 := by
    simp only [postOk, Bool.and_eq_true, decide_eq_true_eq] at h1
    exact h1.2
  obtain ⟨W2, hW2⟩ : ∃ W2, W2 = w1.alloc (.cells #[] 38) := ⟨_, rfl⟩
  have b2 : Below w1.heap.size w1 W2 := by rw [hW2]; exact bw_alloc (Below.refl _ _)
  have own0 : W2.ownsRow w.heap.size 38 15 (.slice (some ⟨w1.heap.size, 0, none⟩) 0 0) 0 [] := by rw [hW2]; exact owns_mono (own_nomsgs w1) b1.size
  have B2 := bw_call b1 b2
  have r12 := (r1.below B2).mono B2.size
  have HW2 : Hid (W2 = _) := hW2
  have HSRC : Hid _ := flat_src15 mgC_len (by decide) r12
  clear hW2 h1 b2 b1
  go_wp2_with (at_builtin; rw [← HW2.out]; refine wpList_append_reads rfl _ _ 24 rfl w.heap.size 38 i0 (.agg #[.int .i64 0, .int .i64 0, .int .i64 0, .int .i64 0, .int .i64 0, .int .i64 0, .int .i64 0, .string ByteArray.empty, .string ByteArray.empty, .int .i64 0, .int .i64 0, .int .i64 0, .int .i64 0, .int .i64 0, .int .i64 0]) 15 136 Try.underlying24 hi hz0 hz1 hz2 rfl (by decide) (.slice (some ⟨w1.heap.size, 0, none⟩) 0 0) 0 [] rfl own0 o1 l.length c1 (l.flatMap mgC) rfl (flat_length mgC_len l) HSRC.out (msgs_one l) (by unfold maxLen; omega) (by omega) B2.size ?_)
  intro v3 w3 own3 gr3 nil3
  have own3' : w3.ownsRow w.heap.size 38 15 v3 l.length (l.flatMap mgC) := by simpa using own3
  have hbl : ∀ k, (Value.slice (some ⟨w1.heap.size, 0, none⟩) 0 0).ownBlock = some k → w.heap.size ≤ k := fun k hk => (own0.lt k hk).1
  have B3 : Below w.heap.size w w3 := B2.grown gr3 B2.size hbl
  obtain ⟨o3, c3, rfl⟩ := own_slice own3'
  clear own3 gr3 nil3 hbl own0 HW2 HSRC r12 B2
  by_cases ha : 0 ≤ a
  case neg =>
    have HP : Hid (twice l a = (l, false)) := by rw [Hid, twice, if_pos H1.out, if_neg (fun h => ha h.1)]
    have ha' : a < 0 := by omega
    go_wp2_with fail
    exact bodyPost_ret (v := .tuple #[.slice o3 l.length c3, .bool false]) (by simp [results, Try.results21, go_sem]) rfl ⟨_, by rw [HP.out], by rw [HP.out]; exact own3', B3⟩
  obtain ⟨kk, rfl⟩ := Int.eq_ofNat_of_zero_le ha
  have ha0 : ¬ (kk : Int) < 0 := by omega
  by_cases hk : kk < l.length
  case neg =>
    have HP : Hid (twice l (kk : Int) = (l, false)) := by rw [Hid, twice, if_pos H1.out, if_neg (fun h => hk (by simpa using h.2.1))]
    have hk' : (l.length : Int) ≤ (kk : Int) := by omega
    go_wp2_with fail
    exact bodyPost_ret (v := .tuple #[.slice o3 l.length c3, .bool false]) (by simp [results, Try.results21, go_sem]) rfl ⟨_, by rw [HP.out], by rw [HP.out]; exact own3', B3⟩
  have hk' : ¬ (l.length : Int) ≤ (kk : Int) := by omega
  have hk2 : (kk : Int) < (l.length : Int) := by omega
  by_cases h60 : l.length = 60
  case pos =>
    have HP : Hid (twice l (kk : Int) = (l, false)) := by rw [Hid, twice, if_pos H1.out, if_neg (fun h => h.2.2 h60)]
    have h60' : (l.length : Int) = 60 := by omega
    clear h60
    go_wp2_with fail
    exact bodyPost_ret (v := .tuple #[.slice o3 l.length c3, .bool false]) (by simp [results, Try.results21, go_sem]) rfl ⟨_, by rw [HP.out], by rw [HP.out]; exact own3', B3⟩
  have h60' : ¬ (l.length : Int) = 60 := by omega
  have hm60 : l.length ≤ 59 := by omega
  have HP : Hid (twice l (kk : Int) = (l ++ [l[kk]], true)) := by rw [Hid, twice, if_pos H1.out, if_pos ⟨ha, by simpa using hk, h60⟩]; simp [hk]
  obtain ⟨o', cap', e1, -, hc, -⟩ := r1
  obtain ⟨g, off, e2, hg, a0, a1, a2, a3, a4, a5, a6, a7, a8, a9, a10, a11, a12, a13, a14⟩ := mg_cells hc kk hk
  cases e1
  subst e2
  obtain ⟨x, hx⟩ : ∃ x, l[kk] = x := ⟨_, rfl⟩
  rw [hx] at HP a0 a1 a2 a3 a4 a5 a6 a7 a8 a9 a10 a11 a12 a13 a14
  clear hx hc h60
  replace a0 := (B3.cell (p := ⟨g, off + kk * 15, none⟩) hg).trans a0
  replace a1 := (B3.cell (p := ⟨g, off + kk * 15 + 1, none⟩) hg).trans a1
  replace a2 := (B3.cell (p := ⟨g, off + kk * 15 + 2, none⟩) hg).trans a2
  replace a3 := (B3.cell (p := ⟨g, off + kk * 15 + 3, none⟩) hg).trans a3
  replace a4 := (B3.cell (p := ⟨g, off + kk * 15 + 4, none⟩) hg).trans a4
  replace a5 := (B3.cell (p := ⟨g, off + kk * 15 + 5, none⟩) hg).trans a5
  replace a6 := (B3.cell (p := ⟨g, off + kk * 15 + 6, none⟩) hg).trans a6
  replace a7 := (B3.cell (p := ⟨g, off + kk * 15 + 7, none⟩) hg).trans a7
  replace a8 := (B3.cell (p := ⟨g, off + kk * 15 + 8, none⟩) hg).trans a8
  replace a9 := (B3.cell (p := ⟨g, off + kk * 15 + 9, none⟩) hg).trans a9
  replace a10 := (B3.cell (p := ⟨g, off + kk * 15 + 10, none⟩) hg).trans a10
  replace a11 := (B3.cell (p := ⟨g, off + kk * 15 + 11, none⟩) hg).trans a11
  replace a12 := (B3.cell (p := ⟨g, off + kk * 15 + 12, none⟩) hg).trans a12
  replace a13 := (B3.cell (p := ⟨g, off + kk * 15 + 13, none⟩) hg).trans a13
  replace a14 := (B3.cell (p := ⟨g, off + kk * 15 + 14, none⟩) hg).trans a14
  have own4 := World.ownsRow.alloc own3' (.cells #[.int .i64 x.kd, .int .i64 x.ds, .int .i64 x.vw, .int .i64 x.e.sq, .int .i64 x.e.cl, .int .i64 x.e.tg, .int .i64 x.e.o.k, .string x.e.o.nm, .string x.e.o.ot, .int .i64 x.e.o.at_, .int .i64 x.e.o.va, .int .i64 x.e.o.ep, .int .i64 x.s, .int .i64 x.rc, .int .i64 x.rv] 38)
  have HO4 : Hid _ := own4
  have hbl : Hid (∀ k, (Value.slice o3 l.length c3).ownBlock = some k → w.heap.size ≤ k) := fun k hk => (own3'.lt k hk).1
  have hsz := B3.size
  clear own4
  go_wp2_with (at_builtin; refine wpList_append_own _ rfl _ _ 24 rfl w.heap.size 38 i0 (.agg #[.int .i64 0, .int .i64 0, .int .i64 0, .int .i64 0, .int .i64 0, .int .i64 0, .int .i64 0, .string ByteArray.empty, .string ByteArray.empty, .int .i64 0, .int .i64 0, .int .i64 0, .int .i64 0, .int .i64 0, .int .i64 0]) 15 136 Try.underlying24 hi hz0 hz1 hz2 rfl (by decide) _ _ _ rfl HO4.out ⟨w3.heap.size, 0, none⟩ 1 1 (mgC x) rfl rfl ?c1 ?c2 ?c3 ?c4 ?c5 ?_)
  case c1 => exact fun j u hj => hj
  case c2 =>
    intro u hu
    exact msgs_one [x] u (by simpa using hu)
  case c3 => unfold maxLen; omega
  case c4 => omega
  case c5 => first | omega | (simp; omega)
  intro v5 w5 own5 gr5 nil5
  have B5 : Below w.heap.size w w5 := (bw_alloc B3).grown gr5 (by first | omega | (simp; omega)) hbl.out
  have HF : Hid (w5.ownsRow w.heap.size 38 15 v5 (l ++ [x]).length ((l ++ [x]).flatMap mgC)) := by
    rw [Hid, List.length_append, List.flatMap_append]
    simpa using own5
  clear own5 gr5 nil5 own3' a0 a1 a2 a3 a4 a5 a6 a7 a8 a9 a10 a11 a12 a13 a14
  go_wp2_with fail
  exact bodyPost_ret (v := .tuple #[v5, .bool true]) (by simp [results, Try.results21, go_sem]) rfl ⟨v5, by rw [HP.out], by rw [HP.out]; exact HF.out, B5⟩
end Go.Proofs.Ytghhphhnalfjaaa

namespace Go.Proofs.Ytghhphhnalfjaaa
open Go.RowKit

set_option linter.unusedVariables false

set_option maxRecDepth 100000


theorem step_append_readsR {P : Program} {w : World} {ops : Array Oper} {o : Oper} {a : Act} {K : Act → World → Prop} {Q : Exit → Act → World → Prop} {E : Prop} (hgd : o.guard = none) (s x : Operand) (t : TypeId)
    (ho : o.op = .call { callee := .builtin .append, args := #[s, x], argTypes := #[t, t] })
    (base : Nat) (e : TypeId) (i : TypeInfo) (z : Value) (size bytes : Nat) (ht : P.underlying t = some (.slice e)) (hi : P.info? e = some i) (hz : i.zero = some z)
    (hsize : i.size = size) (hby : i.bytes = bytes) (hzs : z.cells.size = size) (hsz : 0 < size)
    (v : Value) (n : Nat) (xs : List Value) (hs : a.eval s = v) (hown : w.ownsRow base e size v n xs)
    (ad : Option Addr) (m c : Nat) (news : List Value) (hx : a.eval x = .slice ad m c) (hl : news.length = m * size) (hnews : ∀ j u, news[j]? = some u → ∃ g off, ad = some ⟨g, off, none⟩ ∧ w.cell? ⟨g, off + j, none⟩ = some u) (h1 : ∀ u ∈ news, u.oneCell' = true)
    (h63 : n + m ≤ maxLen) (hbytes : (n + m) * bytes ≤ 140737488355328) (hbase : base ≤ w.heap.size)
    (h : ∀ v' w', w'.ownsRow base e size v' (n + m) (xs ++ news) → w.grownBy w' v.ownBlock → (v' = .slice none 0 0 ↔ v = .slice none 0 0 ∧ m = 0) → K (a.put o.dst v') w') :
    if Region.wanted o (yielded ops a.tmps) = true then Oper.wp P o a w K Q else E := by
  have hw : Region.wanted o (yielded ops a.tmps) = true := by simp [Region.wanted, hgd]
  rw [if_pos hw]
  exact wp_append_reads s x t ho base e i z size bytes ht hi hz hsize hby hzs hsz v n xs hs hown ad m c news hx hl hnews h1 h63 hbytes hbase h
end Go.Proofs.Ytghhphhnalfjaaa

namespace Go.Proofs.Ytghhphhnalfjaaa
open Go.RowKit

set_option linter.unusedVariables false

set_option maxRecDepth 100000


def without15 (l : List Mg) (k : Nat) : List Mg := l.take k ++ l.drop (k + 1)

set_option maxHeartbeats 3200000 in
theorem l15Without_any (v : Value) (l : List Mg) (kk : Nat) (w : World) (hk : kk < l.length) (hl : l.length ≤ 60) (r : ReadsR 15 mgC w.heap.size w v l) :
    Calls Try.prog 56 #[v, .int .i64 (kk : Int)] w fun e w' => ∃ v', e = .returned v' ∧ w'.ownsRow w.heap.size 38 15 v' (without15 l kk).length ((without15 l kk).flatMap mgC) ∧ Below w.heap.size w w' := by
  obtain ⟨i0, hi, hz0, hz1, hz2⟩ := info_parts Try.infoMsg
  obtain ⟨o', cap, rfl, hm, hc, hcap⟩ := r
  obtain ⟨g, off, rfl, hg, -⟩ := mg_cells hc kk hk
  have hc' : ∀ i x, l[i]? = some x → ∀ j u, (mgC x)[j]? = some u → w.cell? ⟨g, off + i * 15 + j, none⟩ = some u := fun i x hx j u hj => by
    obtain ⟨g', off', e, -, h⟩ := hc i x hx
    cases e
    exact h j u hj
  have HTL : Hid (((l.take kk).flatMap mgC).length = kk * 15) := by rw [Hid, flat_length mgC_len, List.length_take, Nat.min_eq_left (by omega)]
  have HDL : Hid (((l.drop (kk + 1)).flatMap mgC).length = (l.length - (kk + 1)) * 15) := by rw [Hid, flat_length mgC_len, List.length_drop]
  have rt : ReadsR 15 mgC w.heap.size w (.slice (some ⟨g, off, none⟩) kk cap) (l.take kk) := ⟨some ⟨g, off, none⟩, cap, by rw [List.length_take, Nat.min_eq_left (by omega)], by rw [List.length_take]; omega, fun i x hx => ⟨g, off, rfl, hg, hc' i x (by
    rw [List.getElem?_take] at hx
    split at hx
    · exact hx
    · cases hx)⟩, by rw [List.length_take]; omega⟩
  have HT0 : Hid (∀ X : World, Below w.heap.size w X → ∀ j u, ((l.take kk).flatMap mgC)[j]? = some u → ∃ g' off', (some ⟨g, off, none⟩ : Option Addr) = some ⟨g', off', none⟩ ∧ X.cell? ⟨g', off' + j, none⟩ = some u) := fun X bX => flat_src15 mgC_len (by decide) (rt.below bX)
  have HM1 : Hid (0 + kk ≤ maxLen) := by rw [Hid]; unfold maxLen; omega
  have HB1 : Hid ((0 + kk) * 136 ≤ 140737488355328) := by rw [Hid]; omega
  have HM2 : Hid (0 + kk + (l.length - (kk + 1)) ≤ maxLen) := by rw [Hid]; unfold maxLen; omega
  have HB2 : Hid ((0 + kk + (l.length - (kk + 1))) * 136 ≤ 140737488355328) := by rw [Hid]; omega
  have j0 : (0 : Int) ≤ (kk : Int) := by omega
  have j1 : (kk : Int) ≤ (cap : Int) := by omega
  have j2 : (0 : Int) ≤ (kk : Int) + 1 := by omega
  have j3 : (kk : Int) + 1 ≤ (l.length : Int) := by omega
  have j4 : (l.length : Int) ≤ (cap : Int) := by omega
  have j5 : ((kk : Int) + 1).toNat = kk + 1 := by omega
  have j6 : IntKind.i64.wrap ((kk : Int) + 1) = (kk : Int) + 1 := by rw [IntKind.wrap_i64]; omega
  have j8 : (kk : Int) + 1 ≤ (cap : Int) := by omega
  have j9 : (kk : Int) ≤ (l.length : Int) := by omega
  have hkc : kk ≤ cap := by omega
  unfold maxLen at hm
  have HDX : Hid (∀ W, Below w.heap.size w W → ∀ j u, ((l.drop (kk + 1)).flatMap mgC)[j]? = some u → ∃ g' off', (some ⟨g, off + (kk + 1) * 15, none⟩ : Option Addr) = some ⟨g', off', none⟩ ∧ W.cell? ⟨g', off' + j, none⟩ = some u) := fun W hW => by
    have rd : ReadsR 15 mgC w.heap.size w (.slice (some ⟨g, off + (kk + 1) * 15, none⟩) (l.length - (kk + 1)) (cap - (kk + 1))) (l.drop (kk + 1)) := ⟨some ⟨g, off + (kk + 1) * 15, none⟩, cap - (kk + 1), by rw [List.length_drop], by rw [List.length_drop]; unfold maxLen; omega, fun i x hx => ⟨g, off + (kk + 1) * 15, rfl, hg, fun j u hj => by
      rw [List.getElem?_drop] at hx
      have := hc' (kk + 1 + i) x hx j u hj
      rwa [show off + (kk + 1 + i) * 15 + j = off + (kk + 1) * 15 + i * 15 + j by omega] at this⟩, by rw [List.length_drop]; omega⟩
    exact flat_src15 mgC_len (by decide) (rd.below hW)
  clear hc hc' rt hg
  by_cases hcc : kk + 1 = cap
  case pos =>
    have HDX : Hid (∀ W, Below w.heap.size w W → ∀ j u, ((l.drop (kk + 1)).flatMap mgC)[j]? = some u → ∃ g' off', (some ⟨g, off, none⟩ : Option Addr) = some ⟨g', off', none⟩ ∧ W.cell? ⟨g', off' + j, none⟩ = some u) := fun W hW j u h => by rw [List.drop_of_length_le (by omega)] at h; simp at h
    have jx : (kk : Int) ≤ (kk : Int) + 1 := by omega
    subst hcc
    go_enter Try.func56, Try.ntmps56
    go_wp2_with fail
    go_region_law (first
      | (refine step_append_readsR rfl (.tmp 5) (.tmp 8) 24 rfl w.heap.size 38 i0 (.agg #[.int .i64 0, .int .i64 0, .int .i64 0, .int .i64 0, .int .i64 0, .int .i64 0, .int .i64 0, .string ByteArray.empty, .string ByteArray.empty, .int .i64 0, .int .i64 0, .int .i64 0, .int .i64 0, .int .i64 0, .int .i64 0]) 15 136 Try.underlying24 hi hz0 hz1 hz2 rfl (by decide) (.slice (some ⟨w.heap.size, 0, none⟩) 0 0) 0 [] ?e1 ?own (some ⟨g, off, none⟩) kk (kk + 1) ((l.take kk).flatMap mgC) ?e2 HTL.out ?hn (msgs_one _) HM1.out HB1.out ?hbase ?_
         case e1 => first | rfl | simp [Act.eval]
         case e2 => first | rfl | (simp [Act.eval] <;> omega)
         case own => exact own_nomsgs w
         case hn => exact HT0.out _ (bw_alloc (Below.refl _ _)).drew
         case hbase => simp <;> omega
         intro va wa owna growa nila
         have ba : Below w.heap.size w wa := ((bw_alloc (Below.refl _ _)).drew).grown growa (by simp <;> omega) (fun z hz => by simp [Value.ownBlock] at hz; omega))
      | (refine step_append_readsR rfl (.tmp 9) (.tmp 13) 24 rfl w.heap.size 38 i0 (.agg #[.int .i64 0, .int .i64 0, .int .i64 0, .int .i64 0, .int .i64 0, .int .i64 0, .int .i64 0, .string ByteArray.empty, .string ByteArray.empty, .int .i64 0, .int .i64 0, .int .i64 0, .int .i64 0, .int .i64 0, .int .i64 0]) 15 136 Try.underlying24 hi hz0 hz1 hz2 rfl (by decide) va (0 + kk) ([] ++ (l.take kk).flatMap mgC) ?e1 owna (some ⟨g, off, none⟩) (l.length - (kk + 1)) 0 ((l.drop (kk + 1)).flatMap mgC) ?e2 HDL.out (HDX.out _ ba) (msgs_one _) HM2.out HB2.out ?hbase ?_
         case e1 => first | rfl | simp [Act.eval]
         case e2 => first | rfl | (simp [Act.eval] <;> omega)
         case hbase => have := ba.size; omega
         intro vd wd ownd growd nild
         have bd : Below w.heap.size w wd := ba.grown growd (by have := ba.size; omega) (fun z hz => (owna.lt z hz).1)))
    all_goals
      have HF : Hid (wd.ownsRow w.heap.size 38 15 vd (without15 l kk).length ((without15 l kk).flatMap mgC)) := by
        rw [Hid, without15, List.length_append, List.flatMap_append, List.length_take, List.length_drop, Nat.min_eq_left (by omega)]
        simpa using ownd
      clear ownd owna growa growd nila nild
      go_wp2_with fail
      go_ret
      exact ⟨vd, rfl, HF.out, bd⟩
  have j7 : cap - (kk + 1) ≠ 0 := by omega
  go_enter Try.func56, Try.ntmps56
  go_wp2_with fail
  go_region_law (first
    | (refine step_append_readsR rfl (.tmp 5) (.tmp 8) 24 rfl w.heap.size 38 i0 (.agg #[.int .i64 0, .int .i64 0, .int .i64 0, .int .i64 0, .int .i64 0, .int .i64 0, .int .i64 0, .string ByteArray.empty, .string ByteArray.empty, .int .i64 0, .int .i64 0, .int .i64 0, .int .i64 0, .int .i64 0, .int .i64 0]) 15 136 Try.underlying24 hi hz0 hz1 hz2 rfl (by decide) (.slice (some ⟨w.heap.size, 0, none⟩) 0 0) 0 [] ?e1 ?own (some ⟨g, off, none⟩) kk cap ((l.take kk).flatMap mgC) ?e2 HTL.out ?hn (msgs_one _) HM1.out HB1.out ?hbase ?_
       case e1 => first | rfl | simp [Act.eval]
       case e2 => first | rfl | (simp [Act.eval] <;> omega)
       case own => exact own_nomsgs w
       case hn => exact HT0.out _ (bw_alloc (Below.refl _ _)).drew
       case hbase => simp <;> omega
       intro va wa owna growa nila
       have ba : Below w.heap.size w wa := ((bw_alloc (Below.refl _ _)).drew).grown growa (by simp <;> omega) (fun z hz => by simp [Value.ownBlock] at hz; omega))
    | (refine step_append_readsR rfl (.tmp 9) (.tmp 13) 24 rfl w.heap.size 38 i0 (.agg #[.int .i64 0, .int .i64 0, .int .i64 0, .int .i64 0, .int .i64 0, .int .i64 0, .int .i64 0, .string ByteArray.empty, .string ByteArray.empty, .int .i64 0, .int .i64 0, .int .i64 0, .int .i64 0, .int .i64 0, .int .i64 0]) 15 136 Try.underlying24 hi hz0 hz1 hz2 rfl (by decide) va (0 + kk) ([] ++ (l.take kk).flatMap mgC) ?e1 owna (some ⟨g, off + (kk + 1) * 15, none⟩) (l.length - (kk + 1)) (cap - (kk + 1)) ((l.drop (kk + 1)).flatMap mgC) ?e2 HDL.out (HDX.out _ ba) (msgs_one _) HM2.out HB2.out ?hbase ?_
       case e1 => first | rfl | simp [Act.eval]
       case e2 => first | rfl | (simp [Act.eval] <;> omega)
       case hbase => have := ba.size; omega
       intro vd wd ownd growd nild
       have bd : Below w.heap.size w wd := ba.grown growd (by have := ba.size; omega) (fun z hz => (owna.lt z hz).1)))
  all_goals
    have HF : Hid (wd.ownsRow w.heap.size 38 15 vd (without15 l kk).length ((without15 l kk).flatMap mgC)) := by
      rw [Hid, without15, List.length_append, List.flatMap_append, List.length_take, List.length_drop, Nat.min_eq_left (by omega)]
      simpa using ownd
    clear ownd owna growa growd nila nild
    go_wp2_with fail
    go_ret
    exact ⟨vd, rfl, HF.out, bd⟩
end Go.Proofs.Ytghhphhnalfjaaa

