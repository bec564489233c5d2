/-
  Contracts and plain laws, one chapter behind the other.
-/
import Derived.Deep.Cut
import Derived.Test.YtgabhnhfomekfaaM26
namespace Go.Proofs.Ytgabhnhfomekfaa
open Go.RowKit

set_option linter.unusedVariables false

set_option maxRecDepth 100000


def taken (l : List Mg) (a : Int) : List Mg × Mg × Bool := if postOk l = true then (if 0 ≤ a ∧ a.toNat < l.length then (without15 l a.toNat, (l[a.toNat]?).getD Mg.zero, true) else (l, Mg.zero, false)) else ([], Mg.zero, false)

set_option maxHeartbeats 6400000 in
theorem specTaken_no (v1 : Value) (l : List Mg) (a : Int) (w : World) (hf : FitPost l) (hno : ¬ (postOk l = true ∧ 0 ≤ a ∧ a.toNat < l.length)) (r : ReadsR 15 mgC w.heap.size w v1 l) :
    Calls Try.prog 16 #[v1, .int .i64 a] w fun e w' => ∃ v', e = .returned (.tuple #[v', .agg #[.int .i64 (taken l a).2.1.kd, .int .i64 (taken l a).2.1.ds, .int .i64 (taken l a).2.1.vw, .int .i64 (taken l a).2.1.e.sq, .int .i64 (taken l a).2.1.e.cl, .int .i64 (taken l a).2.1.e.tg, .int .i64 (taken l a).2.1.e.o.k, .string (taken l a).2.1.e.o.nm, .string (taken l a).2.1.e.o.ot, .int .i64 (taken l a).2.1.e.o.at_, .int .i64 (taken l a).2.1.e.o.va, .int .i64 (taken l a).2.1.e.o.ep, .int .i64 (taken l a).2.1.s, .int .i64 (taken l a).2.1.rc, .int .i64 (taken l a).2.1.rv], .bool (taken l a).2.2]) ∧ w'.ownsRow w.heap.size 38 15 v' (taken l a).1.length ((taken l a).1.flatMap mgC) ∧ Below w.heap.size w w' := by
  have HN : Hid _ := hno
  clear hno
  obtain ⟨i0, hi, hz0, hz1, hz2⟩ := info_parts Try.infoMsg
  obtain ⟨o1, c1, rfl⟩ := r.form
  obtain ⟨W0, hW0, kR, d0, z0⟩ := box1 w #[.int .i64 0, .int .i64 0, .int .i64 0, .int .i64 0, .int .i64 0, .int .i64 0, .int .i64 0, .string ⟨#[]⟩, .string ⟨#[]⟩, .int .i64 0, .int .i64 0, .int .i64 0, .int .i64 0, .int .i64 0, .int .i64 0] 38
  have HW0 : Hid (W0 = _) := hW0
  have r0 := (r.below d0).mono d0.size
  clear hW0
  go_enter Try.func16, Try.ntmps16
  go_upto_region 1 with fail
  rw [← HW0.out]
  clear HW0
  go_wp2_with fail
  refine (l15Ok_any _ l _ hf r0).mono ?_
  rintro e w1 ⟨rfl, b1⟩
  have kR1 := (b1.block _ (heap_lt kR)).trans kR
  have D1 := bw_call d0 b1
  have hs1 : w.heap.size + 1 ≤ w1.heap.size := by have := b1.size; omega
  have r1 := (r.below D1).mono D1.size
  obtain ⟨W2, hW2⟩ : ∃ W2, W2 = w1.alloc (.cells #[] 38) := ⟨_, rfl⟩
  have b2 : Below w1.heap.size w1 W2 := by rw [hW2]; exact bw_alloc (Below.refl _ _)
  have kR2 := (b2.block _ (heap_lt kR1)).trans kR1
  have D2 := bw_call D1 b2
  have own0 : W2.ownsRow (w.heap.size + 1) 38 15 (.slice (some ⟨w1.heap.size, 0, none⟩) 0 0) 0 [] := by rw [hW2]; exact owns_mono (own_nomsgs w1) hs1
  have HW2 : Hid (W2 = _) := hW2
  clear z0 d0 b1 kR r0
  cases h1 : postOk l
  · have HP : Hid (taken l a = ([], Mg.zero, false)) := by rw [Hid, taken, h1]; rfl
    obtain ⟨V, hV⟩ : ∃ V, V = (((((((((((((((W2.setCell ⟨w.heap.size, 0, none⟩ (.int .i64 0)).setCell ⟨w.heap.size, 1, none⟩ (.int .i64 0)).setCell ⟨w.heap.size, 2, none⟩ (.int .i64 0)).setCell ⟨w.heap.size, 3, none⟩ (.int .i64 0)).setCell ⟨w.heap.size, 4, none⟩ (.int .i64 0)).setCell ⟨w.heap.size, 5, none⟩ (.int .i64 0)).setCell ⟨w.heap.size, 6, none⟩ (.int .i64 0)).setCell ⟨w.heap.size, 7, none⟩ (.string ⟨#[]⟩)).setCell ⟨w.heap.size, 8, none⟩ (.string ⟨#[]⟩)).setCell ⟨w.heap.size, 9, none⟩ (.int .i64 0)).setCell ⟨w.heap.size, 10, none⟩ (.int .i64 0)).setCell ⟨w.heap.size, 11, none⟩ (.int .i64 0)).setCell ⟨w.heap.size, 12, none⟩ (.int .i64 0)).setCell ⟨w.heap.size, 13, none⟩ (.int .i64 0)).setCell ⟨w.heap.size, 14, none⟩ (.int .i64 0)) := ⟨_, rfl⟩
    have HE0 := putF (b := w.heap.size) (Nat.le_refl _) kR2 D2 (.int .i64 0) (.int .i64 0) (.int .i64 0) (.int .i64 0) (.int .i64 0) (.int .i64 0) (.int .i64 0) (.string ⟨#[]⟩) (.string ⟨#[]⟩) (.int .i64 0) (.int .i64 0) (.int .i64 0) (.int .i64 0) (.int .i64 0) (.int .i64 0)
    rw [← hV] at HE0
    have HV : Hid (V = _) := hV
    have HE : Hid _ := HE0
    have HO : Hid (V.ownsRow w.heap.size 38 15 (.slice (some ⟨w1.heap.size, 0, none⟩) 0 0) 0 []) := owns_mono (ownsRow_upto own0 HE0.2.2 (Nat.lt_succ_self _)) (Nat.le_succ _)
    have p0 := at_cell kR2 0
    have f0 := at_open kR2 0
    have p1 := at_cell kR2 1
    have f1 := at_open kR2 1
    have p2 := at_cell kR2 2
    have f2 := at_open kR2 2
    have p3 := at_cell kR2 3
    have f3 := at_open kR2 3
    have p4 := at_cell kR2 4
    have f4 := at_open kR2 4
    have p5 := at_cell kR2 5
    have f5 := at_open kR2 5
    have p6 := at_cell kR2 6
    have f6 := at_open kR2 6
    have p7 := at_cell kR2 7
    have f7 := at_open kR2 7
    have p8 := at_cell kR2 8
    have f8 := at_open kR2 8
    have p9 := at_cell kR2 9
    have f9 := at_open kR2 9
    have p10 := at_cell kR2 10
    have f10 := at_open kR2 10
    have p11 := at_cell kR2 11
    have f11 := at_open kR2 11
    have p12 := at_cell kR2 12
    have f12 := at_open kR2 12
    have p13 := at_cell kR2 13
    have f13 := at_open kR2 13
    have p14 := at_cell kR2 14
    have f14 := at_open kR2 14
    rw [hW2] at p0 f0 p1 f1 p2 f2 p3 f3 p4 f4 p5 f5 p6 f6 p7 f7 p8 f8 p9 f9 p10 f10 p11 f11 p12 f12 p13 f13 p14 f14
    clear hW2 h1 kR1 kR2 b2 own0 HE0 hV
    go_wp2_with fail
    rw [← HW2.out, ← HV.out]
    exact bodyPost_ret (v := .tuple #[.slice (some ⟨w1.heap.size, 0, none⟩) 0 0, .agg #[.int .i64 0, .int .i64 0, .int .i64 0, .int .i64 0, .int .i64 0, .int .i64 0, .int .i64 0, .string ⟨#[]⟩, .string ⟨#[]⟩, .int .i64 0, .int .i64 0, .int .i64 0, .int .i64 0, .int .i64 0, .int .i64 0], .bool false]) (by simp [results, Try.results16, go_sem, at_cell HE.out.1]) rfl ⟨_, by rw [HP.out]; rfl, by rw [HP.out]; exact HO.out, HE.out.2.1⟩
  have H1 : Hid (postOk l = true) := h1
  have hl60 : l.length ≤ 60 := by
    simp only [postOk, Bool.and_eq_true, decide_eq_true_eq] at h1
    exact h1.2
  have HSRC : Hid _ := flat_src15 mgC_len (by decide) ((r.below D2).mono D2.size)
  have hbl : Hid (∀ k, (Value.slice (some ⟨w1.heap.size, 0, none⟩) 0 0).ownBlock = some k → w.heap.size ≤ k) := fun k hk => by have := (own0.lt k hk).1; omega
  clear hW2 h1
  by_cases ha : 0 ≤ a
  case neg =>
    have HP : Hid (taken l a = (l, Mg.zero, false)) := by rw [Hid, taken, if_pos H1.out, if_neg (fun h => ha h.1)]
    have ha' : a < 0 := by omega
    go_wp2_with (at_builtin; rw [← HW2.out]; refine wpList_append_reads rfl _ _ 24 rfl (w.heap.size + 1) 38 i0 (.agg #[.int .i64 0, .int .i64 0, .int .i64 0, .int .i64 0, .int .i64 0, .int .i64 0, .int .i64 0, .string ByteArray.empty, .string ByteArray.empty, .int .i64 0, .int .i64 0, .int .i64 0, .int .i64 0, .int .i64 0, .int .i64 0]) 15 136 Try.underlying24 hi hz0 hz1 hz2 rfl (by decide) (.slice (some ⟨w1.heap.size, 0, none⟩) 0 0) 0 [] rfl own0 o1 l.length c1 (l.flatMap mgC) rfl (flat_length mgC_len l) HSRC.out (msgs_one l) (by unfold maxLen; omega) (by omega) (by have := b2.size; omega) ?_)
    intro v3 w3 own3 gr3 nil3
    have own3' : w3.ownsRow (w.heap.size + 1) 38 15 v3 l.length (l.flatMap mgC) := by simpa using own3
    have kR3 := (gr3.block _ (heap_lt kR2) (fun e => by simp [Value.ownBlock] at e; omega)).trans kR2
    have D3 : Below w.heap.size w w3 := D2.grown gr3 D2.size hbl.out
    obtain ⟨o3, c3, rfl⟩ := own_slice own3'
    obtain ⟨V, hV⟩ : ∃ V, V = (((((((((((((((w3.setCell ⟨w.heap.size, 0, none⟩ (.int .i64 0)).setCell ⟨w.heap.size, 1, none⟩ (.int .i64 0)).setCell ⟨w.heap.size, 2, none⟩ (.int .i64 0)).setCell ⟨w.heap.size, 3, none⟩ (.int .i64 0)).setCell ⟨w.heap.size, 4, none⟩ (.int .i64 0)).setCell ⟨w.heap.size, 5, none⟩ (.int .i64 0)).setCell ⟨w.heap.size, 6, none⟩ (.int .i64 0)).setCell ⟨w.heap.size, 7, none⟩ (.string ⟨#[]⟩)).setCell ⟨w.heap.size, 8, none⟩ (.string ⟨#[]⟩)).setCell ⟨w.heap.size, 9, none⟩ (.int .i64 0)).setCell ⟨w.heap.size, 10, none⟩ (.int .i64 0)).setCell ⟨w.heap.size, 11, none⟩ (.int .i64 0)).setCell ⟨w.heap.size, 12, none⟩ (.int .i64 0)).setCell ⟨w.heap.size, 13, none⟩ (.int .i64 0)).setCell ⟨w.heap.size, 14, none⟩ (.int .i64 0)) := ⟨_, rfl⟩
    have HE0 := putF (b := w.heap.size) (Nat.le_refl _) kR3 D3 (.int .i64 0) (.int .i64 0) (.int .i64 0) (.int .i64 0) (.int .i64 0) (.int .i64 0) (.int .i64 0) (.string ⟨#[]⟩) (.string ⟨#[]⟩) (.int .i64 0) (.int .i64 0) (.int .i64 0) (.int .i64 0) (.int .i64 0) (.int .i64 0)
    rw [← hV] at HE0
    have HV : Hid (V = _) := hV
    have HE : Hid _ := HE0
    have HO : Hid (V.ownsRow w.heap.size 38 15 (.slice o3 l.length c3) l.length (l.flatMap mgC)) := owns_mono (ownsRow_upto own3' HE0.2.2 (Nat.lt_succ_self _)) (Nat.le_succ _)
    have p0 := at_cell kR3 0
    have f0 := at_open kR3 0
    have p1 := at_cell kR3 1
    have f1 := at_open kR3 1
    have p2 := at_cell kR3 2
    have f2 := at_open kR3 2
    have p3 := at_cell kR3 3
    have f3 := at_open kR3 3
    have p4 := at_cell kR3 4
    have f4 := at_open kR3 4
    have p5 := at_cell kR3 5
    have f5 := at_open kR3 5
    have p6 := at_cell kR3 6
    have f6 := at_open kR3 6
    have p7 := at_cell kR3 7
    have f7 := at_open kR3 7
    have p8 := at_cell kR3 8
    have f8 := at_open kR3 8
    have p9 := at_cell kR3 9
    have f9 := at_open kR3 9
    have p10 := at_cell kR3 10
    have f10 := at_open kR3 10
    have p11 := at_cell kR3 11
    have f11 := at_open kR3 11
    have p12 := at_cell kR3 12
    have f12 := at_open kR3 12
    have p13 := at_cell kR3 13
    have f13 := at_open kR3 13
    have p14 := at_cell kR3 14
    have f14 := at_open kR3 14
    clear own3 gr3 nil3 own3' kR3 D3 HE0 hV kR1 kR2 b2 own0 D2 HW2 HSRC
    go_wp2_with fail
    rw [← HV.out]
    exact bodyPost_ret (v := .tuple #[.slice o3 l.length c3, .agg #[.int .i64 0, .int .i64 0, .int .i64 0, .int .i64 0, .int .i64 0, .int .i64 0, .int .i64 0, .string ⟨#[]⟩, .string ⟨#[]⟩, .int .i64 0, .int .i64 0, .int .i64 0, .int .i64 0, .int .i64 0, .int .i64 0], .bool false]) (by simp [results, Try.results16, go_sem, at_cell HE.out.1]) rfl ⟨_, by rw [HP.out]; rfl, by rw [HP.out]; exact HO.out, HE.out.2.1⟩
  obtain ⟨kk, rfl⟩ := Int.eq_ofNat_of_zero_le ha
  have ha0 : ¬ (kk : Int) < 0 := by omega
  have hk : ¬ kk < l.length := fun hk => HN.out ⟨H1.out, ha, by simpa using hk⟩
  · have HP : Hid (taken l (kk : Int) = (l, Mg.zero, false)) := by rw [Hid, taken, if_pos H1.out, if_neg (fun h => hk (by simpa using h.2))]
    have ha' : (l.length : Int) ≤ (kk : Int) := by omega
    go_wp2_with (at_builtin; rw [← HW2.out]; refine wpList_append_reads rfl _ _ 24 rfl (w.heap.size + 1) 38 i0 (.agg #[.int .i64 0, .int .i64 0, .int .i64 0, .int .i64 0, .int .i64 0, .int .i64 0, .int .i64 0, .string ByteArray.empty, .string ByteArray.empty, .int .i64 0, .int .i64 0, .int .i64 0, .int .i64 0, .int .i64 0, .int .i64 0]) 15 136 Try.underlying24 hi hz0 hz1 hz2 rfl (by decide) (.slice (some ⟨w1.heap.size, 0, none⟩) 0 0) 0 [] rfl own0 o1 l.length c1 (l.flatMap mgC) rfl (flat_length mgC_len l) HSRC.out (msgs_one l) (by unfold maxLen; omega) (by omega) (by have := b2.size; omega) ?_)
    intro v3 w3 own3 gr3 nil3
    have own3' : w3.ownsRow (w.heap.size + 1) 38 15 v3 l.length (l.flatMap mgC) := by simpa using own3
    have kR3 := (gr3.block _ (heap_lt kR2) (fun e => by simp [Value.ownBlock] at e; omega)).trans kR2
    have D3 : Below w.heap.size w w3 := D2.grown gr3 D2.size hbl.out
    obtain ⟨o3, c3, rfl⟩ := own_slice own3'
    obtain ⟨V, hV⟩ : ∃ V, V = (((((((((((((((w3.setCell ⟨w.heap.size, 0, none⟩ (.int .i64 0)).setCell ⟨w.heap.size, 1, none⟩ (.int .i64 0)).setCell ⟨w.heap.size, 2, none⟩ (.int .i64 0)).setCell ⟨w.heap.size, 3, none⟩ (.int .i64 0)).setCell ⟨w.heap.size, 4, none⟩ (.int .i64 0)).setCell ⟨w.heap.size, 5, none⟩ (.int .i64 0)).setCell ⟨w.heap.size, 6, none⟩ (.int .i64 0)).setCell ⟨w.heap.size, 7, none⟩ (.string ⟨#[]⟩)).setCell ⟨w.heap.size, 8, none⟩ (.string ⟨#[]⟩)).setCell ⟨w.heap.size, 9, none⟩ (.int .i64 0)).setCell ⟨w.heap.size, 10, none⟩ (.int .i64 0)).setCell ⟨w.heap.size, 11, none⟩ (.int .i64 0)).setCell ⟨w.heap.size, 12, none⟩ (.int .i64 0)).setCell ⟨w.heap.size, 13, none⟩ (.int .i64 0)).setCell ⟨w.heap.size, 14, none⟩ (.int .i64 0)) := ⟨_, rfl⟩
    have HE0 := putF (b := w.heap.size) (Nat.le_refl _) kR3 D3 (.int .i64 0) (.int .i64 0) (.int .i64 0) (.int .i64 0) (.int .i64 0) (.int .i64 0) (.int .i64 0) (.string ⟨#[]⟩) (.string ⟨#[]⟩) (.int .i64 0) (.int .i64 0) (.int .i64 0) (.int .i64 0) (.int .i64 0) (.int .i64 0)
    rw [← hV] at HE0
    have HV : Hid (V = _) := hV
    have HE : Hid _ := HE0
    have HO : Hid (V.ownsRow w.heap.size 38 15 (.slice o3 l.length c3) l.length (l.flatMap mgC)) := owns_mono (ownsRow_upto own3' HE0.2.2 (Nat.lt_succ_self _)) (Nat.le_succ _)
    have p0 := at_cell kR3 0
    have f0 := at_open kR3 0
    have p1 := at_cell kR3 1
    have f1 := at_open kR3 1
    have p2 := at_cell kR3 2
    have f2 := at_open kR3 2
    have p3 := at_cell kR3 3
    have f3 := at_open kR3 3
    have p4 := at_cell kR3 4
    have f4 := at_open kR3 4
    have p5 := at_cell kR3 5
    have f5 := at_open kR3 5
    have p6 := at_cell kR3 6
    have f6 := at_open kR3 6
    have p7 := at_cell kR3 7
    have f7 := at_open kR3 7
    have p8 := at_cell kR3 8
    have f8 := at_open kR3 8
    have p9 := at_cell kR3 9
    have f9 := at_open kR3 9
    have p10 := at_cell kR3 10
    have f10 := at_open kR3 10
    have p11 := at_cell kR3 11
    have f11 := at_open kR3 11
    have p12 := at_cell kR3 12
    have f12 := at_open kR3 12
    have p13 := at_cell kR3 13
    have f13 := at_open kR3 13
    have p14 := at_cell kR3 14
    have f14 := at_open kR3 14
    clear own3 gr3 nil3 own3' kR3 D3 HE0 hV kR1 kR2 b2 own0 D2 HW2 HSRC
    go_wp2_with fail
    rw [← HV.out]
    exact bodyPost_ret (v := .tuple #[.slice o3 l.length c3, .agg #[.int .i64 0, .int .i64 0, .int .i64 0, .int .i64 0, .int .i64 0, .int .i64 0, .int .i64 0, .string ⟨#[]⟩, .string ⟨#[]⟩, .int .i64 0, .int .i64 0, .int .i64 0, .int .i64 0, .int .i64 0, .int .i64 0], .bool false]) (by simp [results, Try.results16, go_sem, at_cell HE.out.1]) rfl ⟨_, by rw [HP.out]; rfl, by rw [HP.out]; exact HO.out, HE.out.2.1⟩

set_option maxHeartbeats 6400000 in
theorem specTaken_yes (v1 : Value) (l : List Mg) (kk : Nat) (w : World) (hf : FitPost l) (h1 : postOk l = true) (hk : kk < l.length) (r : ReadsR 15 mgC w.heap.size w v1 l) :
    Calls Try.prog 16 #[v1, .int .i64 (kk : Int)] w fun e w' => ∃ v', e = .returned (.tuple #[v', .agg #[.int .i64 (taken l (kk : Int)).2.1.kd, .int .i64 (taken l (kk : Int)).2.1.ds, .int .i64 (taken l (kk : Int)).2.1.vw, .int .i64 (taken l (kk : Int)).2.1.e.sq, .int .i64 (taken l (kk : Int)).2.1.e.cl, .int .i64 (taken l (kk : Int)).2.1.e.tg, .int .i64 (taken l (kk : Int)).2.1.e.o.k, .string (taken l (kk : Int)).2.1.e.o.nm, .string (taken l (kk : Int)).2.1.e.o.ot, .int .i64 (taken l (kk : Int)).2.1.e.o.at_, .int .i64 (taken l (kk : Int)).2.1.e.o.va, .int .i64 (taken l (kk : Int)).2.1.e.o.ep, .int .i64 (taken l (kk : Int)).2.1.s, .int .i64 (taken l (kk : Int)).2.1.rc, .int .i64 (taken l (kk : Int)).2.1.rv], .bool (taken l (kk : Int)).2.2]) ∧ w'.ownsRow w.heap.size 38 15 v' (taken l (kk : Int)).1.length ((taken l (kk : Int)).1.flatMap mgC) ∧ Below w.heap.size w w' := by
  obtain ⟨i0, hi, hz0, hz1, hz2⟩ := info_parts Try.infoMsg
  obtain ⟨o1, c1, rfl⟩ := r.form
  obtain ⟨W0, hW0, kR, d0, z0⟩ := box1 w #[.int .i64 0, .int .i64 0, .int .i64 0, .int .i64 0, .int .i64 0, .int .i64 0, .int .i64 0, .string ⟨#[]⟩, .string ⟨#[]⟩, .int .i64 0, .int .i64 0, .int .i64 0, .int .i64 0, .int .i64 0, .int .i64 0] 38
  have HW0 : Hid (W0 = _) := hW0
  have r0 := (r.below d0).mono d0.size
  clear hW0
  go_enter Try.func16, Try.ntmps16
  go_upto_region 1 with fail
  rw [← HW0.out]
  clear HW0
  go_wp2_with fail
  refine (l15Ok_any _ l _ hf r0).mono ?_
  rintro e w1 ⟨rfl, b1⟩
  have kR1 := (b1.block _ (heap_lt kR)).trans kR
  have D1 := bw_call d0 b1
  have hs1 : w.heap.size + 1 ≤ w1.heap.size := by have := b1.size; omega
  have r1 := (r.below D1).mono D1.size
  obtain ⟨W2, hW2⟩ : ∃ W2, W2 = w1.alloc (.cells #[] 38) := ⟨_, rfl⟩
  have b2 : Below w1.heap.size w1 W2 := by rw [hW2]; exact bw_alloc (Below.refl _ _)
  have kR2 := (b2.block _ (heap_lt kR1)).trans kR1
  have D2 := bw_call D1 b2
  have own0 : W2.ownsRow (w.heap.size + 1) 38 15 (.slice (some ⟨w1.heap.size, 0, none⟩) 0 0) 0 [] := by rw [hW2]; exact owns_mono (own_nomsgs w1) hs1
  have HW2 : Hid (W2 = _) := hW2
  clear z0 d0 b1 kR r0
  rw [h1]
  have H1 : Hid (postOk l = true) := h1
  have hl60 : l.length ≤ 60 := by
    simp only [postOk, Bool.and_eq_true, decide_eq_true_eq] at h1
    exact h1.2
  clear hW2 h1
  have ha : (0 : Int) ≤ (kk : Int) := by omega
  have ha0 : ¬ (kk : Int) < 0 := by omega
  have hk' : ¬ (l.length : Int) ≤ (kk : Int) := by omega
  have hk2 : (kk : Int) < (l.length : Int) := by omega
  clear own0 HW2 kR2 D2 b2
  obtain ⟨o', cap', e1, -, hc, -⟩ := r
  obtain ⟨g, off, e2, hg, a0, a1, a2, a3, a4, a5, a6, a7, a8, a9, a10, a11, a12, a13, a14⟩ := mg_cells hc kk hk
  cases e1
  subst e2
  obtain ⟨x, hx⟩ : ∃ x, l[kk] = x := ⟨_, rfl⟩
  have HP : Hid (taken l (kk : Int) = (without15 l kk, x, true)) := by rw [Hid, taken, if_pos H1.out, if_pos ⟨ha, by simpa using hk⟩]; simp [hk, hx]
  rw [hx] at a0 a1 a2 a3 a4 a5 a6 a7 a8 a9 a10 a11 a12 a13 a14
  clear hx hc
  have HA : Hid (∀ W, Below w.heap.size w W → W.cell? ⟨g, off + kk * 15, none⟩ = some (.int .i64 x.kd) ∧ W.cell? ⟨g, off + kk * 15 + 1, none⟩ = some (.int .i64 x.ds) ∧ W.cell? ⟨g, off + kk * 15 + 2, none⟩ = some (.int .i64 x.vw) ∧ W.cell? ⟨g, off + kk * 15 + 3, none⟩ = some (.int .i64 x.e.sq) ∧ W.cell? ⟨g, off + kk * 15 + 4, none⟩ = some (.int .i64 x.e.cl) ∧ W.cell? ⟨g, off + kk * 15 + 5, none⟩ = some (.int .i64 x.e.tg) ∧ W.cell? ⟨g, off + kk * 15 + 6, none⟩ = some (.int .i64 x.e.o.k) ∧ W.cell? ⟨g, off + kk * 15 + 7, none⟩ = some (.string x.e.o.nm) ∧ W.cell? ⟨g, off + kk * 15 + 8, none⟩ = some (.string x.e.o.ot) ∧ W.cell? ⟨g, off + kk * 15 + 9, none⟩ = some (.int .i64 x.e.o.at_) ∧ W.cell? ⟨g, off + kk * 15 + 10, none⟩ = some (.int .i64 x.e.o.va) ∧ W.cell? ⟨g, off + kk * 15 + 11, none⟩ = some (.int .i64 x.e.o.ep) ∧ W.cell? ⟨g, off + kk * 15 + 12, none⟩ = some (.int .i64 x.s) ∧ W.cell? ⟨g, off + kk * 15 + 13, none⟩ = some (.int .i64 x.rc) ∧ W.cell? ⟨g, off + kk * 15 + 14, none⟩ = some (.int .i64 x.rv)) := fun W hW => ⟨(hW.cell (p := ⟨g, off + kk * 15, none⟩) hg).trans a0, (hW.cell (p := ⟨g, off + kk * 15 + 1, none⟩) hg).trans a1, (hW.cell (p := ⟨g, off + kk * 15 + 2, none⟩) hg).trans a2, (hW.cell (p := ⟨g, off + kk * 15 + 3, none⟩) hg).trans a3, (hW.cell (p := ⟨g, off + kk * 15 + 4, none⟩) hg).trans a4, (hW.cell (p := ⟨g, off + kk * 15 + 5, none⟩) hg).trans a5, (hW.cell (p := ⟨g, off + kk * 15 + 6, none⟩) hg).trans a6, (hW.cell (p := ⟨g, off + kk * 15 + 7, none⟩) hg).trans a7, (hW.cell (p := ⟨g, off + kk * 15 + 8, none⟩) hg).trans a8, (hW.cell (p := ⟨g, off + kk * 15 + 9, none⟩) hg).trans a9, (hW.cell (p := ⟨g, off + kk * 15 + 10, none⟩) hg).trans a10, (hW.cell (p := ⟨g, off + kk * 15 + 11, none⟩) hg).trans a11, (hW.cell (p := ⟨g, off + kk * 15 + 12, none⟩) hg).trans a12, (hW.cell (p := ⟨g, off + kk * 15 + 13, none⟩) hg).trans a13, (hW.cell (p := ⟨g, off + kk * 15 + 14, none⟩) hg).trans a14⟩
  have RD : ReadsR 15 mgC w1.drew.heap.size w1.drew (.slice (some ⟨g, off, none⟩) l.length c1) l := r1.below ((Below.refl _ _).drew)
  obtain ⟨t0, t1, t2, t3, t4, t5, t6, t7, t8, t9, t10, t11, t12, t13, t14⟩ := HA.out w1 D1
  have HKR : Hid _ := kR1
  have HD1 : Hid _ := D1
  clear a0 a1 a2 a3 a4 a5 a6 a7 a8 a9 a10 a11 a12 a13 a14 kR1 D1 r1
  go_wp2_with fail
  go_region_law (go_simp; go_at_call 39; refine (l15Without_any _ l kk _ hk hl60 RD).mono ?_; rintro e w5 ⟨v', rfl, own5, b5⟩; have kR5 := (b5.block _ (heap_lt HKR.out)).trans HKR.out; have D5 : Below w.heap.size w w5 := HD1.out.drew.trans (b5.mono HD1.out.size); obtain ⟨u0, u1, u2, u3, u4, u5, u6, u7, u8, u9, u10, u11, u12, u13, u14⟩ := HA.out w5 D5; have p0 := at_cell kR5 0; have f0 := at_open kR5 0; have p1 := at_cell kR5 1; have f1 := at_open kR5 1; have p2 := at_cell kR5 2; have f2 := at_open kR5 2; have p3 := at_cell kR5 3; have f3 := at_open kR5 3; have p4 := at_cell kR5 4; have f4 := at_open kR5 4; have p5 := at_cell kR5 5; have f5 := at_open kR5 5; have p6 := at_cell kR5 6; have f6 := at_open kR5 6; have p7 := at_cell kR5 7; have f7 := at_open kR5 7; have p8 := at_cell kR5 8; have f8 := at_open kR5 8; have p9 := at_cell kR5 9; have f9 := at_open kR5 9; have p10 := at_cell kR5 10; have f10 := at_open kR5 10; have p11 := at_cell kR5 11; have f11 := at_open kR5 11; have p12 := at_cell kR5 12; have f12 := at_open kR5 12; have p13 := at_cell kR5 13; have f13 := at_open kR5 13; have p14 := at_cell kR5 14; have f14 := at_open kR5 14)
  all_goals
    obtain ⟨V, hV⟩ : ∃ V, V = (((((((((((((((w5.setCell ⟨w.heap.size, 0, none⟩ (.int .i64 x.kd)).setCell ⟨w.heap.size, 1, none⟩ (.int .i64 x.ds)).setCell ⟨w.heap.size, 2, none⟩ (.int .i64 x.vw)).setCell ⟨w.heap.size, 3, none⟩ (.int .i64 x.e.sq)).setCell ⟨w.heap.size, 4, none⟩ (.int .i64 x.e.cl)).setCell ⟨w.heap.size, 5, none⟩ (.int .i64 x.e.tg)).setCell ⟨w.heap.size, 6, none⟩ (.int .i64 x.e.o.k)).setCell ⟨w.heap.size, 7, none⟩ (.string x.e.o.nm)).setCell ⟨w.heap.size, 8, none⟩ (.string x.e.o.ot)).setCell ⟨w.heap.size, 9, none⟩ (.int .i64 x.e.o.at_)).setCell ⟨w.heap.size, 10, none⟩ (.int .i64 x.e.o.va)).setCell ⟨w.heap.size, 11, none⟩ (.int .i64 x.e.o.ep)).setCell ⟨w.heap.size, 12, none⟩ (.int .i64 x.s)).setCell ⟨w.heap.size, 13, none⟩ (.int .i64 x.rc)).setCell ⟨w.heap.size, 14, none⟩ (.int .i64 x.rv)) := ⟨_, rfl⟩
    have HE0 := putF (b := w.heap.size) (Nat.le_refl _) kR5 D5 (.int .i64 x.kd) (.int .i64 x.ds) (.int .i64 x.vw) (.int .i64 x.e.sq) (.int .i64 x.e.cl) (.int .i64 x.e.tg) (.int .i64 x.e.o.k) (.string x.e.o.nm) (.string x.e.o.ot) (.int .i64 x.e.o.at_) (.int .i64 x.e.o.va) (.int .i64 x.e.o.ep) (.int .i64 x.s) (.int .i64 x.rc) (.int .i64 x.rv)
    rw [← hV] at HE0
    have HV : Hid (V = _) := hV
    have HE : Hid _ := HE0
    have HO : Hid (V.ownsRow w.heap.size 38 15 v' (without15 l kk).length ((without15 l kk).flatMap mgC)) := owns_mono (ownsRow_upto (owns_mono own5 (show w.heap.size + 1 ≤ w1.heap.size from hs1)) HE0.2.2 (Nat.lt_succ_self _)) (Nat.le_succ _)
    clear own5 kR5 b5 D5 HE0 hV
    go_wp2_with fail
    rw [← HV.out]
    exact bodyPost_ret (v := .tuple #[v', .agg #[.int .i64 x.kd, .int .i64 x.ds, .int .i64 x.vw, .int .i64 x.e.sq, .int .i64 x.e.cl, .int .i64 x.e.tg, .int .i64 x.e.o.k, .string x.e.o.nm, .string x.e.o.ot, .int .i64 x.e.o.at_, .int .i64 x.e.o.va, .int .i64 x.e.o.ep, .int .i64 x.s, .int .i64 x.rc, .int .i64 x.rv], .bool true]) (by simp [results, Try.results16, go_sem, at_cell HE.out.1]) rfl ⟨_, by rw [HP.out], by rw [HP.out]; exact HO.out, HE.out.2.1⟩

theorem specTaken_any (v1 : Value) (l : List Mg) (a : Int) (w : World) (hf : FitPost l) (r : ReadsR 15 mgC w.heap.size w v1 l) :
    Calls Try.prog 16 #[v1, .int .i64 a] w fun e w' => ∃ v', e = .returned (.tuple #[v', .agg #[.int .i64 (taken l a).2.1.kd, .int .i64 (taken l a).2.1.ds, .int .i64 (taken l a).2.1.vw, .int .i64 (taken l a).2.1.e.sq, .int .i64 (taken l a).2.1.e.cl, .int .i64 (taken l a).2.1.e.tg, .int .i64 (taken l a).2.1.e.o.k, .string (taken l a).2.1.e.o.nm, .string (taken l a).2.1.e.o.ot, .int .i64 (taken l a).2.1.e.o.at_, .int .i64 (taken l a).2.1.e.o.va, .int .i64 (taken l a).2.1.e.o.ep, .int .i64 (taken l a).2.1.s, .int .i64 (taken l a).2.1.rc, .int .i64 (taken l a).2.1.rv], .bool (taken l a).2.2]) ∧ w'.ownsRow w.heap.size 38 15 v' (taken l a).1.length ((taken l a).1.flatMap mgC) ∧ Below w.heap.size w w' := by
  by_cases hq : postOk l = true ∧ 0 ≤ a ∧ a.toNat < l.length
  · obtain ⟨kk, rfl⟩ := Int.eq_ofNat_of_zero_le hq.2.1
    exact specTaken_yes v1 l kk w hf hq.1 (by simpa using hq.2.2) r
  · exact specTaken_no v1 l a w hf hq r
end Go.Proofs.Ytgabhnhfomekfaa

