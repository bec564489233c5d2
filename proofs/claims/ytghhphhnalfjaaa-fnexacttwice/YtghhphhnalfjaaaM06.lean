/-
  Contracts and plain laws, one chapter behind the other.
-/
import Derived.Deep.Cut
import Derived.Laws.BitsLemmas
import Derived.DeepKeys4
import Derived.Maps.OwnOps
import Derived.Maps.OwnSet
import Derived.Maps.RangeWalk
import Derived.WideKeyEntry
import Derived.Orders
import Derived.WalkKit
import Derived.Test.YtghhphhnalfjaaaM01
import Derived.Test.YtghhphhnalfjaaaM04
import Derived.Test.YtghhphhnalfjaaaM05
namespace Go.Proofs.Ytghhphhnalfjaaa
open Go.RowKit

set_option linter.unusedVariables false

set_option maxRecDepth 100000


def taken (l : List Mg) (a : Int) : List Mg × Mg × Bool := if postOk l = true then (if 0 ≤ a ∧ a.toNat < l.length then (without15 l a.toNat, (l[a.toNat]?).getD Mg.zero, true) else (l, Mg.zero, false)) else ([], Mg.zero, false)

set_option maxHeartbeats 6400000 in
theorem specTaken_no (v1 : Value) (l : List Mg) (a : Int) (w : World) (hf : FitPost l) (hno : ¬ (postOk l = true ∧ 0 ≤ a ∧ a.toNat < l.length)) (r : ReadsR 15 mgC w.heap.size w v1 l) :
    Calls Try.prog 20 #[v1, .int .i64 a] w fun e w' => ∃ v', e = .returned (.tuple #[v', .agg #[.int .i64 (taken l a).2.1.kd, .int .i64 (taken l a).2.1.ds, .int .i64 (taken l a).2.1.vw, .int .i64 (taken l a).2.1.e.sq, .int .i64 (taken l a).2.1.e.cl, .int .i64 (taken l a).2.1.e.tg, .int .i64 (taken l a).2.1.e.o.k, .string (taken l a).2.1.e.o.nm, .string (taken l a).2.1.e.o.ot, .int .i64 (taken l a).2.1.e.o.at_, .int .i64 (taken l a).2.1.e.o.va, .int .i64 (taken l a).2.1.e.o.ep, .int .i64 (taken l a).2.1.s, .int .i64 (taken l a).2.1.rc, .int .i64 (taken l a).2.1.rv], .bool (taken l a).2.2]) ∧ w'.ownsRow w.heap.size 38 15 v' (taken l a).1.length ((taken l a).1.flatMap mgC) ∧ Below w.heap.size w w' := by
  have HN : Hid _ := hno
  clear hno
  obtain ⟨i0, hi, hz0, hz1, hz2⟩ := info_parts Try.infoMsg
  obtain ⟨o1, c1, rfl⟩ := r.form
  obtain ⟨W0, hW0, kR, d0, z0⟩ := box1 w #[.int .i64 0, .int .i64 0, .int .i64 0, .int .i64 0, .int .i64 0, .int .i64 0, .int .i64 0, .string ⟨#[]⟩, .string ⟨#[]⟩, .int .i64 0, .int .i64 0, .int .i64 0, .int .i64 0, .int .i64 0, .int .i64 0] 38
  have HW0 : Hid (W0 = _) := hW0
  have r0 := (r.below d0).mono d0.size
  clear hW0
  go_enter Try.func20, Try.ntmps20
  go_upto_region 1 with fail
  rw [← HW0.out]
  clear HW0
  go_wp2_with fail
  refine (l15Ok_any _ l _ hf r0).mono ?_
  rintro e w1 ⟨rfl, b1⟩
  have kR1 := (b1.block _ (heap_lt kR)).trans kR
  have D1 := bw_call d0 b1
  have hs1 : w.heap.size + 1 ≤ w1.heap.size := by have := b1.size; omega
  have r1 := (r.below D1).mono D1.size
  obtain ⟨W2, hW2⟩ : ∃ W2, W2 = w1.alloc (.cells #[] 38) := ⟨_, rfl⟩
  have b2 : Below w1.heap.size w1 W2 := by rw [hW2]; exact bw_alloc (Below.refl _ _)
  have kR2 := (b2.block _ (heap_lt kR1)).trans kR1
  have D2 := bw_call D1 b2
  have own0 : W2.ownsRow (w.heap.size + 1) 38 15 (.slice (some ⟨w1.heap.size, 0, none⟩) 0 0) 0 [] := by rw [hW2]; exact owns_mono (own_nomsgs w1) hs1
  have HW2 : Hid (W2 = _) := hW2
  clear z0 d0 b1 kR r0
  cases h1 : postOk l
  · have HP : Hid (taken l a = ([], Mg.zero, false)) := by rw [Hid, taken, h1]; rfl
    obtain ⟨V, hV⟩ : ∃ V, V = (((((((((((((((W2.setCell ⟨w.heap.size, 0, none⟩ (.int .i64 0)).setCell ⟨w.heap.size, 1, none⟩ (.int .i64 0)).setCell ⟨w.heap.size, 2, none⟩ (.int .i64 0)).setCell ⟨w.heap.size, 3, none⟩ (.int .i64 0)).setCell ⟨w.heap.size, 4, none⟩ (.int .i64 0)).setCell ⟨w.heap.size, 5, none⟩ (.int .i64 0)).setCell ⟨w.heap.size, 6, none⟩ (.int .i64 0)).setCell ⟨w.heap.size, 7, none⟩ (.string ⟨#[]⟩)).setCell ⟨w.heap.size, 8, none⟩ (.string ⟨#[]⟩)).setCell ⟨w.heap.size, 9, none⟩ (.int .i64 0)).setCell ⟨w.heap.size, 10, none⟩ (.int .i64 0)).setCell ⟨w.heap.size, 11, none⟩ (.int .i64 0)).setCell ⟨w.heap.size, 12, none⟩ (.int .i64 0)).setCell ⟨w.heap.size, 13, none⟩ (.int .i64 0)).setCell ⟨w.heap.size, 14, none⟩ (.int .i64 0)) := ⟨_, rfl⟩
    have HE0 := putF (b := w.heap.size) (Nat.le_refl _) kR2 D2 (.int .i64 0) (.int .i64 0) (.int .i64 0) (.int .i64 0) (.int .i64 0) (.int .i64 0) (.int .i64 0) (.string ⟨#[]⟩) (.string ⟨#[]⟩) (.int .i64 0) (.int .i64 0) (.int .i64 0) (.int .i64 0) (.int .i64 0) (.int .i64 0)
    rw [← hV] at HE0
    have HV : Hid (V = _) := hV
    have HE : Hid _ := HE0
    have HO : Hid (V.ownsRow w.heap.size 38 15 (.slice (some ⟨w1.heap.size, 0, none⟩) 0 0) 0 []) := owns_mono (ownsRow_upto own0 HE0.2.2 (Nat.lt_succ_self _)) (Nat.le_succ _)
    have p0 := at_cell kR2 0
    have f0 := at_open kR2 0
    have p1 := at_cell kR2 1
    have f1 := at_open kR2 1
    have p2 := at_cell kR2 2
    have f2 := at_open kR2 2
    have p3 := at_cell kR2 3
    have f3 := at_open kR2 3
    have p4 := at_cell kR2 4
    have f4 := at_open kR2 4
    have p5 := at_cell kR2 5
    have f5 := at_open kR2 5
    have p6 := at_cell kR2 6
    have f6 := at_open kR2 6
    have p7 := at_cell kR2 7
    have f7 := at_open kR2 7
    have p8 := at_cell kR2 8
    have f8 := at_open kR2 8
    have p9 := at_cell kR2 9
    have f9 := at_open kR2 9
    have p10 := at_cell kR2 10
    have f10 := at_open kR2 10
    have p11 := at_cell kR2 11
    have f11 := at_open kR2 11
    have p12 := at_cell kR2 12
    have f12 := at_open kR2 12
    have p13 := at_cell kR2 13
    have f13 := at_open kR2 13
    have p14 := at_cell kR2 14
    have f14 := at_open kR2 14
    rw [hW2] at p0 f0 p1 f1 p2 f2 p3 f3 p4 f4 p5 f5 p6 f6 p7 f7 p8 f8 p9 f9 p10 f10 p11 f11 p12 f12 p13 f13 p14 f14
    clear hW2 h1 kR1 kR2 b2 own0 HE0 hV
    go_wp2_with fail
    rw [← HW2.out, ← HV.out]
    exact bodyPost_ret (v := .tuple #[.slice (some ⟨w1.heap.size, 0, none⟩) 0 0, .agg #[.int .i64 0, .int .i64 0, .int .i64 0, .int .i64 0, .int .i64 0, .int .i64 0, .int .i64 0, .string ⟨#[]⟩, .string ⟨#[]⟩, .int .i64 0, .int .i64 0, .int .i64 0, .int .i64 0, .int .i64 0, .int .i64 0], .bool false]) (by simp [results, Try.results20, go_sem, at_cell HE.out.1]) rfl ⟨_, by rw [HP.out]; rfl, by rw [HP.out]; exact HO.out, HE.out.2.1⟩
  have H1 : Hid (postOk l = true) := h1
  have hl60 : l.length ≤ 60 := by
    simp only [postOk, Bool.and_eq_true, decide_eq_true_eq] at h1
    exact h1.2
  have HSRC : Hid _ := flat_src15 mgC_len (by decide) ((r.below D2).mono D2.size)
  have hbl : Hid (∀ k, (Value.slice (some ⟨w1.heap.size, 0, none⟩) 0 0).ownBlock = some k → w.heap.size ≤ k) := fun k hk => by have := (own0.lt k hk).1; omega
  clear hW2 h1
  by_cases ha : 0 ≤ a
  case neg =>
    have HP : Hid (taken l a = (l, Mg.zero, false)) := by rw [Hid, taken, if_pos H1.out, if_neg (fun h => ha h.1)]
    have ha' : a < 0 := by omega
    go_wp2_with (at_builtin; rw [← HW2.out]; refine wpList_append_reads rfl _ _ 24 rfl (w.heap.size + 1) 38 i0 (.agg #[.int .i64 0, .int .i64 0, .int .i64 0, .int .i64 0, .int .i64 0, .int .i64 0, .int .i64 0, .string ByteArray.empty, .string ByteArray.empty, .int .i64 0, .int .i64 0, .int .i64 0, .int .i64 0, .int .i64 0, .int .i64 0]) 15 136 Try.underlying24 hi hz0 hz1 hz2 rfl (by decide) (.slice (some ⟨w1.heap.size, 0, none⟩) 0 0) 0 [] rfl own0 o1 l.length c1 (l.flatMap mgC) rfl (flat_length mgC_len l) HSRC.out (msgs_one l) (by unfold maxLen; omega) (by omega) (by have := b2.size; omega) ?_)
    intro v3 w3 own3 gr3 nil3
    have own3' : w3.ownsRow (w.heap.size + 1) 38 15 v3 l.length (l.flatMap mgC) := by simpa using own3
    have kR3 := (gr3.block _ (heap_lt kR2) (fun e => by simp [Value.ownBlock] at e; omega)).trans kR2
    have D3 : Below w.heap.size w w3 := D2.grown gr3 D2.size hbl.out
    obtain ⟨o3, c3, rfl⟩ := own_slice own3'
    obtain ⟨V, hV⟩ : ∃ V, V = (((((((((((((((w3.setCell ⟨w.heap.size, 0, none⟩ (.int .i64 0)).setCell ⟨w.heap.size, 1, none⟩ (.int .i64 0)).setCell ⟨w.heap.size, 2, none⟩ (.int .i64 0)).setCell ⟨w.heap.size, 3, none⟩ (.int .i64 0)).setCell ⟨w.heap.size, 4, none⟩ (.int .i64 0)).setCell ⟨w.heap.size, 5, none⟩ (.int .i64 0)).setCell ⟨w.heap.size, 6, none⟩ (.int .i64 0)).setCell ⟨w.heap.size, 7, none⟩ (.string ⟨#[]⟩)).setCell ⟨w.heap.size, 8, none⟩ (.string ⟨#[]⟩)).setCell ⟨w.heap.size, 9, none⟩ (.int .i64 0)).setCell ⟨w.heap.size, 10, none⟩ (.int .i64 0)).setCell ⟨w.heap.size, 11, none⟩ (.int .i64 0)).setCell ⟨w.heap.size, 12, none⟩ (.int .i64 0)).setCell ⟨w.heap.size, 13, none⟩ (.int .i64 0)).setCell ⟨w.heap.size, 14, none⟩ (.int .i64 0)) := ⟨_, rfl⟩
    have HE0 := putF (b := w.heap.size) (Nat.le_refl _) kR3 D3 (.int .i64 0) (.int .i64 0) (.int .i64 0) (.int .i64 0) (.int .i64 0) (.int .i64 0) (.int .i64 0) (.string ⟨#[]⟩) (.string ⟨#[]⟩) (.int .i64 0) (.int .i64 0) (.int .i64 0) (.int .i64 0) (.int .i64 0) (.int .i64 0)
    rw [← hV] at HE0
    have HV : Hid (V = _) := hV
    have HE : Hid _ := HE0
    have HO : Hid (V.ownsRow w.heap.size 38 15 (.slice o3 l.length c3) l.length (l.flatMap mgC)) := owns_mono (ownsRow_upto own3' HE0.2.2 (Nat.lt_succ_self _)) (Nat.le_succ _)
    have p0 := at_cell kR3 0
    have f0 := at_open kR3 0
    have p1 := at_cell kR3 1
    have f1 := at_open kR3 1
    have p2 := at_cell kR3 2
    have f2 := at_open kR3 2
    have p3 := at_cell kR3 3
    have f3 := at_open kR3 3
    have p4 := at_cell kR3 4
    have f4 := at_open kR3 4
    have p5 := at_cell kR3 5
    have f5 := at_open kR3 5
    have p6 := at_cell kR3 6
    have f6 := at_open kR3 6
    have p7 := at_cell kR3 7
    have f7 := at_open kR3 7
    have p8 := at_cell kR3 8
    have f8 := at_open kR3 8
    have p9 := at_cell kR3 9
    have f9 := at_open kR3 9
    have p10 := at_cell kR3 10
    have f10 := at_open kR3 10
    have p11 := at_cell kR3 11
    have f11 := at_open kR3 11
    have p12 := at_cell kR3 12
    have f12 := at_open kR3 12
    have p13 := at_cell kR3 13
    have f13 := at_open kR3 13
    have p14 := at_cell kR3 14
    have f14 := at_open kR3 14
    clear own3 gr3 nil3 own3' kR3 D3 HE0 hV kR1 kR2 b2 own0 D2 HW2 HSRC
    go_wp2_with fail
    rw [← HV.out]
    exact bodyPost_ret (v := .tuple #[.slice o3 l.length c3, .agg #[.int .i64 0, .int .i64 0, .int .i64 0, .int .i64 0, .int .i64 0, .int .i64 0, .int .i64 0, .string ⟨#[]⟩, .string ⟨#[]⟩, .int .i64 0, .int .i64 0, .int .i64 0, .int .i64 0, .int .i64 0, .int .i64 0], .bool false]) (by simp [results, Try.results20, go_sem, at_cell HE.out.1]) rfl ⟨_, by rw [HP.out]; rfl, by rw [HP.out]; exact HO.out, HE.out.2.1⟩
  obtain ⟨kk, rfl⟩ := Int.eq_ofNat_of_zero_le ha
  have ha0 : ¬ (kk : Int) < 0 := by omega
  have hk : ¬ kk < l.length := fun hk => HN.out ⟨H1.out, ha, by simpa using hk⟩
  · have HP : Hid (taken l (kk : Int) = (l, Mg.zero, false)) := by rw [Hid, taken, if_pos H1.out, if_neg (fun h => hk (by simpa using h.2))]
    have ha' : (l.length : Int) ≤ (kk : Int) := by omega
    go_wp2_with (at_builtin; rw [← HW2.out]; refine wpList_append_reads rfl _ _ 24 rfl (w.heap.size + 1) 38 i0 (.agg #[.int .i64 0, .int .i64 0, .int .i64 0, .int .i64 0, .int .i64 0, .int .i64 0, .int .i64 0, .string ByteArray.empty, .string ByteArray.empty, .int .i64 0, .int .i64 0, .int .i64 0, .int .i64 0, .int .i64 0, .int .i64 0]) 15 136 Try.underlying24 hi hz0 hz1 hz2 rfl (by decide) (.slice (some ⟨w1.heap.size, 0, none⟩) 0 0) 0 [] rfl own0 o1 l.length c1 (l.flatMap mgC) rfl (flat_length mgC_len l) HSRC.out (msgs_one l) (by unfold maxLen; omega) (by omega) (by have := b2.size; omega) ?_)
    intro v3 w3 own3 gr3 nil3
    have own3' : w3.ownsRow (w.heap.size + 1) 38 15 v3 l.length (l.flatMap mgC) := by simpa using own3
    have kR3 := (gr3.block _ (heap_lt kR2) (fun e => by simp [Value.ownBlock] at e; omega)).trans kR2
    have D3 : Below w.heap.size w w3 := D2.grown gr3 D2.size hbl.out
    obtain ⟨o3, c3, rfl⟩ := own_slice own3'
    obtain ⟨V, hV⟩ : ∃ V, V = (((((((((((((((w3.setCell ⟨w.heap.size, 0, none⟩ (.int .i64 0)).setCell ⟨w.heap.size, 1, none⟩ (.int .i64 0)).setCell ⟨w.heap.size, 2, none⟩ (.int .i64 0)).setCell ⟨w.heap.size, 3, none⟩ (.int .i64 0)).setCell ⟨w.heap.size, 4, none⟩ (.int .i64 0)).setCell ⟨w.heap.size, 5, none⟩ (.int .i64 0)).setCell ⟨w.heap.size, 6, none⟩ (.int .i64 0)).setCell ⟨w.heap.size, 7, none⟩ (.string ⟨#[]⟩)).setCell ⟨w.heap.size, 8, none⟩ (.string ⟨#[]⟩)).setCell ⟨w.heap.size, 9, none⟩ (.int .i64 0)).setCell ⟨w.heap.size, 10, none⟩ (.int .i64 0)).setCell ⟨w.heap.size, 11, none⟩ (.int .i64 0)).setCell ⟨w.heap.size, 12, none⟩ (.int .i64 0)).setCell ⟨w.heap.size, 13, none⟩ (.int .i64 0)).setCell ⟨w.heap.size, 14, none⟩ (.int .i64 0)) := ⟨_, rfl⟩
    have HE0 := putF (b := w.heap.size) (Nat.le_refl _) kR3 D3 (.int .i64 0) (.int .i64 0) (.int .i64 0) (.int .i64 0) (.int .i64 0) (.int .i64 0) (.int .i64 0) (.string ⟨#[]⟩) (.string ⟨#[]⟩) (.int .i64 0) (.int .i64 0) (.int .i64 0) (.int .i64 0) (.int .i64 0) (.int .i64 0)
    rw [← hV] at HE0
    have HV : Hid (V = _) := hV
    have HE : Hid _ := HE0
    have HO : Hid (V.ownsRow w.heap.size 38 15 (.slice o3 l.length c3) l.length (l.flatMap mgC)) := owns_mono (ownsRow_upto own3' HE0.2.2 (Nat.lt_succ_self _)) (Nat.le_succ _)
    have p0 := at_cell kR3 0
    have f0 := at_open kR3 0
    have p1 := at_cell kR3 1
    have f1 := at_open kR3 1
    have p2 := at_cell kR3 2
    have f2 := at_open kR3 2
    have p3 := at_cell kR3 3
    have f3 := at_open kR3 3
    have p4 := at_cell kR3 4
    have f4 := at_open kR3 4
    have p5 := at_cell kR3 5
    have f5 := at_open kR3 5
    have p6 := at_cell kR3 6
    have f6 := at_open kR3 6
    have p7 := at_cell kR3 7
    have f7 := at_open kR3 7
    have p8 := at_cell kR3 8
    have f8 := at_open kR3 8
    have p9 := at_cell kR3 9
    have f9 := at_open kR3 9
    have p10 := at_cell kR3 10
    have f10 := at_open kR3 10
    have p11 := at_cell kR3 11
    have f11 := at_open kR3 11
    have p12 := at_cell kR3 12
    have f12 := at_open kR3 12
    have p13 := at_cell kR3 13
    have f13 := at_open kR3 13
    have p14 := at_cell kR3 14
    have f14 := at_open kR3 14
    clear own3 gr3 nil3 own3' kR3 D3 HE0 hV kR1 kR2 b2 own0 D2 HW2 HSRC
    go_wp2_with fail
    rw [← HV.out]
    exact bodyPost_ret (v := .tuple #[.slice o3 l.length c3, .agg #[.int .i64 0, .int .i64 0, .int .i64 0, .int .i64 0, .int .i64 0, .int .i64 0, .int .i64 0, .string ⟨#[]⟩, .string ⟨#[]⟩, .int .i64 0, .int .i64 0, .int .i64 0, .int .i64 0, .int .i64 0, .int .i64 0], .bool false]) (by simp [results, Try.results20, go_sem, at_cell HE.out.1]) rfl ⟨_, by rw [HP.out]; rfl, by rw [HP.out]; exact HO.out, HE.out.2.1⟩

set_option maxHeartbeats 6400000 in
theorem specTaken_yes (v1 : Value) (l : List Mg) (kk : Nat) (w : World) (hf : FitPost l) (h1 : postOk l = true) (hk : kk < l.length) (r : ReadsR 15 mgC w.heap.size w v1 l) :
    Calls Try.prog 20 #[v1, .int .i64 (kk : Int)] w fun e w' => ∃ v', e = .returned (.tuple #[v', .agg #[.int .i64 (taken l (kk : Int)).2.1.kd, .int .i64 (taken l (kk : Int)).2.1.ds, .int .i64 (taken l (kk : Int)).2.1.vw, .int .i64 (taken l (kk : Int)).2.1.e.sq, .int .i64 (taken l (kk : Int)).2.1.e.cl, .int .i64 (taken l (kk : Int)).2.1.e.tg, .int .i64 (taken l (kk : Int)).2.1.e.o.k, .string (taken l (kk : Int)).2.1.e.o.nm, .string (taken l (kk : Int)).2.1.e.o.ot, .int .i64 (taken l (kk : Int)).2.1.e.o.at_, .int .i64 (taken l (kk : Int)).2.1.e.o.va, .int .i64 (taken l (kk : Int)).2.1.e.o.ep, .int .i64 (taken l (kk : Int)).2.1.s, .int .i64 (taken l (kk : Int)).2.1.rc, .int .i64 (taken l (kk : Int)).2.1.rv], .bool (taken l (kk : Int)).2.2]) ∧ w'.ownsRow w.heap.size 38 15 v' (taken l (kk : Int)).1.length ((taken l (kk : Int)).1.flatMap mgC) ∧ Below w.heap.size w w' := by
  obtain ⟨i0, hi, hz0, hz1, hz2⟩ := info_parts Try.infoMsg
  obtain ⟨o1, c1, rfl⟩ := r.form
  obtain ⟨W0, hW0, kR, d0, z0⟩ := box1 w #[.int .i64 0, .int .i64 0, .int .i64 0, .int .i64 0, .int .i64 0, .int .i64 0, .int .i64 0, .string ⟨#[]⟩, .string ⟨#[]⟩, .int .i64 0, .int .i64 0, .int .i64 0, .int .i64 0, .int .i64 0, .int .i64 0] 38
  have HW0 : Hid (W0 = _) := hW0
  have r0 := (r.below d0).mono d0.size
  clear hW0
  go_enter Try.func20, Try.ntmps20
  go_upto_region 1 with fail
  rw [← HW0.out]
  clear HW0
  go_wp2_with fail
  refine (l15Ok_any _ l _ hf r0).mono ?_
  rintro e w1 ⟨rfl, b1⟩
  have kR1 := (b1.block _ (heap_lt kR)).trans kR
  have D1 := bw_call d0 b1
  have hs1 : w.heap.size + 1 ≤ w1.heap.size := by have := b1.size; omega
  have r1 := (r.below D1).mono D1.size
  obtain ⟨W2, hW2⟩ : ∃ W2, W2 = w1.alloc (.cells #[] 38) := ⟨_, rfl⟩
  have b2 : Below w1.heap.size w1 W2 := by rw [hW2]; exact bw_alloc (Below.refl _ _)
  have kR2 := (b2.block _ (heap_lt kR1)).trans kR1
  have D2 := bw_call D1 b2
  have own0 : W2.ownsRow (w.heap.size + 1) 38 15 (.slice (some ⟨w1.heap.size, 0, none⟩) 0 0) 0 [] := by rw [hW2]; exact owns_mono (own_nomsgs w1) hs1
  have HW2 : Hid (W2 = _) := hW2
  clear z0 d0 b1 kR r0
  rw [h1]
  have H1 : Hid (postOk l = true) := h1
  have hl60 : l.length ≤ 60 := by
    simp only [postOk, Bool.and_eq_true, decide_eq_true_eq] at h1
    exact h1.2
  clear hW2 h1
  have ha : (0 : Int) ≤ (kk : Int) := by omega
  have ha0 : ¬ (kk : Int) < 0 := by omega
  have hk' : ¬ (l.length : Int) ≤ (kk : Int) := by omega
  have hk2 : (kk : Int) < (l.length : Int) := by omega
  clear own0 HW2 kR2 D2 b2
  obtain ⟨o', cap', e1, -, hc, -⟩ := r
  obtain ⟨g, off, e2, hg, a0, a1, a2, a3, a4, a5, a6, a7, a8, a9, a10, a11, a12, a13, a14⟩ := mg_cells hc kk hk
  cases e1
  subst e2
  obtain ⟨x, hx⟩ : ∃ x, l[kk] = x := ⟨_, rfl⟩
  have HP : Hid (taken l (kk : Int) = (without15 l kk, x, true)) := by rw [Hid, taken, if_pos H1.out, if_pos ⟨ha, by simpa using hk⟩]; simp [hk, hx]
  rw [hx] at a0 a1 a2 a3 a4 a5 a6 a7 a8 a9 a10 a11 a12 a13 a14
  clear hx hc
  have HA : Hid (∀ W, Below w.heap.size w W → W.cell? ⟨g, off + kk * 15, none⟩ = some (.int .i64 x.kd) ∧ W.cell? ⟨g, off + kk * 15 + 1, none⟩ = some (.int .i64 x.ds) ∧ W.cell? ⟨g, off + kk * 15 + 2, none⟩ = some (.int .i64 x.vw) ∧ W.cell? ⟨g, off + kk * 15 + 3, none⟩ = some (.int .i64 x.e.sq) ∧ W.cell? ⟨g, off + kk * 15 + 4, none⟩ = some (.int .i64 x.e.cl) ∧ W.cell? ⟨g, off + kk * 15 + 5, none⟩ = some (.int .i64 x.e.tg) ∧ W.cell? ⟨g, off + kk * 15 + 6, none⟩ = some (.int .i64 x.e.o.k) ∧ W.cell? ⟨g, off + kk * 15 + 7, none⟩ = some (.string x.e.o.nm) ∧ W.cell? ⟨g, off + kk * 15 + 8, none⟩ = some (.string x.e.o.ot) ∧ W.cell? ⟨g, off + kk * 15 + 9, none⟩ = some (.int .i64 x.e.o.at_) ∧ W.cell? ⟨g, off + kk * 15 + 10, none⟩ = some (.int .i64 x.e.o.va) ∧ W.cell? ⟨g, off + kk * 15 + 11, none⟩ = some (.int .i64 x.e.o.ep) ∧ W.cell? ⟨g, off + kk * 15 + 12, none⟩ = some (.int .i64 x.s) ∧ W.cell? ⟨g, off + kk * 15 + 13, none⟩ = some (.int .i64 x.rc) ∧ W.cell? ⟨g, off + kk * 15 + 14, none⟩ = some (.int .i64 x.rv)) := fun W hW => ⟨(hW.cell (p := ⟨g, off + kk * 15, none⟩) hg).trans a0, (hW.cell (p := ⟨g, off + kk * 15 + 1, none⟩) hg).trans a1, (hW.cell (p := ⟨g, off + kk * 15 + 2, none⟩) hg).trans a2, (hW.cell (p := ⟨g, off + kk * 15 + 3, none⟩) hg).trans a3, (hW.cell (p := ⟨g, off + kk * 15 + 4, none⟩) hg).trans a4, (hW.cell (p := ⟨g, off + kk * 15 + 5, none⟩) hg).trans a5, (hW.cell (p := ⟨g, off + kk * 15 + 6, none⟩) hg).trans a6, (hW.cell (p := ⟨g, off + kk * 15 + 7, none⟩) hg).trans a7, (hW.cell (p := ⟨g, off + kk * 15 + 8, none⟩) hg).trans a8, (hW.cell (p := ⟨g, off + kk * 15 + 9, none⟩) hg).trans a9, (hW.cell (p := ⟨g, off + kk * 15 + 10, none⟩) hg).trans a10, (hW.cell (p := ⟨g, off + kk * 15 + 11, none⟩) hg).trans a11, (hW.cell (p := ⟨g, off + kk * 15 + 12, none⟩) hg).trans a12, (hW.cell (p := ⟨g, off + kk * 15 + 13, none⟩) hg).trans a13, (hW.cell (p := ⟨g, off + kk * 15 + 14, none⟩) hg).trans a14⟩
  have RD : ReadsR 15 mgC w1.drew.heap.size w1.drew (.slice (some ⟨g, off, none⟩) l.length c1) l := r1.below ((Below.refl _ _).drew)
  obtain ⟨t0, t1, t2, t3, t4, t5, t6, t7, t8, t9, t10, t11, t12, t13, t14⟩ := HA.out w1 D1
  have HKR : Hid _ := kR1
  have HD1 : Hid _ := D1
  clear a0 a1 a2 a3 a4 a5 a6 a7 a8 a9 a10 a11 a12 a13 a14 kR1 D1 r1
  go_wp2_with fail
  go_region_law (go_simp; go_at_call 56; refine (l15Without_any _ l kk _ hk hl60 RD).mono ?_; rintro e w5 ⟨v', rfl, own5, b5⟩; have kR5 := (b5.block _ (heap_lt HKR.out)).trans HKR.out; have D5 : Below w.heap.size w w5 := HD1.out.drew.trans (b5.mono HD1.out.size); obtain ⟨u0, u1, u2, u3, u4, u5, u6, u7, u8, u9, u10, u11, u12, u13, u14⟩ := HA.out w5 D5; have p0 := at_cell kR5 0; have f0 := at_open kR5 0; have p1 := at_cell kR5 1; have f1 := at_open kR5 1; have p2 := at_cell kR5 2; have f2 := at_open kR5 2; have p3 := at_cell kR5 3; have f3 := at_open kR5 3; have p4 := at_cell kR5 4; have f4 := at_open kR5 4; have p5 := at_cell kR5 5; have f5 := at_open kR5 5; have p6 := at_cell kR5 6; have f6 := at_open kR5 6; have p7 := at_cell kR5 7; have f7 := at_open kR5 7; have p8 := at_cell kR5 8; have f8 := at_open kR5 8; have p9 := at_cell kR5 9; have f9 := at_open kR5 9; have p10 := at_cell kR5 10; have f10 := at_open kR5 10; have p11 := at_cell kR5 11; have f11 := at_open kR5 11; have p12 := at_cell kR5 12; have f12 := at_open kR5 12; have p13 := at_cell kR5 13; have f13 := at_open kR5 13; have p14 := at_cell kR5 14; have f14 := at_open kR5 14)
  all_goals
    obtain ⟨V, hV⟩ : ∃ V, V = (((((((((((((((w5.setCell ⟨w.heap.size, 0, none⟩ (.int .i64 x.kd)).setCell ⟨w.heap.size, 1, none⟩ (.int .i64 x.ds)).setCell ⟨w.heap.size, 2, none⟩ (.int .i64 x.vw)).setCell ⟨w.heap.size, 3, none⟩ (.int .i64 x.e.sq)).setCell ⟨w.heap.size, 4, none⟩ (.int .i64 x.e.cl)).setCell ⟨w.heap.size, 5, none⟩ (.int .i64 x.e.tg)).setCell ⟨w.heap.size, 6, none⟩ (.int .i64 x.e.o.k)).setCell ⟨w.heap.size, 7, none⟩ (.string x.e.o.nm)).setCell ⟨w.heap.size, 8, none⟩ (.string x.e.o.ot)).setCell ⟨w.heap.size, 9, none⟩ (.int .i64 x.e.o.at_)).setCell ⟨w.heap.size, 10, none⟩ (.int .i64 x.e.o.va)).setCell ⟨w.heap.size, 11, none⟩ (.int .i64 x.e.o.ep)).setCell ⟨w.heap.size, 12, none⟩ (.int .i64 x.s)).setCell ⟨w.heap.size, 13, none⟩ (.int .i64 x.rc)).setCell ⟨w.heap.size, 14, none⟩ (.int .i64 x.rv)) := ⟨_, rfl⟩
    have HE0 := putF (b := w.heap.size) (Nat.le_refl _) kR5 D5 (.int .i64 x.kd) (.int .i64 x.ds) (.int .i64 x.vw) (.int .i64 x.e.sq) (.int .i64 x.e.cl) (.int .i64 x.e.tg) (.int .i64 x.e.o.k) (.string x.e.o.nm) (.string x.e.o.ot) (.int .i64 x.e.o.at_) (.int .i64 x.e.o.va) (.int .i64 x.e.o.ep) (.int .i64 x.s) (.int .i64 x.rc) (.int .i64 x.rv)
    rw [← hV] at HE0
    have HV : Hid (V = _) := hV
    have HE : Hid _ := HE0
    have HO : Hid (V.ownsRow w.heap.size 38 15 v' (without15 l kk).length ((without15 l kk).flatMap mgC)) := owns_mono (ownsRow_upto (owns_mono own5 (show w.heap.size + 1 ≤ w1.heap.size from hs1)) HE0.2.2 (Nat.lt_succ_self _)) (Nat.le_succ _)
    clear own5 kR5 b5 D5 HE0 hV
    go_wp2_with fail
    rw [← HV.out]
    exact bodyPost_ret (v := .tuple #[v', .agg #[.int .i64 x.kd, .int .i64 x.ds, .int .i64 x.vw, .int .i64 x.e.sq, .int .i64 x.e.cl, .int .i64 x.e.tg, .int .i64 x.e.o.k, .string x.e.o.nm, .string x.e.o.ot, .int .i64 x.e.o.at_, .int .i64 x.e.o.va, .int .i64 x.e.o.ep, .int .i64 x.s, .int .i64 x.rc, .int .i64 x.rv], .bool true]) (by simp [results, Try.results20, go_sem, at_cell HE.out.1]) rfl ⟨_, by rw [HP.out], by rw [HP.out]; exact HO.out, HE.out.2.1⟩

theorem specTaken_any (v1 : Value) (l : List Mg) (a : Int) (w : World) (hf : FitPost l) (r : ReadsR 15 mgC w.heap.size w v1 l) :
    Calls Try.prog 20 #[v1, .int .i64 a] w fun e w' => ∃ v', e = .returned (.tuple #[v', .agg #[.int .i64 (taken l a).2.1.kd, .int .i64 (taken l a).2.1.ds, .int .i64 (taken l a).2.1.vw, .int .i64 (taken l a).2.1.e.sq, .int .i64 (taken l a).2.1.e.cl, .int .i64 (taken l a).2.1.e.tg, .int .i64 (taken l a).2.1.e.o.k, .string (taken l a).2.1.e.o.nm, .string (taken l a).2.1.e.o.ot, .int .i64 (taken l a).2.1.e.o.at_, .int .i64 (taken l a).2.1.e.o.va, .int .i64 (taken l a).2.1.e.o.ep, .int .i64 (taken l a).2.1.s, .int .i64 (taken l a).2.1.rc, .int .i64 (taken l a).2.1.rv], .bool (taken l a).2.2]) ∧ w'.ownsRow w.heap.size 38 15 v' (taken l a).1.length ((taken l a).1.flatMap mgC) ∧ Below w.heap.size w w' := by
  by_cases hq : postOk l = true ∧ 0 ≤ a ∧ a.toNat < l.length
  · obtain ⟨kk, rfl⟩ := Int.eq_ofNat_of_zero_le hq.2.1
    exact specTaken_yes v1 l kk w hf hq.1 (by simpa using hq.2.2) r
  · exact specTaken_no v1 l a w hf hq r
end Go.Proofs.Ytghhphhnalfjaaa

namespace Go.Proofs.Ytghhphhnalfjaaa
set_option linter.unusedVariables false

set_option maxRecDepth 100000


theorem posted_len (l m : List Mg) : (posted l m).1.length ≤ 60 := by
  unfold posted
  split
  · rename_i h
    simp only [postOk, Bool.and_eq_true, decide_eq_true_eq] at h
    split
    · rename_i h2
      simp only [List.length_append]
      exact h2.2
    · exact h.2
  · simp

theorem twice_len (l : List Mg) (a : Int) : (twice l a).1.length ≤ 60 := by
  unfold twice
  split
  · rename_i h
    simp only [postOk, Bool.and_eq_true, decide_eq_true_eq] at h
    split
    · rename_i h2
      have h3 : (l[a.toNat]?).toList.length ≤ 1 := by cases l[a.toNat]? <;> simp
      simp only [List.length_append]
      omega
    · exact h.2
  · simp

theorem taken_len (l : List Mg) (a : Int) : (taken l a).1.length ≤ 60 := by
  unfold taken
  split
  · rename_i h
    simp only [postOk, Bool.and_eq_true, decide_eq_true_eq] at h
    split
    · simp only [without15, List.length_append, List.length_take, List.length_drop]
      omega
    · exact h.2
  · simp
end Go.Proofs.Ytghhphhnalfjaaa

namespace Go.Proofs.Ytghhphhnalfjaaa
set_option linter.unusedVariables false

set_option maxRecDepth 100000


theorem u64_in15 (n : Int) (h0 : 0 ≤ n) (h1 : n < 2 ^ 64) : IntKind.u64.wrap n = n := by
  simp [IntKind.wrap, IntKind.bits, IntKind.signed]
  omega

theorem u64_wf {c : Nat} (h : c < 2 ^ 64) : (Lit.int .u64 (c : Int)).wf = true := by
  simp [Lit.wf, IntKind.min, IntKind.max, IntKind.bits, IntKind.signed]
  omega

theorem or15 {c p : Nat} (h : c < 2 ^ 64) (hp : p < 64) : bits .or .u64 (c : Int) ((2 ^ p : Nat) : Int) = ((c ||| 2 ^ p : Nat) : Int) :=
  (bits_nat .u64 64 (by decide) u64_in15 c (2 ^ p) h (Nat.pow_lt_pow_right (by decide) hp)).2

theorem and15 {c p : Nat} (h : c < 2 ^ 64) (hp : p < 64) : bits .and .u64 (c : Int) ((2 ^ p : Nat) : Int) = ((c &&& 2 ^ p : Nat) : Int) :=
  (bits_nat .u64 64 (by decide) u64_in15 c (2 ^ p) h (Nat.pow_lt_pow_right (by decide) hp)).1

/-- All bits of c but the one at p. -/
def clr (c p : Nat) : Nat := (BitVec.ofNat 64 c &&& ~~~(BitVec.ofNat 64 (2 ^ p))).toNat

theorem clr_lt (c p : Nat) : clr c p < 2 ^ 64 := BitVec.isLt _

theorem andNot15 (c p : Nat) : bits .andNot .u64 (c : Int) ((2 ^ p : Nat) : Int) = ((clr c p : Nat) : Int) := by
  have e : bits .andNot .u64 (c : Int) ((2 ^ p : Nat) : Int) = IntKind.u64.wrap ((BitVec.ofInt 64 (c : Int) &&& ~~~(BitVec.ofInt 64 ((2 ^ p : Nat) : Int))).toNat : Nat) := rfl
  rw [e, BitVec.ofInt_natCast, BitVec.ofInt_natCast]
  exact u64_in15 _ (Int.natCast_nonneg _) (by exact_mod_cast clr_lt c p)

theorem clr_bit {c p : Nat} (h : c < 2 ^ 64) (hp : p < 64) (i : Nat) : (clr c p).testBit i = (c.testBit i && !decide (p = i)) := by
  unfold clr
  rw [← BitVec.getLsbD]
  by_cases hi : i < 64
  · rw [BitVec.getLsbD_and, BitVec.getLsbD_not, BitVec.getLsbD_ofNat, BitVec.getLsbD_ofNat, Nat.testBit_two_pow]
    simp [hi]
  · have h1 : c.testBit i = false := Nat.testBit_lt_two_pow (Nat.lt_of_lt_of_le h (Nat.pow_le_pow_right (by decide) (by omega)))
    rw [h1, Bool.false_and]
    exact BitVec.getLsbD_of_ge _ _ (by omega)

theorem and_bit {c p : Nat} : (c &&& 2 ^ p : Nat) ≠ 0 ↔ c.testBit p = true := by
  constructor
  · intro h
    refine Classical.byContradiction fun hb => h ?_
    rw [Bool.not_eq_true] at hb
    refine Nat.eq_of_testBit_eq fun i => ?_
    rw [Nat.testBit_and, Nat.testBit_two_pow, Nat.zero_testBit]
    by_cases e : p = i
    · subst e; rw [hb, Bool.false_and]
    · rw [decide_eq_false e, Bool.and_false]
  · intro h e
    have q : (c &&& 2 ^ p : Nat).testBit p = true := by rw [Nat.testBit_and, Nat.testBit_two_pow, h, decide_eq_true rfl]; rfl
    rw [e, Nat.zero_testBit] at q
    cases q

/-- Bit p of c is set just where m stands at the place p. -/
def MaskOf (c : Nat) (f : Nat → Option Mg) (m : Mg) : Prop := c < 2 ^ 64 ∧ ∀ p, c.testBit p = true ↔ (p < 60 ∧ f p = some m)

/-- A place is given another letter, or none. -/
def upd (f : Nat → Option Mg) (k : Nat) (o : Option Mg) : Nat → Option Mg := fun p => if p = k then o else f p

theorem upd_at (f : Nat → Option Mg) (k : Nat) (o : Option Mg) : upd f k o k = o := if_pos rfl

theorem upd_ne (f : Nat → Option Mg) {k p : Nat} (o : Option Mg) (h : p ≠ k) : upd f k o p = f p := if_neg h

theorem mask_none {f : Nat → Option Mg} {m : Mg} (h : ∀ p, p < 60 → f p ≠ some m) : MaskOf 0 f m := ⟨by decide, fun p => by
  rw [Nat.zero_testBit]
  exact ⟨fun h' => (by cases h'), fun ⟨h1, h2⟩ => absurd h2 (h p h1)⟩⟩

theorem mask_put {c k : Nat} {f : Nat → Option Mg} {m : Mg} (h : MaskOf c f m) (hk : k < 60) : MaskOf (c ||| 2 ^ k) (upd f k (some m)) m := by
  refine ⟨Nat.or_lt_two_pow h.1 (Nat.pow_lt_pow_right (by decide) (by omega)), fun p => ?_⟩
  rw [Nat.testBit_or, Bool.or_eq_true, h.2 p, Nat.testBit_two_pow, decide_eq_true_iff]
  by_cases e : p = k
  · subst e
    rw [upd_at]
    exact ⟨fun _ => ⟨hk, rfl⟩, fun _ => .inr rfl⟩
  · rw [upd_ne f _ e]
    exact ⟨fun q => q.elim id (fun q => absurd q.symm e), .inl⟩

theorem mask_same {c k : Nat} {f : Nat → Option Mg} {m : Mg} {o : Option Mg} (h : MaskOf c f m) (h1 : f k ≠ some m) (h2 : o ≠ some m) : MaskOf c (upd f k o) m := by
  refine ⟨h.1, fun p => ?_⟩
  rw [h.2 p]
  by_cases e : p = k
  · subst e
    rw [upd_at]
    exact ⟨fun q => absurd q.2 h1, fun q => absurd q.2 h2⟩
  · rw [upd_ne f _ e]

theorem mask_drop {c k : Nat} {f : Nat → Option Mg} {m : Mg} (h : MaskOf c f m) (hk : k < 60) : MaskOf (clr c k) (upd f k none) m := by
  refine ⟨clr_lt c k, fun p => ?_⟩
  rw [clr_bit h.1 (by omega), Bool.and_eq_true, h.2 p]
  by_cases e : p = k
  · subst e
    rw [upd_at]
    simp
  · rw [upd_ne f _ e]
    simp
    intro _ _
    exact fun q => e q.symm

/-- What a line has at a place: the zero letter where nothing stands. -/
def lineAt (f : Nat → Option Mg) : List Mg := (List.range 60).map fun p => (f p).getD Mg.zero

theorem lineAt_len (f : Nat → Option Mg) : (lineAt f).length = 60 := by simp [lineAt]

/-- The letters of a line: all but the zero letters. -/
def lettersIn (l : List Mg) : List Mg := l.filter fun m => !mgEq m Mg.zero

/-- The places of a list, one behind the other. -/
def placesOf (l : List Mg) : Nat → Option Mg := fun p => l[p]?

theorem msgOk_zero : msgOk Mg.zero = false := by decide

theorem ok_not_zero {m : Mg} (h : msgOk m = true) : mgEq m Mg.zero = false := by
  cases e : mgEq m Mg.zero
  · rfl
  · rw [(mgEq_iff _ _).1 e, msgOk_zero] at h
    cases h

theorem filter_all15 {l : List Mg} (h : ∀ m ∈ l, mgEq m Mg.zero = false) : lettersIn l = l := by
  unfold lettersIn
  rw [List.filter_eq_self]
  intro m hm
  rw [h m hm]
  rfl

theorem filter_zeros (n : Nat) : lettersIn (List.replicate n Mg.zero) = [] := by
  unfold lettersIn
  rw [List.filter_eq_nil_iff]
  intro m hm
  rw [(List.mem_replicate.1 hm).2, (mgEq_iff _ _).2 rfl]
  simp

theorem line_places {l : List Mg} (h : l.length ≤ 60) : lineAt (placesOf l) = l ++ List.replicate (60 - l.length) Mg.zero := by
  apply List.ext_getElem?
  intro i
  unfold lineAt placesOf
  rw [List.getElem?_map]
  by_cases hi : i < l.length
  · rw [List.getElem?_range (by omega), List.getElem?_append_left hi]
    simp [List.getElem?_eq_getElem hi]
  · rw [List.getElem?_append_right (by omega)]
    by_cases h60 : i < 60
    · rw [List.getElem?_range h60]
      simp [List.getElem?_eq_none (show l.length ≤ i by omega), List.getElem?_replicate]
      omega
    · rw [List.getElem?_eq_none (by simp; omega)]
      simp [List.getElem?_replicate]
      omega

theorem letters_places {l : List Mg} (h : l.length ≤ 60) (hok : allOk l = true) : lettersIn (lineAt (placesOf l)) = l := by
  rw [line_places h]
  unfold lettersIn
  rw [List.filter_append]
  have e1 := filter_all15 (l := l) (fun m hm => ok_not_zero (List.all_eq_true.1 hok m hm))
  have e2 := filter_zeros (60 - l.length)
  unfold lettersIn at e1 e2
  rw [e1, e2, List.append_nil]

theorem line_taken {l : List Mg} {k : Nat} (h : l.length ≤ 60) (hk : k < l.length) : lineAt (upd (placesOf l) k none) = l.take k ++ Mg.zero :: (l.drop (k + 1) ++ List.replicate (60 - l.length) Mg.zero) := by
  have e0 : lineAt (upd (placesOf l) k none) = (lineAt (placesOf l)).set k Mg.zero := by
    apply List.ext_getElem?
    intro i
    unfold lineAt
    rw [List.getElem?_set, List.getElem?_map, List.getElem?_map]
    by_cases e : k = i
    · subst e
      rw [if_pos rfl, List.getElem?_range (by omega)]
      simp [upd_at]
      omega
    · rw [if_neg e]
      by_cases h60 : i < 60
      · rw [List.getElem?_range h60]
        simp [upd_ne _ _ (Ne.symm e)]
      · rw [List.getElem?_eq_none (by simp; omega)]
        rfl
  rw [e0, line_places h, List.set_append_left _ _ hk, List.set_eq_take_append_cons_drop, if_pos hk, List.append_assoc, List.cons_append]

theorem letters_taken {l : List Mg} {k : Nat} (h : l.length ≤ 60) (hk : k < l.length) (hok : allOk l = true) : lettersIn (lineAt (upd (placesOf l) k none)) = without15 l k := by
  have hm := List.all_eq_true.1 hok
  rw [line_taken h hk]
  have e1 := filter_all15 (l := l.take k) (fun m q => ok_not_zero (hm m (List.mem_of_mem_take q)))
  have e2 := filter_all15 (l := l.drop (k + 1)) (fun m q => ok_not_zero (hm m (List.mem_of_mem_drop q)))
  have e3 := filter_zeros (60 - l.length)
  have e4 : (!mgEq Mg.zero Mg.zero) = false := by rw [(mgEq_iff _ _).2 rfl]; rfl
  unfold lettersIn without15 at *
  rw [List.filter_append, List.filter_cons, e4, List.filter_append, e1, e2, e3, List.append_nil]
  simp
end Go.Proofs.Ytghhphhnalfjaaa

namespace Go.Proofs.Ytghhphhnalfjaaa
open Go.RowKit

set_option linter.unusedVariables false

set_option maxRecDepth 100000


/-- A letter's value. -/
def mgV (m : Mg) : Value := .agg #[.int .i64 m.kd, .int .i64 m.ds, .int .i64 m.vw, .int .i64 m.e.sq, .int .i64 m.e.cl, .int .i64 m.e.tg, .int .i64 m.e.o.k, .string m.e.o.nm, .string m.e.o.ot, .int .i64 m.e.o.at_, .int .i64 m.e.o.va, .int .i64 m.e.o.ep, .int .i64 m.s, .int .i64 m.rc, .int .i64 m.rv]

theorem mgV_inj {m m' : Mg} (h : mgV m = mgV m') : m = m' := by
  obtain ⟨kd, ds, vw, ⟨sq, cl, tg, ⟨k, nm, ot, at_, va, ep⟩⟩, s, rc, rv⟩ := m
  obtain ⟨kd', ds', vw', ⟨sq', cl', tg', ⟨k', nm', ot', at_', va', ep'⟩⟩, s', rc', rv'⟩ := m'
  simp only [mgV, Value.agg.injEq, Array.mk.injEq, List.cons.injEq, Value.int.injEq, Value.string.injEq, true_and, and_true] at h
  obtain ⟨rfl, rfl, rfl, rfl, rfl, rfl, rfl, rfl, rfl, rfl, rfl, rfl, rfl, rfl, rfl⟩ := h
  rfl

theorem i64_wf15 {x : Int} (h : I64 x) : (Lit.int .i64 x).wf = true := by simpa [I64, Lit.wf, IntKind.min, IntKind.max, IntKind.signed, IntKind.bits] using h

theorem bagLaid : laidOutB Try.prog = true := by kernel_rfl

theorem bagWide : (match Try.prog.underlying 38 with | some (.array _ _) | some (.struct _) => true | _ => false) = true := by rw [Try.underlying38]

theorem bagLaw : WideMaps.KeyLaw Try.prog 38 := deep_law_laid bagLaid (m := 4) (by omega) (of_decide_eq_true (by kernel_rfl)) (by kernel_rfl) bagWide

theorem bagKeys : Maps.Keyed Try.prog 38 := Maps.Keyed.of_law bagLaw

theorem bagZero (w : World) : (zeroValue 107).run Try.prog w = .ok (.int .u64 0) w := by kernel_rfl

theorem kl_int (d : Nat) {x : Int} (h : I64 x) : Try.prog.keyLits (d + 1) 2 [.int .i64 x] = some [.int .i64 x] := by
  have hw := i64_wf15 h
  unfold Program.keyLits
  simp [Try.underlying2, hw]

theorem kl_str (d : Nat) {s : ByteArray} (h : s.size ≤ maxLen) : Try.prog.keyLits (d + 1) 9 [.string s] = some [.string s.data.toList] := by
  unfold Program.keyLits
  simp [Try.underlying9, h]

theorem cells_i64 : Try.prog.cellsOf 2 = 1 := by kernel_rfl

theorem cells_str : Try.prog.cellsOf 9 = 1 := by kernel_rfl

theorem cells_op : Try.prog.cellsOf 32 = 6 := by kernel_rfl

theorem cells_ent : Try.prog.cellsOf 34 = 9 := by kernel_rfl

theorem cells_rep : Try.prog.cellsOf 36 = 2 := by kernel_rfl

theorem cells_msg : Try.prog.cellsOf 38 = 15 := by kernel_rfl

theorem kl_op (d : Nat) {k at_ va ep : Int} {nm ot : ByteArray} (h1 : I64 k) (h2 : nm.size ≤ maxLen) (h3 : ot.size ≤ maxLen) (h4 : I64 at_) (h5 : I64 va) (h6 : I64 ep) :
    ∃ L, Try.prog.keyLits (d + 2) 32 [.int .i64 k, .string nm, .string ot, .int .i64 at_, .int .i64 va, .int .i64 ep] = some L := by
  unfold Program.keyLits
  simp only [Try.underlying32]
  rw [if_pos ⟨by rw [cells_op]; rfl, by kernel_rfl⟩]
  simp [List.mapM_cons, cells_i64, cells_str, kl_int d h1, kl_str d h2, kl_str d h3, kl_int d h4, kl_int d h5, kl_int d h6]

theorem kl_ent (d : Nat) {e : Ent} (h : FitEnt e) : ∃ L, Try.prog.keyLits (d + 3) 34 (entC e) = some L := by
  obtain ⟨⟨h2, h3⟩, g1, g2, g3, h1, h4, h5, h6⟩ := h
  obtain ⟨L, hL⟩ := kl_op d h1 h2 h3 h4 h5 h6
  unfold Program.keyLits
  simp only [Try.underlying34]
  rw [if_pos ⟨by rw [cells_ent]; rfl, by kernel_rfl⟩]
  simp [entC, List.mapM_cons, cells_i64, cells_op, kl_int (d + 1) g1, kl_int (d + 1) g2, kl_int (d + 1) g3, hL]

theorem kl_rep (d : Nat) {c v : Int} (h1 : I64 c) (h2 : I64 v) : ∃ L, Try.prog.keyLits (d + 2) 36 [.int .i64 c, .int .i64 v] = some L := by
  unfold Program.keyLits
  simp only [Try.underlying36]
  rw [if_pos ⟨by rw [cells_rep]; rfl, by kernel_rfl⟩]
  simp [List.mapM_cons, cells_i64, kl_int d h1, kl_int d h2]

theorem kl_msg (d : Nat) {m : Mg} (h : FitMsg m) : ∃ L, Try.prog.keyLits (d + 4) 38 (mgC m) = some L := by
  obtain ⟨he, h1, h2, h3, h4, h5, h6⟩ := h
  obtain ⟨Le, hLe⟩ := kl_ent d he
  obtain ⟨Lr, hLr⟩ := kl_rep (d + 1) h5 h6
  simp only [entC] at hLe
  unfold Program.keyLits
  simp only [Try.underlying38]
  rw [if_pos ⟨by rw [cells_msg]; rfl, by kernel_rfl⟩]
  simp [mgC, List.mapM_cons, cells_i64, cells_ent, cells_rep, kl_int (d + 2) h1, kl_int (d + 2) h2, kl_int (d + 2) h3, kl_int (d + 2) h4, hLe, hLr]

/-- A letter is a key. -/
theorem key_of {m : Mg} (h : FitMsg m) : ∃ kl, keyOf Try.prog 38 (mgV m) = some kl := by
  have hn : 4 ≤ Try.prog.types.size := of_decide_eq_true (by kernel_rfl)
  obtain ⟨L, hL⟩ := kl_msg (Try.prog.types.size - 3) h
  rw [show Try.prog.types.size - 3 + 4 = Try.prog.types.size + 1 by omega] at hL
  refine ⟨.string (keyBytes L), ?_⟩
  unfold keyOf
  simp only [Try.underlying38]
  rw [if_pos (by
    rw [show Try.prog.keyType 38 = true by kernel_rfl]
    simp [mgV, Value.formed, Try.underlying38, cells_msg])]
  have e : (mgV m).cells.toList = mgC m := rfl
  rw [e, hL]
  rfl

theorem key_same {m m' : Mg} {kl : Lit} (h : keyOf Try.prog 38 (mgV m) = some kl) (h' : keyOf Try.prog 38 (mgV m') = some kl) : m = m' := mgV_inj (bagKeys.inj h h')

/-- How a set of places reads. -/
noncomputable abbrev bagR : Value → Option (DataW Unit × List MemPlace) := plainElem (H := Unit) Try.prog 107

abbrev setD (c : Nat) : DataW Unit := .lit (.int .u64 (c : Int))

theorem setD_inj {c c' : Nat} (h : setD c = setD c') : c = c' := by
  simp only [setD, DataW.lit.injEq, Lit.int.injEq, true_and] at h
  omega

/-- The datum D says that at each place stands what f says. -/
structure BagD (D : DataW Unit) (f : Nat → Option Mg) : Prop where
  map : Maps.IsMap D
  known : ∀ kl, Maps.has D kl = true → ∃ m, FitMsg m ∧ keyOf Try.prog 38 (mgV m) = some kl
  at_ : ∀ m kl, keyOf Try.prog 38 (mgV m) = some kl → ∃ c : Nat, D.atKey kl (setD 0) = setD c ∧ MaskOf c f m
  all : ∀ p m kl, p < 60 → f p = some m → keyOf Try.prog 38 (mgV m) = some kl → Maps.has D kl = true

/-- No letter is there that stands nowhere. -/
def Tight (D : DataW Unit) (f : Nat → Option Mg) : Prop := ∀ m kl, keyOf Try.prog 38 (mgV m) = some kl → Maps.has D kl = true → ∃ p, p < 60 ∧ f p = some m

theorem bagD_none {f : Nat → Option Mg} (h : ∀ p, p < 60 → f p = none) : BagD (.map []) f :=
  ⟨⟨[], rfl⟩, (fun kl h => by cases h), (fun m kl hk => ⟨0, rfl, mask_none fun p hp => by rw [h p hp]; simp⟩), (fun p m kl hp hf => by rw [h p hp] at hf; cases hf)⟩

theorem tight_none {f : Nat → Option Mg} : Tight (.map []) f := fun m kl hk h => by cases h

theorem BagD.put {D : DataW Unit} {f : Nat → Option Mg} (h : BagD D f) {k : Nat} (hk : k < 60) {m : Mg} (hf : FitMsg m) (h0 : f k = none) {kl : Lit} (hkl : keyOf Try.prog 38 (mgV m) = some kl) {c : Nat} (hc : D.atKey kl (setD 0) = setD c) :
    BagD (D.put kl (setD (c ||| 2 ^ k))) (upd f k (some m)) := by
  have hK := bagKeys.key hkl
  refine ⟨h.map.put _ _, fun kl' hh => ?_, fun m' kl' hkl' => ?_, fun p m' kl' hp hp' hkl' => ?_⟩
  · by_cases e : kl' = kl
    · subst e; exact ⟨m, hf, hkl⟩
    · rw [Maps.has_put_other e] at hh
      exact h.known kl' hh
  · by_cases e : kl' = kl
    · subst e
      obtain rfl := key_same hkl hkl'
      obtain ⟨c', h1, h2⟩ := h.at_ m kl' hkl
      obtain rfl := setD_inj (h1.symm.trans hc)
      exact ⟨_, Maps.atKey_put_same h.map hK _ _, mask_put h2 hk⟩
    · obtain ⟨c', h1, h2⟩ := h.at_ m' kl' hkl'
      refine ⟨c', by rw [Maps.atKey_put_other e]; exact h1, mask_same h2 (by rw [h0]; simp) ?_⟩
      intro e2
      cases e2
      rw [hkl] at hkl'
      cases hkl'
      exact e rfl
  · by_cases e : kl' = kl
    · subst e; exact Maps.has_put_same h.map hK _
    · rw [Maps.has_put_other e]
      by_cases e2 : p = k
      · subst e2
        rw [upd_at] at hp'
        cases hp'
        rw [hkl] at hkl'
        cases hkl'
        exact absurd rfl e
      · rw [upd_ne f _ e2] at hp'
        exact h.all p m' kl' hp hp' hkl'

theorem Tight.put {D : DataW Unit} {f : Nat → Option Mg} (h : Tight D f) {k : Nat} (hk : k < 60) {m : Mg} (h0 : f k = none) {kl : Lit} (hkl : keyOf Try.prog 38 (mgV m) = some kl) (d : DataW Unit) : Tight (D.put kl d) (upd f k (some m)) := by
  intro m' kl' hkl' hh
  by_cases e : kl' = kl
  · subst e
    obtain rfl := key_same hkl hkl'
    exact ⟨k, hk, upd_at _ _ _⟩
  · rw [Maps.has_put_other e] at hh
    obtain ⟨p, hp, h1⟩ := h m' kl' hkl' hh
    refine ⟨p, hp, ?_⟩
    rw [upd_ne f _ (fun e2 => by subst e2; rw [h0] at h1; cases h1)]
    exact h1

theorem BagD.drop {D : DataW Unit} {f : Nat → Option Mg} (h : BagD D f) {k : Nat} (hk : k < 60) {m : Mg} (hf : FitMsg m) (h0 : f k = some m) {kl : Lit} (hkl : keyOf Try.prog 38 (mgV m) = some kl) {c : Nat} (hc : D.atKey kl (setD 0) = setD c) :
    BagD (D.put kl (setD (clr c k))) (upd f k none) := by
  have hK := bagKeys.key hkl
  refine ⟨h.map.put _ _, fun kl' hh => ?_, fun m' kl' hkl' => ?_, fun p m' kl' hp hp' hkl' => ?_⟩
  · by_cases e : kl' = kl
    · subst e; exact ⟨m, hf, hkl⟩
    · rw [Maps.has_put_other e] at hh
      exact h.known kl' hh
  · by_cases e : kl' = kl
    · subst e
      obtain rfl := key_same hkl hkl'
      obtain ⟨c', h1, h2⟩ := h.at_ m kl' hkl
      obtain rfl := setD_inj (h1.symm.trans hc)
      exact ⟨_, Maps.atKey_put_same h.map hK _ _, mask_drop h2 hk⟩
    · obtain ⟨c', h1, h2⟩ := h.at_ m' kl' hkl'
      refine ⟨c', by rw [Maps.atKey_put_other e]; exact h1, mask_same h2 ?_ (by simp)⟩
      rw [h0]
      intro e2
      cases e2
      rw [hkl] at hkl'
      cases hkl'
      exact e rfl
  · by_cases e : kl' = kl
    · subst e; exact Maps.has_put_same h.map hK _
    · rw [Maps.has_put_other e]
      by_cases e2 : p = k
      · subst e2
        rw [upd_at] at hp'
        cases hp'
      · rw [upd_ne f _ e2] at hp'
        exact h.all p m' kl' hp hp' hkl'

/-- Block b is such a bag, of n entries at most. -/
structure BagW (w : World) (b n : Nat) (f : Nat → Option Mg) : Prop where
  ex : ∃ D, w.ownsMap Try.prog 38 bagR b n D ∧ BagD D f

structure BagT (w : World) (b n : Nat) (f : Nat → Option Mg) : Prop where
  ex : ∃ D, w.ownsMap Try.prog 38 bagR b n D ∧ BagD D f ∧ Tight D f

theorem BagT.w {w : World} {b n : Nat} {f : Nat → Option Mg} (h : BagT w b n f) : BagW w b n f := by
  obtain ⟨D, h1, h2, -⟩ := h.ex
  exact ⟨D, h1, h2⟩

theorem BagW.lt {w : World} {b n : Nat} {f : Nat → Option Mg} (h : BagW w b n f) : b < w.heap.size := by
  obtain ⟨D, h1, -⟩ := h.ex
  exact h1.lt

theorem BagT.lt {w : World} {b n : Nat} {f : Nat → Option Mg} (h : BagT w b n f) : b < w.heap.size := h.w.lt

theorem BagW.mono {w : World} {b n n' : Nat} {f : Nat → Option Mg} (h : BagW w b n f) (k : n ≤ n') : BagW w b n' f := by
  obtain ⟨D, h1, h2⟩ := h.ex
  exact ⟨D, h1.mono k, h2⟩

theorem map_of_block {w w' : World} {b n : Nat} {D : DataW Unit} (h : w.ownsMap Try.prog 38 bagR b n D) (e : w'.heap[b]? = w.heap[b]?) : w'.ownsMap Try.prog 38 bagR b n D := by
  obtain ⟨es, clock, hb, r⟩ := h
  exact ⟨es, clock, e.trans hb, r⟩

theorem BagW.block {w w' : World} {b n : Nat} {f : Nat → Option Mg} (h : BagW w b n f) (e : w'.heap[b]? = w.heap[b]?) : BagW w' b n f := by
  obtain ⟨D, h1, h2⟩ := h.ex
  exact ⟨D, map_of_block h1 e, h2⟩

theorem BagT.block {w w' : World} {b n : Nat} {f : Nat → Option Mg} (h : BagT w b n f) (e : w'.heap[b]? = w.heap[b]?) : BagT w' b n f := by
  obtain ⟨D, h1, h2⟩ := h.ex
  exact ⟨D, map_of_block h1 e, h2⟩

theorem BagW.below {w w' : World} {b n : Nat} {f : Nat → Option Mg} (h : BagW w b n f) (k : Below w.heap.size w w') : BagW w' b n f := h.block (k.block _ h.lt)

theorem BagT.below {w w' : World} {b n : Nat} {f : Nat → Option Mg} (h : BagT w b n f) (k : Below w.heap.size w w') : BagT w' b n f := h.block (k.block _ h.lt)

theorem bag_made (w : World) {f : Nat → Option Mg} (h : ∀ p, p < 60 → f p = none) : BagT (w.alloc (.map #[] 0)) w.heap.size 0 f :=
  ⟨_, World.ownsMap_made w _ _ _, bagD_none h, tight_none⟩
end Go.Proofs.Ytghhphhnalfjaaa

namespace Go.Proofs.Ytghhphhnalfjaaa
open Go.RowKit

set_option linter.unusedVariables false

set_option maxRecDepth 100000


theorem filter_le' {p q : Nat → Bool} : ∀ (l : List Nat), (∀ x ∈ l, q x = true → p x = true) → (l.filter q).length ≤ (l.filter p).length
  | [], _ => Nat.le_refl _
  | x :: l, h => by
    have ih := filter_le' l (fun y hy => h y (List.mem_cons_of_mem _ hy))
    have hx := h x (List.mem_cons_self ..)
    rw [List.filter_cons, List.filter_cons]
    cases hq : q x
    · cases hp : p x
      · simpa using ih
      · simp only [Bool.false_eq_true, if_false, if_true, List.length_cons]; omega
    · rw [hx hq]
      simp only [if_true, List.length_cons]; omega

theorem filter_lt' {p q : Nat → Bool} {i : Nat} (hp : p i = true) (hq : q i = false) : ∀ (l : List Nat), (∀ x ∈ l, q x = true → p x = true) → i ∈ l → (l.filter q).length < (l.filter p).length
  | [], _, h => by simp at h
  | x :: l, hpq, h => by
    have hle := filter_le' l (fun y hy => hpq y (List.mem_cons_of_mem _ hy))
    rw [List.filter_cons, List.filter_cons]
    rcases List.mem_cons.1 h with rfl | h'
    · rw [hp, hq]
      simp only [Bool.false_eq_true, if_false, if_true, List.length_cons]; omega
    · have ih := filter_lt' hp hq l (fun y hy => hpq y (List.mem_cons_of_mem _ hy)) h'
      have hx := hpq x (List.mem_cons_self ..)
      cases hq2 : q x
      · cases hp2 : p x
        · simpa using ih
        · simp only [Bool.false_eq_true, if_false, if_true, List.length_cons]; omega
      · rw [hx hq2]
        simp only [if_true, List.length_cons]; omega

section
variable {P : Program} {ops : Array Oper} {Q : Exit → Act → World → Prop} {md : Region.Mode}
theorem ready_mem {L : Array Bool} {i : Nat} (h : i ∈ Region.ready md ops L) : i < ops.size ∧ L.getD i true = false ∧ ∃ o, ops[i]? = some o ∧ ∀ e ∈ o.after, Region.binds md e = true → L.getD e.on false = true := by
  simp only [Region.ready, List.mem_filter, List.mem_range, Bool.and_eq_true, Bool.not_eq_true'] at h
  obtain ⟨h1, h2, h3⟩ := h
  refine ⟨h1, h2, ops[i], Array.getElem?_eq_getElem h1, fun e he hb => ?_⟩
  rw [Array.getElem?_eq_getElem h1] at h3
  simp only [Option.map_some, Option.getD_some, Array.all_eq_true_iff_forall_mem] at h3
  have := h3 e he
  rw [hb] at this
  simpa using this

/-- Does operation i wait for operation k? -/
def depB (md : Region.Mode) (ops : Array Oper) (i k : Nat) : Bool := ((ops[i]?).map (fun o => o.after.any (fun e => e.on == k && Region.binds md e))).getD false

/-- What is done has done what it waits for. -/
def Down (md : Region.Mode) (ops : Array Oper) (L : Array Bool) : Prop := ∀ i k, L.getD i false = true → depB md ops i k = true → L.getD k false = true

theorem ready_dep {L : Array Bool} {i k : Nat} (h : i ∈ Region.ready md ops L) (hk : depB md ops i k = true) : L.getD k false = true := by
  obtain ⟨-, -, o, ho, hd⟩ := ready_mem h
  unfold depB at hk
  rw [ho] at hk
  simp only [Option.map_some, Option.getD_some, Array.any_eq_true'] at hk
  obtain ⟨e, he, hk⟩ := hk
  simp only [Bool.and_eq_true, beq_iff_eq] at hk
  rw [← hk.1]
  exact hd e he hk.2

theorem Down.step {L : Array Bool} {i : Nat} (h : Down md ops L) (hz : L.size = ops.size) (hi : i ∈ Region.ready md ops L) : Down md ops (L.setIfInBounds i true) := fun j k hj hk => by
  have up : ∀ k, L.getD k false = true → (L.setIfInBounds i true).getD k false = true := fun k hk => by
    by_cases e : i = k
    · subst e
      have := (ready_mem hi).1
      simp [Array.getD_eq_getD_getElem?, hz, this]
    · simpa [Array.getD_eq_getD_getElem?, e] using hk
  by_cases e : i = j
  · subst e
    exact up k (ready_dep hi hk)
  · exact up k (h j k (by simpa [Array.getD_eq_getD_getElem?, e] using hj) hk)

theorem not_done {L : Array Bool} {i : Nat} (hn : L.getD i true = false) : L.getD i false = false := by
  simp only [Array.getD_eq_getD_getElem?] at hn ⊢
  cases hL : L[i]? with
  | none => rw [hL] at hn; simp at hn
  | some b => rw [hL] at hn; simpa using hn

/-- Where each operation waits for earlier ones alone and nothing is ready, all is done. -/
def backB (md : Region.Mode) (ops : Array Oper) : Bool := (List.range ops.size).all (fun i => ((ops[i]?).map (fun o => o.after.toList.all (fun e => !Region.binds md e || decide (e.on < i)))).getD false)

theorem all_done {L : Array Bool} (hz : L.size = ops.size) (hr : Region.ready md ops L = []) (hb : backB md ops = true) : ∀ i, i < ops.size → L.getD i false = true := by
  intro i
  induction i using Nat.strongRecOn with
  | _ i ih =>
    intro hi
    refine Classical.byContradiction fun hc => ?_
    have hni : L.getD i true = false := by
      simp only [Array.getD_eq_getD_getElem?] at hc ⊢
      rw [Array.getElem?_eq_getElem (by omega)] at hc ⊢
      simpa using hc
    have hm : i ∈ Region.ready md ops L := by
      simp only [Region.ready, List.mem_filter, List.mem_range, Bool.and_eq_true, Bool.not_eq_true']
      refine ⟨hi, hni, ?_⟩
      rw [Array.getElem?_eq_getElem hi]
      simp only [Option.map_some, Option.getD_some, Array.all_eq_true_iff_forall_mem]
      intro e he
      unfold backB at hb
      rw [List.all_eq_true] at hb
      have h1 := hb i (List.mem_range.2 hi)
      rw [Array.getElem?_eq_getElem hi] at h1
      simp only [Option.map_some, Option.getD_some, List.all_eq_true] at h1
      have h2 := h1 e (by simpa using he)
      cases hbi : Region.binds md e
      · rfl
      · rw [hbi] at h2
        have h3 : e.on < i := by simpa using h2
        rw [ih e.on h3 (by omega)]
        rfl
    rw [hr] at hm
    simp at hm

theorem wpAny_inv {I : Array Bool → Act → World → Prop} (hs : ∀ L a x i, L.size = ops.size → Down md ops L → i ∈ Region.ready md ops L → I L a x → wpOp P ops Q i (I (L.setIfInBounds i true)) a x) (he : ∀ L a x, L.size = ops.size → Down md ops L → Region.ready md ops L = [] → I L a x → Q .normal a x) :
    ∀ (fuel : Nat) (L : Array Bool) (a : Act) (x : World), L.size = ops.size → Down md ops L → ((List.range ops.size).filter (fun i => !L.getD i true)).length ≤ fuel → I L a x → wpAny P md ops Q fuel L a x := by
  intro fuel
  induction fuel with
  | zero =>
    intro L a x hz hD hc h
    have hr : Region.ready md ops L = [] := by
      rw [List.eq_nil_iff_forall_not_mem]
      intro i hi
      obtain ⟨h1, h2, -⟩ := ready_mem hi
      have : i ∈ (List.range ops.size).filter (fun i => !L.getD i true) := by
        rw [List.mem_filter]
        exact ⟨List.mem_range.2 h1, by rw [h2]; rfl⟩
      rw [List.length_eq_zero_iff.1 (Nat.le_zero.1 hc)] at this
      simp at this
    exact ⟨hr, he L a x hz hD hr h⟩
  | succ fuel ih =>
    intro L a x hz hD hc h
    refine ⟨fun hr => he L a x hz hD hr h, fun i hi => wpOp_mono (fun a' x' h' => ih _ a' x' (by rw [Array.size_setIfInBounds]; exact hz) (hD.step hz hi) ?_ h') (hs L a x i hz hD hi h)⟩
    obtain ⟨h1, h2, -⟩ := ready_mem hi
    have hlt := filter_lt' (p := fun j => !L.getD j true) (q := fun j => !(L.setIfInBounds i true).getD j true) (i := i) (by simp only [h2]; rfl) (by simp only [Array.getD_eq_getD_getElem?, Array.getElem?_setIfInBounds_self, hz, h1]; simp) (List.range ops.size) (fun j _ hj => by
      by_cases e : i = j
      · subst e
        simp only [Array.getD_eq_getD_getElem?, Array.getElem?_setIfInBounds_self, hz, h1] at hj
        simp at hj
      · simp only [Array.getD_eq_getD_getElem?, Array.getElem?_setIfInBounds, e, if_false] at hj ⊢
        exact hj) (List.mem_range.2 h1)
    omega

theorem wp_region_inv {I : Array Bool → Act → World → Prop} {id : Nat} {a : Act} {w : World} (hm : P.follows .mixedOrders = true) (h0 : I (Array.replicate ops.size false) a w.drew)
    (hs : ∀ L a x i, L.size = ops.size → Down .any ops L → i ∈ Region.ready .any ops L → I L a x → wpOp P ops Q i (I (L.setIfInBounds i true)) a x) (he : ∀ L a x, L.size = ops.size → Down .any ops L → Region.ready .any ops L = [] → I L a x → Q .normal a x) : (Code.region id ops true).wp P Q a w :=
  wp_region_any hm (wpAny_inv hs he ops.size _ a _ (by simp) (fun i k hi => by rw [Array.getD_eq_getD_getElem?, Array.getElem?_replicate] at hi; split at hi <;> simp at hi) (by refine Nat.le_trans (List.length_filter_le ..) ?_; simp) h0)

end
end Go.Proofs.Ytghhphhnalfjaaa

