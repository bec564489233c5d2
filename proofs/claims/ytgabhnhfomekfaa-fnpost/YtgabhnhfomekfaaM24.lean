/-
  Contracts and plain laws, one chapter behind the other.
-/
import Derived.Test.YtgabhnhfomekfaaM23
namespace Go.Proofs.Ytgabhnhfomekfaa
open Go.RowKit

set_option linter.unusedVariables false

set_option maxRecDepth 100000


def twice (l : List Mg) (a : Int) : List Mg × Bool := if postOk l = true then (if 0 ≤ a ∧ a.toNat < l.length ∧ l.length ≠ 60 then (l ++ (l[a.toNat]?).toList, true) else (l, false)) else ([], false)

theorem new_msg (w : World) (m : Mg) (t : TypeId) : ∀ (j : Nat) (u : Value), (mgC m)[j]? = some u → (w.alloc (.cells #[.int .i64 m.kd, .int .i64 m.ds, .int .i64 m.vw, .int .i64 m.e.sq, .int .i64 m.e.cl, .int .i64 m.e.tg, .int .i64 m.e.o.k, .string m.e.o.nm, .string m.e.o.ot, .int .i64 m.e.o.at_, .int .i64 m.e.o.va, .int .i64 m.e.o.ep, .int .i64 m.s, .int .i64 m.rc, .int .i64 m.rv] t)).cell? ((⟨w.heap.size, 0, none⟩ : Addr).add j) = some u := by
  intro j u hj
  rw [addr_add]
  exact (World.cell?_alloc_mark w #[.int .i64 m.kd, .int .i64 m.ds, .int .i64 m.vw, .int .i64 m.e.sq, .int .i64 m.e.cl, .int .i64 m.e.tg, .int .i64 m.e.o.k, .string m.e.o.nm, .string m.e.o.ot, .int .i64 m.e.o.at_, .int .i64 m.e.o.va, .int .i64 m.e.o.ep, .int .i64 m.s, .int .i64 m.rc, .int .i64 m.rv] t (0, 0) j).trans (by simpa [mgC] using hj)

set_option maxHeartbeats 3200000 in
theorem specTwice_any (v1 : Value) (l : List Mg) (a : Int) (w : World) (hf1 : FitPost l) (r1 : ReadsR 15 mgC w.heap.size w v1 l) :
    Calls Try.prog 17 #[v1, .int .i64 a] w fun e w' => ∃ v', e = .returned (.tuple #[v', .bool (twice l a).2]) ∧ w'.ownsRow w.heap.size 38 15 v' (twice l a).1.length ((twice l a).1.flatMap mgC) ∧ Below w.heap.size w w' := by
  obtain ⟨i0, hi, hz0, hz1, hz2⟩ := info_parts Try.infoMsg
  obtain ⟨o1, c1, rfl⟩ := r1.form
  go_enter Try.func17, Try.ntmps17
  go_wp2_with fail
  refine (l15Ok_any _ l _ hf1 r1).mono ?_
  rintro e w1 ⟨rfl, b1⟩
  cases h1 : postOk l
  · have HP : Hid (twice l a = ([], false)) := by rw [Hid, twice, h1]; rfl
    have own1 := owns_mono (own_nomsgs w1) b1.size
    have bA : Below w.heap.size w (w1.alloc (.cells #[] 38)) := bw_alloc b1
    clear h1 r1 b1
    go_wp2_with fail
    exact bodyPost_ret (v := .tuple #[.slice (some ⟨w1.heap.size, 0, none⟩) 0 0, .bool false]) (by simp [results, Try.results17, go_sem]) rfl ⟨_, by rw [HP.out], by rw [HP.out]; exact own1, bA⟩
  have H1 : Hid (postOk l = true) := h1
  have hl60 : l.length ≤ 60 := by
    simp only [postOk, Bool.and_eq_true, decide_eq_true_eq] at h1
    exact h1.2
  obtain ⟨W2, hW2⟩ : ∃ W2, W2 = w1.alloc (.cells #[] 38) := ⟨_, rfl⟩
  have b2 : Below w1.heap.size w1 W2 := by rw [hW2]; exact bw_alloc (Below.refl _ _)
  have own0 : W2.ownsRow w.heap.size 38 15 (.slice (some ⟨w1.heap.size, 0, none⟩) 0 0) 0 [] := by rw [hW2]; exact owns_mono (own_nomsgs w1) b1.size
  have B2 := bw_call b1 b2
  have r12 := (r1.below B2).mono B2.size
  have HW2 : Hid (W2 = _) := hW2
  have HSRC : Hid _ := flat_src15 mgC_len (by decide) r12
  clear hW2 h1 b2 b1
  go_wp2_with (at_builtin; rw [← HW2.out]; refine wpList_append_reads rfl _ _ 24 rfl w.heap.size 38 i0 (.agg #[.int .i64 0, .int .i64 0, .int .i64 0, .int .i64 0, .int .i64 0, .int .i64 0, .int .i64 0, .string ByteArray.empty, .string ByteArray.empty, .int .i64 0, .int .i64 0, .int .i64 0, .int .i64 0, .int .i64 0, .int .i64 0]) 15 136 Try.underlying24 hi hz0 hz1 hz2 rfl (by decide) (.slice (some ⟨w1.heap.size, 0, none⟩) 0 0) 0 [] rfl own0 o1 l.length c1 (l.flatMap mgC) rfl (flat_length mgC_len l) HSRC.out (msgs_one l) (by unfold maxLen; omega) (by omega) B2.size ?_)
  intro v3 w3 own3 gr3 nil3
  have own3' : w3.ownsRow w.heap.size 38 15 v3 l.length (l.flatMap mgC) := by simpa using own3
  have hbl : ∀ k, (Value.slice (some ⟨w1.heap.size, 0, none⟩) 0 0).ownBlock = some k → w.heap.size ≤ k := fun k hk => (own0.lt k hk).1
  have B3 : Below w.heap.size w w3 := B2.grown gr3 B2.size hbl
  obtain ⟨o3, c3, rfl⟩ := own_slice own3'
  clear own3 gr3 nil3 hbl own0 HW2 HSRC r12 B2
  by_cases ha : 0 ≤ a
  case neg =>
    have HP : Hid (twice l a = (l, false)) := by rw [Hid, twice, if_pos H1.out, if_neg (fun h => ha h.1)]
    have ha' : a < 0 := by omega
    go_wp2_with fail
    exact bodyPost_ret (v := .tuple #[.slice o3 l.length c3, .bool false]) (by simp [results, Try.results17, go_sem]) rfl ⟨_, by rw [HP.out], by rw [HP.out]; exact own3', B3⟩
  obtain ⟨kk, rfl⟩ := Int.eq_ofNat_of_zero_le ha
  have ha0 : ¬ (kk : Int) < 0 := by omega
  by_cases hk : kk < l.length
  case neg =>
    have HP : Hid (twice l (kk : Int) = (l, false)) := by rw [Hid, twice, if_pos H1.out, if_neg (fun h => hk (by simpa using h.2.1))]
    have hk' : (l.length : Int) ≤ (kk : Int) := by omega
    go_wp2_with fail
    exact bodyPost_ret (v := .tuple #[.slice o3 l.length c3, .bool false]) (by simp [results, Try.results17, go_sem]) rfl ⟨_, by rw [HP.out], by rw [HP.out]; exact own3', B3⟩
  have hk' : ¬ (l.length : Int) ≤ (kk : Int) := by omega
  have hk2 : (kk : Int) < (l.length : Int) := by omega
  by_cases h60 : l.length = 60
  case pos =>
    have HP : Hid (twice l (kk : Int) = (l, false)) := by rw [Hid, twice, if_pos H1.out, if_neg (fun h => h.2.2 h60)]
    have h60' : (l.length : Int) = 60 := by omega
    clear h60
    go_wp2_with fail
    exact bodyPost_ret (v := .tuple #[.slice o3 l.length c3, .bool false]) (by simp [results, Try.results17, go_sem]) rfl ⟨_, by rw [HP.out], by rw [HP.out]; exact own3', B3⟩
  have h60' : ¬ (l.length : Int) = 60 := by omega
  have hm60 : l.length ≤ 59 := by omega
  have HP : Hid (twice l (kk : Int) = (l ++ [l[kk]], true)) := by rw [Hid, twice, if_pos H1.out, if_pos ⟨ha, by simpa using hk, h60⟩]; simp [hk]
  obtain ⟨o', cap', e1, -, hc, -⟩ := r1
  obtain ⟨g, off, e2, hg, a0, a1, a2, a3, a4, a5, a6, a7, a8, a9, a10, a11, a12, a13, a14⟩ := mg_cells hc kk hk
  cases e1
  subst e2
  obtain ⟨x, hx⟩ : ∃ x, l[kk] = x := ⟨_, rfl⟩
  rw [hx] at HP a0 a1 a2 a3 a4 a5 a6 a7 a8 a9 a10 a11 a12 a13 a14
  clear hx hc h60
  replace a0 := (B3.cell (p := ⟨g, off + kk * 15, none⟩) hg).trans a0
  replace a1 := (B3.cell (p := ⟨g, off + kk * 15 + 1, none⟩) hg).trans a1
  replace a2 := (B3.cell (p := ⟨g, off + kk * 15 + 2, none⟩) hg).trans a2
  replace a3 := (B3.cell (p := ⟨g, off + kk * 15 + 3, none⟩) hg).trans a3
  replace a4 := (B3.cell (p := ⟨g, off + kk * 15 + 4, none⟩) hg).trans a4
  replace a5 := (B3.cell (p := ⟨g, off + kk * 15 + 5, none⟩) hg).trans a5
  replace a6 := (B3.cell (p := ⟨g, off + kk * 15 + 6, none⟩) hg).trans a6
  replace a7 := (B3.cell (p := ⟨g, off + kk * 15 + 7, none⟩) hg).trans a7
  replace a8 := (B3.cell (p := ⟨g, off + kk * 15 + 8, none⟩) hg).trans a8
  replace a9 := (B3.cell (p := ⟨g, off + kk * 15 + 9, none⟩) hg).trans a9
  replace a10 := (B3.cell (p := ⟨g, off + kk * 15 + 10, none⟩) hg).trans a10
  replace a11 := (B3.cell (p := ⟨g, off + kk * 15 + 11, none⟩) hg).trans a11
  replace a12 := (B3.cell (p := ⟨g, off + kk * 15 + 12, none⟩) hg).trans a12
  replace a13 := (B3.cell (p := ⟨g, off + kk * 15 + 13, none⟩) hg).trans a13
  replace a14 := (B3.cell (p := ⟨g, off + kk * 15 + 14, none⟩) hg).trans a14
  have own4 := World.ownsRow.alloc own3' (.cells #[.int .i64 x.kd, .int .i64 x.ds, .int .i64 x.vw, .int .i64 x.e.sq, .int .i64 x.e.cl, .int .i64 x.e.tg, .int .i64 x.e.o.k, .string x.e.o.nm, .string x.e.o.ot, .int .i64 x.e.o.at_, .int .i64 x.e.o.va, .int .i64 x.e.o.ep, .int .i64 x.s, .int .i64 x.rc, .int .i64 x.rv] 38)
  have HO4 : Hid _ := own4
  have hbl : Hid (∀ k, (Value.slice o3 l.length c3).ownBlock = some k → w.heap.size ≤ k) := fun k hk => (own3'.lt k hk).1
  have hsz := B3.size
  clear own4
  go_wp2_with (at_builtin; refine wpList_append_own _ rfl _ _ 24 rfl w.heap.size 38 i0 (.agg #[.int .i64 0, .int .i64 0, .int .i64 0, .int .i64 0, .int .i64 0, .int .i64 0, .int .i64 0, .string ByteArray.empty, .string ByteArray.empty, .int .i64 0, .int .i64 0, .int .i64 0, .int .i64 0, .int .i64 0, .int .i64 0]) 15 136 Try.underlying24 hi hz0 hz1 hz2 rfl (by decide) _ _ _ rfl HO4.out ⟨w3.heap.size, 0, none⟩ 1 1 (mgC x) rfl rfl ?c1 ?c2 ?c3 ?c4 ?c5 ?_)
  case c1 => exact fun j u hj => hj
  case c2 =>
    intro u hu
    exact msgs_one [x] u (by simpa using hu)
  case c3 => unfold maxLen; omega
  case c4 => omega
  case c5 => first | omega | (simp; omega)
  intro v5 w5 own5 gr5 nil5
  have B5 : Below w.heap.size w w5 := (bw_alloc B3).grown gr5 (by first | omega | (simp; omega)) hbl.out
  have HF : Hid (w5.ownsRow w.heap.size 38 15 v5 (l ++ [x]).length ((l ++ [x]).flatMap mgC)) := by
    rw [Hid, List.length_append, List.flatMap_append]
    simpa using own5
  clear own5 gr5 nil5 own3' a0 a1 a2 a3 a4 a5 a6 a7 a8 a9 a10 a11 a12 a13 a14
  go_wp2_with fail
  exact bodyPost_ret (v := .tuple #[v5, .bool true]) (by simp [results, Try.results17, go_sem]) rfl ⟨v5, by rw [HP.out], by rw [HP.out]; exact HF.out, B5⟩
end Go.Proofs.Ytgabhnhfomekfaa

