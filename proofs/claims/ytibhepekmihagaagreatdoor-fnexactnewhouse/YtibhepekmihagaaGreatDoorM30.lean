/-
  Contracts and plain laws, one chapter behind the other.
-/
import Derived.Laws.CopyOwn
import Derived.Test.YtibhepekmihagaaGreatDoorM02
import Derived.Test.YtibhepekmihagaaGreatDoorM05
import Derived.Test.YtibhepekmihagaaGreatDoorM07
import Derived.Test.YtibhepekmihagaaGreatDoorM11
import Derived.Test.YtibhepekmihagaaGreatDoorM14
namespace Go.Proofs.YtibhepekmihagaaGreatDoor
open Nums

set_option linter.unusedVariables false

set_option maxRecDepth 100000


/-- What of a kind lies within which limits. -/
def lmAt (k : Int) : Int := if kAt k = true then 255 else 0

def lmLo (k : Int) : Int := if kSize k = true then 1 else 0

def lmHi (k : Int) : Int := if kSize k = true then 16 else if k = 2 then 999 else 0

def lmEp (k : Int) : Int := if kEpoch k = true then 1000 else 0

def otOk (ot : ByteArray) (h : Bool) : Bool := if h = true then nameB ot.data.toList else decide (ot.size = 0)

def opBy (o : Oq) : Bool :=
  inB o.k 1 9 && nameB o.nm.data.toList && otOk o.ot (kOther o.k) && inB o.at_ 0 (lmAt o.k) && inB o.va (lmLo o.k) (lmHi o.k) && inB o.ep 0 (lmEp o.k)

theorem inB_zero (x : Int) : inB x 0 0 = decide (x = 0) := by
  rw [Bool.eq_iff_iff, inB_iff, decide_eq_true_eq]; omega

theorem inB_or (b : Bool) (x hi : Int) (h : 0 ≤ hi) : ((b || decide (x = 0)) && inB x 0 hi) = inB x 0 (if b = true then hi else 0) := by
  cases b
  · rw [Bool.eq_iff_iff]
    simp only [Bool.false_or, Bool.and_eq_true, inB_iff, decide_eq_true_eq, Bool.false_eq_true, if_false]
    omega
  · simp

theorem ot_by (ot : ByteArray) (b : Bool) : ((b == decide (ot.size ≠ 0)) && (!b || nameB ot.data.toList)) = otOk ot b := by
  cases b
  · simp [otOk]
  · unfold otOk
    rw [if_pos rfl]
    cases h : nameB ot.data.toList
    · simp
    · have := nameB_size ot h
      have e : decide (ot.size ≠ 0) = true := by simp only [decide_eq_true_eq]; omega
      rw [e]
      rfl

theorem val_by (k va : Int) : valOk k va = inB va (lmLo k) (lmHi k) := by
  unfold valOk lmLo lmHi
  split
  · rfl
  · split
    · rfl
    · exact (inB_zero va).symm

theorem opOk_by (o : Oq) : opOk o = opBy o := by
  have h1 := ot_by o.ot (kOther o.k)
  have h2 := inB_or (kAt o.k) o.at_ 255 (by omega)
  have h3 := inB_or (kEpoch o.k) o.ep 1000 (by omega)
  have h4 := val_by o.k o.va
  have e : opOk o = (nameB o.nm.data.toList && inB o.k 1 9 && ((kOther o.k == decide (o.ot.size ≠ 0)) && (!kOther o.k || nameB o.ot.data.toList)) && ((kAt o.k || decide (o.at_ = 0)) && inB o.at_ 0 255) && ((kEpoch o.k || decide (o.ep = 0)) && inB o.ep 0 1000) && valOk o.k o.va) := by
    unfold opOk
    simp only [Bool.and_assoc]
  rw [e, h1, h2, h3, h4]
  unfold opBy lmAt lmEp
  generalize nameB o.nm.data.toList = a
  generalize inB o.k 1 9 = b
  generalize otOk o.ot (kOther o.k) = c
  generalize inB o.at_ 0 _ = d
  generalize inB o.ep 0 _ = e
  generalize inB o.va _ _ = f
  cases a <;> cases b <;> cases c <;> cases d <;> cases e <;> cases f <;> rfl
end Go.Proofs.YtibhepekmihagaaGreatDoor

namespace Go.Proofs.YtibhepekmihagaaGreatDoor
open Go.RowKit

set_option linter.unusedVariables false

set_option maxRecDepth 100000


theorem within_any (x lo hi : Int) (w : World) :
    Calls Tryz.prog 68 #[.int .i64 x, .int .i64 lo, .int .i64 hi] w fun e w' => e = .returned (.bool (inB x lo hi)) ∧ w' = w := by
  by_cases h : lo ≤ x
  · go_enter Tryz.func68, Tryz.ntmps68
    go_wp2
    go_ret
    exact ⟨ret_bool (by simp [inB, h]), rfl⟩
  · go_enter Tryz.func68, Tryz.ntmps68
    go_wp2
    go_ret
    exact ⟨ret_bool (by simp [inB]; omega), rfl⟩

theorem otherOk_any (ot : ByteArray) (b : Bool) (w : World) (ho : ot.size ≤ maxLen) :
    Calls Tryz.prog 219 #[.string ot, .bool b] w fun e w' => e = .returned (.bool (otOk ot b)) ∧ w' = w := by
  cases b
  · have HE : Hid (_ = _) := text_nil ot
    have HV : Hid (otOk ot false = decide (ot.size = 0)) := by simp [Hid, otOk]
    go_enter Tryz.func219, Tryz.ntmps219
    go_wp2_with fail
    go_ret
    exact ⟨ret_bool (by rw [HV.out, ← HE.out]; simp), rfl⟩
  · have HV : Hid (otOk ot true = Nums.nameB ot.data.toList) := by simp [Hid, otOk]
    go_enter Tryz.func219, Tryz.ntmps219
    go_wp2_with fail
    refine (implName_any ot _ ho).mono ?_
    rintro e w' ⟨rfl, rfl⟩
    go_wp2_with fail
    go_ret
    exact ⟨ret_bool HV.out.symm, rfl⟩

/-- What limitsOf answers. -/
def limV (k : Int) : Value := .tuple #[.agg #[.bool (kOther k), .int .i64 (lmAt k), .int .i64 (lmLo k), .int .i64 (lmHi k), .int .i64 (lmEp k)], .bool (inB k 1 9)]

theorem limits_in (k : Int) (w : World) (h : k = 1 ∨ k = 2 ∨ k = 3 ∨ k = 4 ∨ k = 5 ∨ k = 6 ∨ k = 7 ∨ k = 8 ∨ k = 9) :
    Calls Tryz.prog 218 #[.int .i64 k] w fun e w' => e = .returned (limV k) ∧ Below w.heap.size w w' := by
  rcases h with rfl | rfl | rfl | rfl | rfl | rfl | rfl | rfl | rfl
  all_goals
    go_enter Tryz.func218, Tryz.ntmps218
    go_wp2_with fail
    exact bodyPost_ret (v := limV _) (by simp [results, Tryz.results218, go_sem]; rfl) rfl ⟨rfl, by go_grown⟩

theorem limits_out (k : Int) (w : World) (h : ¬ (1 ≤ k ∧ k ≤ 9)) :
    Calls Tryz.prog 218 #[.int .i64 k] w fun e w' => e = .returned (limV k) ∧ Below w.heap.size w w' := by
  have n1 : ¬ k = 1 := by omega
  have n2 : ¬ k = 2 := by omega
  have n3 : ¬ k = 3 := by omega
  have n4 : ¬ k = 4 := by omega
  have n5 : ¬ k = 5 := by omega
  have n6 : ¬ k = 6 := by omega
  have n7 : ¬ k = 7 := by omega
  have n8 : ¬ k = 8 := by omega
  have n9 : ¬ k = 9 := by omega
  have HV : Hid (limV k = .tuple #[.agg #[.bool false, .int .i64 0, .int .i64 0, .int .i64 0, .int .i64 0], .bool false]) := by
    have e : inB k 1 9 = false := by rw [Bool.eq_false_iff, ne_eq, inB_iff]; exact h
    unfold limV
    rw [Hid, e]
    simp [lmAt, lmLo, lmHi, lmEp, kAt, kSize, kEpoch, kOther, *]
  go_enter Tryz.func218, Tryz.ntmps218
  go_wp2_with fail
  exact bodyPost_ret (v := .tuple #[.agg #[.bool false, .int .i64 0, .int .i64 0, .int .i64 0, .int .i64 0], .bool false]) (by simp [results, Tryz.results218, go_sem]) rfl ⟨by rw [HV.out], by go_grown⟩

theorem limits_any (k : Int) (w : World) :
    Calls Tryz.prog 218 #[.int .i64 k] w fun e w' => e = .returned (limV k) ∧ Below w.heap.size w w' := by
  by_cases h : 1 ≤ k ∧ k ≤ 9
  · exact limits_in k w (by omega)
  · exact limits_out k w h

set_option maxHeartbeats 1600000 in
theorem implOpOk_any (k : Int) (nm ot : ByteArray) (at_ va ep : Int) (w : World) (hn : nm.size ≤ maxLen) (ho : ot.size ≤ maxLen) (fk : I64 k) (fa : I64 at_) (fv : I64 va) (fe : I64 ep) :
    Calls Tryz.prog 187 #[.agg #[.int .i64 k, .string nm, .string ot, .int .i64 at_, .int .i64 va, .int .i64 ep]] w fun e w' => e = .returned (.bool (opOk ⟨k, nm, ot, at_, va, ep⟩)) ∧ Below w.heap.size w w' := by
  rw [opOk_by]
  obtain ⟨W0, hW0, k0, d0, z0⟩ := box1 w #[.int .i64 k, .string nm, .string ot, .int .i64 at_, .int .i64 va, .int .i64 ep] 89
  have HW0 : Hid (W0 = _) := hW0
  have s0 := heap_lt k0
  have p0 := at_cell k0 0
  clear hW0 z0
  go_enter Tryz.func187, Tryz.ntmps187
  go_wp2_with fail
  rw [← HW0.out]
  clear HW0 p0
  refine (limits_any k _).mono ?_
  unfold limV
  rintro e w1 ⟨rfl, b1⟩
  replace k0 := (b1.block _ s0).trans k0
  replace d0 := bw_call d0 b1
  have t0 := heap_lt k0
  have o1 := at_cell k0 1
  obtain ⟨W1, hW1, k1, d1, z1⟩ := box1 w1 #[.bool (kOther k), .int .i64 (lmAt k), .int .i64 (lmLo k), .int .i64 (lmHi k), .int .i64 (lmEp k)] 268
  have HW1 : Hid (W1 = _) := hW1
  replace k0 := (d1.block _ t0).trans k0
  replace d0 := bw_call d0 d1
  have p1 := at_cell k0 1
  have p2 := at_cell k0 2
  have p3 := at_cell k0 3
  have p4 := at_cell k0 4
  have p5 := at_cell k0 5
  have r0 := at_cell k1 0
  have r1 := at_cell k1 1
  have r2 := at_cell k1 2
  have r3 := at_cell k1 3
  have r4 := at_cell k1 4
  have HB : Hid (opBy ⟨k, nm, ot, at_, va, ep⟩ = (inB k 1 9 && Nums.nameB nm.data.toList && otOk ot (kOther k) && inB at_ 0 (lmAt k) && inB va (lmLo k) (lmHi k) && inB ep 0 (lmEp k))) := rfl
  clear b1 d1 z1 hW1 k0 k1 s0
  generalize kOther k = x0 at *
  generalize lmAt k = x1 at *
  generalize lmLo k = x2 at *
  generalize lmHi k = x3 at *
  generalize lmEp k = x4 at *
  generalize inB k 1 9 = c0 at *
  cases c0
  · go_wp2_with fail
    rw [← HW1.out]
    clear HW1
    go_ret
    exact ⟨ret_bool (by rw [HB.out]; rfl), d0⟩
  go_wp2_with fail
  rw [← HW1.out]
  clear HW1 o1 t0
  refine (implName_any nm _ hn).mono ?_
  rintro e w' ⟨rfl, rfl⟩
  generalize Nums.nameB nm.data.toList = c1 at *
  cases c1
  · go_wp2_with fail
    go_ret
    exact ⟨ret_bool (by rw [HB.out]; rfl), d0⟩
  go_wp2_with fail
  refine (otherOk_any ot x0 _ ho).mono ?_
  rintro e w' ⟨rfl, rfl⟩
  generalize otOk ot x0 = c2 at *
  cases c2
  · go_wp2_with fail
    go_ret
    exact ⟨ret_bool (by rw [HB.out]; rfl), d0⟩
  go_wp2_with fail
  refine (within_any at_ 0 x1 _).mono ?_
  rintro e w' ⟨rfl, rfl⟩
  generalize inB at_ 0 x1 = c3 at *
  cases c3
  · go_wp2_with fail
    go_ret
    exact ⟨ret_bool (by rw [HB.out]; rfl), d0⟩
  go_wp2_with fail
  refine (within_any va x2 x3 _).mono ?_
  rintro e w' ⟨rfl, rfl⟩
  generalize inB va x2 x3 = c4 at *
  cases c4
  · go_wp2_with fail
    go_ret
    exact ⟨ret_bool (by rw [HB.out]; rfl), d0⟩
  go_wp2_with fail
  refine (within_any ep 0 x4 _).mono ?_
  rintro e w' ⟨rfl, rfl⟩
  generalize inB ep 0 x4 = c5 at *
  go_wp2_with fail
  go_ret
  exact ⟨ret_bool (by rw [HB.out]; rfl), d0⟩

theorem implChanges_any (k : Int) (nm ot : ByteArray) (at_ va ep : Int) (w : World) (hn : nm.size ≤ maxLen) (ho : ot.size ≤ maxLen) (fk : I64 k) (fa : I64 at_) (fv : I64 va) (fe : I64 ep) :
    Calls Tryz.prog 171 #[.agg #[.int .i64 k, .string nm, .string ot, .int .i64 at_, .int .i64 va, .int .i64 ep]] w fun e w' => e = .returned (.bool (changes ⟨k, nm, ot, at_, va, ep⟩)) ∧ Below w.heap.size w w' := by
  obtain ⟨W0, hW0, k0, d0, z0⟩ := box1 w #[.int .i64 k, .string nm, .string ot, .int .i64 at_, .int .i64 va, .int .i64 ep] 89
  have HW0 : Hid (W0 = _) := hW0
  have s0 := heap_lt k0
  clear hW0 z0
  go_enter Tryz.func171, Tryz.ntmps171
  go_wp2_with fail
  rw [← HW0.out]
  clear HW0
  refine (implOpOk_any k nm ot at_ va ep _ hn ho fk fa fv fe).mono ?_
  rintro e w1 ⟨rfl, b1⟩
  replace k0 := (b1.block _ s0).trans k0
  replace d0 := bw_call d0 b1
  have p0 := at_cell k0 0
  clear b1 k0
  have HC : Hid (changes ⟨k, nm, ot, at_, va, ep⟩ = (opOk ⟨k, nm, ot, at_, va, ep⟩ && decide (k ≠ 9))) := rfl
  generalize opOk ⟨k, nm, ot, at_, va, ep⟩ = c at *
  cases c
  · go_wp2_with fail
    go_ret
    exact ⟨ret_bool (by rw [HC.out]; rfl), d0⟩
  · go_wp2_with fail
    go_ret
    exact ⟨ret_bool (by rw [HC.out]; simp; rfl), d0⟩
end Go.Proofs.YtibhepekmihagaaGreatDoor

namespace Go.Proofs.YtibhepekmihagaaGreatDoor
open Go.RowKit

set_option linter.unusedVariables false

set_option maxRecDepth 100000


theorem clientOk_any (x : Int) (w : World) : Calls Tryz.prog 169 #[.int .i64 x] w fun e w' => e = .returned (.bool (inB x 0 3)) ∧ w' = w := by
  go_enter Tryz.func169, Tryz.ntmps169
  go_wp2_with fail
  refine (within_any x 0 3 _).mono ?_
  rintro e w' ⟨rfl, rfl⟩
  go_wp2_with fail
  go_ret
  exact ⟨rfl, rfl⟩

theorem tagOk_any (x : Int) (w : World) : Calls Tryz.prog 170 #[.int .i64 x] w fun e w' => e = .returned (.bool (inB x 1 1000)) ∧ w' = w := by
  go_enter Tryz.func170, Tryz.ntmps170
  go_wp2_with fail
  refine (within_any x 1 1000 _).mono ?_
  rintro e w' ⟨rfl, rfl⟩
  go_wp2_with fail
  go_ret
  exact ⟨rfl, rfl⟩
end Go.Proofs.YtibhepekmihagaaGreatDoor

namespace Go.Proofs.YtibhepekmihagaaGreatDoor
open Go.RowKit

set_option linter.unusedVariables false

set_option maxRecDepth 100000


theorem run_copy_all {P : Program} (w : World) (T ty e : TypeId) (hu : P.underlying T = some (.slice e)) (hsz : (P.info? e).map (·.size) = some 1)
    (base g n cap : Nat) (ys news : List Value) (hown : w.ownsRow base e 1 (.slice (some ⟨g, 0, none⟩) n cap) n ys)
    (ad : Option Addr) (c : Nat) (hl : news.length = n) (hnews : ∀ j u, news[j]? = some u → ∃ g off, ad = some ⟨g, off, none⟩ ∧ w.cell? ⟨g, off + j, none⟩ = some u) (h1 : ∀ u ∈ news, u.oneCell' = true) :
    ∃ w', (Builtin.copy_ #[T, T] ty #[.slice (some ⟨g, 0, none⟩) n cap, .slice ad n c]).run P w = .ok (.int .i64 n) w' ∧ w'.ownsRow base e 1 (.slice (some ⟨g, 0, none⟩) n cap) n news ∧ Upto g w w' := by
  rcases Nat.eq_zero_or_pos n with hn | hn
  · subst hn
    have e1 : news = [] := List.length_eq_zero_iff.1 hl
    have e2 : ys = [] := List.length_eq_zero_iff.1 (by simpa using hown.1)
    subst e1
    subst e2
    exact ⟨w, run_copy_none (P := P) w T T ty e _ _ 0 cap 0 c hu hsz rfl, hown, Upto.refl _ _⟩
  · obtain ⟨g', off, rfl, _⟩ := hnews 0 _ (List.getElem?_eq_getElem (show 0 < news.length by omega))
    have hsrc : ∀ j v, news[j]? = some v → w.cell? ((⟨g', off, none⟩ : Addr).add j) = some v := fun j u hj => by
      obtain ⟨g2, off2, e2, hc⟩ := hnews j u hj
      cases e2
      have ea : (⟨g', off, none⟩ : Addr).add j = ⟨g', off + j, none⟩ := by unfold Addr.add; split <;> simp_all
      rw [ea]; exact hc
    rcases hown.2 with ⟨h', _⟩ | ⟨g2, cap2, cur, h', hbg, hg, hnc, hcm, hcs, htake⟩
    · cases h'
    · simp only [Value.slice.injEq, Option.some.injEq, Addr.mk.injEq, and_true, true_and] at h'
      obtain ⟨rfl, rfl⟩ := h'
      have hr := run_copy_row (P := P) w T T ty e g 0 n cap ⟨g', off, none⟩ n c cur e news hu hsz hg (by rw [hl]; exact (Nat.min_self n).symm) hsrc (by omega) h1
      rw [hl] at hr
      refine ⟨_, hr, ⟨by omega, .inr ⟨g, cap, _, rfl, hbg, setRow_heap w g cur _ e _ hg, hnc, hcm, ?_, ?_⟩⟩, ⟨rfl, rfl, rfl, by simp, fun k _ hk => setRow_other w g k _ hk⟩⟩
      · simp; omega
      · rw [Nat.mul_one, List.take_zero, List.nil_append, ← hl]
        exact List.take_left
end Go.Proofs.YtibhepekmihagaaGreatDoor

namespace Go.Proofs.YtibhepekmihagaaGreatDoor
open Go.RowKit

set_option linter.unusedVariables false

set_option maxRecDepth 100000


theorem pageCountOk_any (n : Int) (w : World) :
    Calls Tryz.prog 67 #[.int .i64 n] w fun e w' => e = .returned (.bool (decide (1 ≤ n) && decide (n ≤ 24))) ∧ w' = w := by
  by_cases h : (1 : Int) ≤ n
  · go_enter Tryz.func67, Tryz.ntmps67
    go_wp2
    go_ret
    exact ⟨ret_bool (by simp [h]), rfl⟩
  · go_enter Tryz.func67, Tryz.ntmps67
    go_wp2
    go_ret
    exact ⟨ret_bool (by simp; omega), rfl⟩

set_option maxHeartbeats 800000 in
theorem implNewPool_any (n : Int) (w : World) :
    Calls Tryz.prog 119 #[.int .i64 n] w fun e w' => ∃ u1 u2 : Value, e = .returned (.tuple #[.agg #[u1, u2], .bool (newPool n).2]) ∧ OwnP w.heap.size w' u1 u2 (newPool n).1.1 (newPool n).1.2 ∧ Below w.heap.size w w' := by
  obtain ⟨W0, hW0, k0, d0, z0⟩ := pool_box w (.slice none 0 0) (.slice none 0 0) 25
  have HW0 : Hid (W0 = _) := hW0
  have p0 := at_cell k0 0
  have p1 := at_cell k0 1
  have f0 := at_open k0 0
  have f1 := at_open k0 1
  clear hW0
  cases hn : (decide ((1 : Int) ≤ n) && decide (n ≤ 24))
  · have hv : newPool n = (([], []), false) := by
      unfold newPool
      rw [if_neg]
      rintro ⟨h1, h2⟩
      simp [h1, h2] at hn
    rw [hv]
    have HS : Hid _ := pool_end w W0 (.slice none 0 0) (.slice none 0 0) _ _ w.heap.size [] [] (Nat.le_refl _) k0 (OwnP.nil _ _) d0
    clear hv k0
    go_enter Tryz.func119, Tryz.ntmps119
    go_wp2_with fail
    rw [← HW0.out]
    refine (pageCountOk_any _ _).mono ?_
    rintro e w' ⟨rfl, rfl⟩
    rw [hn]
    go_wp2_with fail
    exact bodyPost_ret (v := .tuple #[.agg #[.slice none 0 0, .slice none 0 0], .bool false]) (by simp [results, Tryz.results119, go_sem, at_cell HS.out.1]) rfl ⟨_, _, rfl, HS.out.2⟩
  · have hb : 1 ≤ n ∧ n ≤ 24 := by simpa using hn
    obtain ⟨m, rfl⟩ := Int.eq_ofNat_of_zero_le (show 0 ≤ n by omega)
    have hv : newPool (m : Int) = ((List.replicate m 0, List.replicate m 0), true) := by
      unfold newPool
      rw [if_pos hb, Int.toNat_natCast]
    rw [hv]
    obtain ⟨M, hM, hmk, hown⟩ := made_ints m (by omega)
    clear hv
    go_enter Tryz.func119, Tryz.ntmps119
    go_wp2_with fail
    rw [← HW0.out]
    refine (pageCountOk_any _ _).mono ?_
    rintro e w' ⟨rfl, rfl⟩
    rw [hn]
    go_wp2_with fail
    go_region
    · have HS : Hid _ := new_end k0 d0 z0 hown (w.heap.size + 1) (w.heap.size + 1 + 1) (.inl ⟨rfl, rfl⟩)
      clear k0 d0 hown hmk HW0
      go_wp2_with fail
      exact bodyPost_ret (v := .tuple #[.agg #[.slice (some ⟨w.heap.size + 1, 0, none⟩) m m, .slice (some ⟨w.heap.size + 1 + 1, 0, none⟩) m m], .bool true]) (by simp [results, Tryz.results119, go_sem, at_cell HS.out.1]) rfl ⟨_, _, rfl, HS.out.2⟩
    · have HS : Hid _ := new_end k0 d0 z0 hown (w.heap.size + 1 + 1) (w.heap.size + 1) (.inr ⟨rfl, rfl⟩)
      clear k0 d0 hown hmk HW0
      go_wp2_with fail
      exact bodyPost_ret (v := .tuple #[.agg #[.slice (some ⟨w.heap.size + 1 + 1, 0, none⟩) m m, .slice (some ⟨w.heap.size + 1, 0, none⟩) m m], .bool true]) (by simp [results, Tryz.results119, go_sem, at_cell HS.out.1]) rfl ⟨_, _, rfl, HS.out.2⟩

set_option maxHeartbeats 800000 in
theorem sameNumbers_any (v : Value) (xs : List Int) (w : World) (hn : xs.length ≤ 1048576) (h : Reads w.heap.size w v (xs.map (Value.int .i64))) :
    Calls Tryz.prog 151 #[v] w fun e w' => ∃ v' : Value, e = .returned v' ∧ w'.ownsRow w.heap.size 2 1 v' xs.length (xs.map (Value.int .i64)) ∧ v' ≠ .slice none 0 0 ∧ Below w.heap.size w w' := by
  obtain ⟨i0, hi, hz0, hz1, hz2⟩ := info_parts Tryz.infoI64
  obtain ⟨o, cap, rfl, hm, hc, hroom⟩ := h
  have hl : (xs.map (Value.int .i64)).length = xs.length := by simp
  rw [hl] at hm ⊢
  obtain ⟨M, hM, hmk, hown⟩ := made_ints xs.length hn
  have own0 := hown w w.heap.size (Nat.le_refl _)
  have d0 : Below w.heap.size w (w.alloc (.cells M 2)) := bw_alloc (Below.refl _ _)
  have HC : Hid (∀ j u, (xs.map (Value.int .i64))[j]? = some u → ∃ g off, o = some ⟨g, off, none⟩ ∧ (w.alloc (.cells M 2)).cell? ⟨g, off + j, none⟩ = some u) := fun j u hj => by
    obtain ⟨g, off, e, hg, hx⟩ := hc j u hj
    exact ⟨g, off, e, (d0.cell (p := ⟨g, off + j, none⟩) hg).trans hx⟩
  obtain ⟨w', hrun, hown2, hu⟩ := run_copy_all (P := Tryz.prog) (w.alloc (.cells M 2)) 23 3 2 Tryz.underlying23 (by rw [hi]; simp [hz1]) w.heap.size w.heap.size xs.length xs.length _ (xs.map (Value.int .i64)) own0 o cap hl HC.out (fun u hu => by simp at hu; obtain ⟨a, _, rfl⟩ := hu; rfl)
  have hb : Below w.heap.size w w' := d0.trans (hu.toBelow (by simp) (Nat.le_refl _))
  have HO : Hid _ := hown2
  clear own0 d0 HC hu hc hl hown hM hown2
  have hm8 : xs.length ≤ 9223372036854775807 := by omega
  go_enter Tryz.func151, Tryz.ntmps151
  go_wp2_with fail
  go_ret
  exact ⟨_, rfl, HO.out, by simp, hb⟩
end Go.Proofs.YtibhepekmihagaaGreatDoor

