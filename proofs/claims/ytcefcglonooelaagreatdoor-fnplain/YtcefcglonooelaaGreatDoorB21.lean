/-
  Contracts and plain laws, one chapter behind the other.
-/
import Derived.Laws.CopyOwn
import Derived.Handy
import Derived.Laws.IdiomStrings
import Derived.Lib.Strings
import Derived.Shelf.LaysM
import Derived.Shelf.Strconv.Clone
import Derived.Test.YtcefcglonooelaaGreatDoorB01
import Derived.Test.YtcefcglonooelaaGreatDoorB02
import Derived.Test.YtcefcglonooelaaGreatDoorB03
import Derived.Test.YtcefcglonooelaaGreatDoorB06
import Derived.Test.YtcefcglonooelaaGreatDoorB08
import Derived.Test.YtcefcglonooelaaGreatDoorB09
import Derived.Test.YtcefcglonooelaaGreatDoorB12
namespace Go.Proofs.YtcefcglonooelaaGreatDoor
open Go.RowKit

set_option linter.unusedVariables false

set_option maxRecDepth 100000


/-- A pool that is read: its rows. -/
structure RP (B : Nat) (w : World) (v1 v2 : Value) (cs ps : List Int) : Prop where
  c : Reads B w v1 (cs.map (Value.int .i64))
  p : Reads B w v2 (ps.map (Value.int .i64))

theorem RP.below {B : Nat} {w w' : World} {v1 v2 : Value} {cs ps : List Int} (h : RP B w v1 v2 cs ps) (k : Below B w w') : RP B w' v1 v2 cs ps := ⟨h.c.below k, h.p.below k⟩

theorem RP.mono {B B' : Nat} {w : World} {v1 v2 : Value} {cs ps : List Int} (h : RP B w v1 v2 cs ps) (k : B ≤ B') : RP B' w v1 v2 cs ps := ⟨h.c.mono k, h.p.mono k⟩

theorem RP.of {B : Nat} {W : World} {v1 v2 : Value} {cs ps : List Int} (h : RP B W v1 v2 cs ps) (y : B ≤ W.heap.size) (p : BelowOf W) : RP p.w'.heap.size p.w' v1 v2 cs ps := ((h.mono y).below p.h).mono p.h.size

theorem RP.forms {B : Nat} {w : World} {v1 v2 : Value} {cs ps : List Int} (h : RP B w v1 v2 cs ps) : ∃ o1 k1 o2 k2, v1 = .slice o1 cs.length k1 ∧ v2 = .slice o2 ps.length k2 := by
  obtain ⟨⟨o, k, e, -⟩, ⟨o', k', e', -⟩⟩ := h
  exact ⟨o, k, o', k', by rw [e, List.length_map], by rw [e', List.length_map]⟩

theorem OwnP.reads {base : Nat} {w : World} {v1 v2 : Value} {cs ps : List Int} (h : OwnP base w v1 v2 cs ps) : RP w.heap.size w v1 v2 cs ps := ⟨h.r1, h.r2⟩

theorem OwnP.forms {base : Nat} {w : World} {v1 v2 : Value} {cs ps : List Int} (h : OwnP base w v1 v2 cs ps) : ∃ o1 c1 o2 c2, v1 = .slice o1 cs.length c1 ∧ v2 = .slice o2 ps.length c2 := by
  obtain ⟨o1, c1, h1⟩ := own_slice h.c
  obtain ⟨o2, c2, h2⟩ := own_slice h.p
  exact ⟨o1, c1, o2, c2, h1, h2⟩
end Go.Proofs.YtcefcglonooelaaGreatDoor

namespace Go.Proofs.YtcefcglonooelaaGreatDoor
open Go.RowKit

set_option linter.unusedVariables false

set_option maxRecDepth 100000


/-- A shelf that is read. -/
structure RS (B : Nat) (w : World) (v1 v2 vb : Value) (cs ps : List Int) (bks : List Bk) : Prop where
  p : RP B w v1 v2 cs ps
  b : ReadsB B w vb bks

theorem RS.below {B : Nat} {w w' : World} {v1 v2 vb : Value} {cs ps : List Int} {bks : List Bk} (h : RS B w v1 v2 vb cs ps bks) (k : Below B w w') : RS B w' v1 v2 vb cs ps bks := ⟨h.p.below k, h.b.below k⟩

theorem RS.mono {B B' : Nat} {w : World} {v1 v2 vb : Value} {cs ps : List Int} {bks : List Bk} (h : RS B w v1 v2 vb cs ps bks) (k : B ≤ B') : RS B' w v1 v2 vb cs ps bks := ⟨h.p.mono k, h.b.mono k⟩

theorem RS.forms {B : Nat} {w : World} {v1 v2 vb : Value} {cs ps : List Int} {bks : List Bk} (h : RS B w v1 v2 vb cs ps bks) : ∃ o1 k1 o2 k2 ob kb, v1 = .slice o1 cs.length k1 ∧ v2 = .slice o2 ps.length k2 ∧ vb = .slice ob bks.length kb := by
  obtain ⟨o1, k1, o2, k2, e1, e2⟩ := h.p.forms
  obtain ⟨ob, kb, e3, -⟩ := h.b.row
  exact ⟨o1, k1, o2, k2, ob, kb, e1, e2, e3⟩

/-- A shelf of one's own. -/
structure OwnS (base : Nat) (w : World) (v1 v2 vb : Value) (cs ps : List Int) (bks : List Bk) : Prop where
  p : OwnP base w v1 v2 cs ps
  b : OwnB base w vb bks
  a : ApartM bks

theorem OwnS.below {base : Nat} {w w' : World} {v1 v2 vb : Value} {cs ps : List Int} {bks : List Bk} (h : OwnS base w v1 v2 vb cs ps bks) (k : Below w.heap.size w w') : OwnS base w' v1 v2 vb cs ps bks := ⟨h.p.below k, h.b.below k, h.a⟩

theorem OwnS.mono {base base' : Nat} {w : World} {v1 v2 vb : Value} {cs ps : List Int} {bks : List Bk} (h : OwnS base w v1 v2 vb cs ps bks) (k : base' ≤ base) : OwnS base' w v1 v2 vb cs ps bks := ⟨h.p.mono k, h.b.mono k, h.a⟩

theorem OwnS.reads {base : Nat} {w : World} {v1 v2 vb : Value} {cs ps : List Int} {bks : List Bk} (h : OwnS base w v1 v2 vb cs ps bks) : RS w.heap.size w v1 v2 vb cs ps bks := ⟨h.p.reads, h.b.reads⟩

theorem OwnS.upto {base c : Nat} {w w' : World} {v1 v2 vb : Value} {cs ps : List Int} {bks : List Bk} (h : OwnS base w v1 v2 vb cs ps bks) (u : Upto c w w') (hc : c < base) : OwnS base w' v1 v2 vb cs ps bks := ⟨h.p.upto u hc, h.b.upto u hc, h.a⟩

theorem OwnS.forms {base : Nat} {w : World} {v1 v2 vb : Value} {cs ps : List Int} {bks : List Bk} (h : OwnS base w v1 v2 vb cs ps bks) : ∃ o1 k1 o2 k2 ob kb, v1 = .slice o1 cs.length k1 ∧ v2 = .slice o2 ps.length k2 ∧ vb = .slice ob bks.length kb := h.reads.forms

theorem readsB_nil (B : Nat) (w : World) : ReadsB B w (.slice none 0 0) [] := ⟨⟨none, 0, rfl, Nat.zero_le _, fun i x h => by simp at h, Nat.le_refl _⟩, fun b hb => by simp at hb⟩
end Go.Proofs.YtcefcglonooelaaGreatDoor

namespace Go.Proofs.YtcefcglonooelaaGreatDoor
open Go.RowKit

set_option linter.unusedVariables false

set_option maxRecDepth 100000

/-- A row of one type stays where rows of another type are written. -/
theorem own_apart {w : World} {base base' : Nat} {e e' : TypeId} {k k' n n' : Nat} {v v' : Value} {xs ys : List Value} (h : w.ownsRow base e k v n xs) (h' : w.ownsRow base' e' k' v' n' ys) (hne : e' ≠ e) (g : Nat) (hg : v'.ownBlock = some g) : v.ownBlock ≠ some g := by
  rcases h'.2 with ⟨rfl, _⟩ | ⟨g', cap', cur, rfl, _, hh, _⟩
  · simp [Value.ownBlock] at hg
  · simp [Value.ownBlock] at hg
    subst hg
    exact own_not_box h hh hne
end Go.Proofs.YtcefcglonooelaaGreatDoor

namespace Go.Proofs.YtcefcglonooelaaGreatDoor
open Go.RowKit

set_option linter.unusedVariables false

set_option maxRecDepth 100000


theorem run_copy_all {P : Program} (w : World) (T ty e : TypeId) (hu : P.underlying T = some (.slice e)) (hsz : (P.info? e).map (·.size) = some 1)
    (base g n cap : Nat) (ys news : List Value) (hown : w.ownsRow base e 1 (.slice (some ⟨g, 0, none⟩) n cap) n ys)
    (ad : Option Addr) (c : Nat) (hl : news.length = n) (hnews : ∀ j u, news[j]? = some u → ∃ g off, ad = some ⟨g, off, none⟩ ∧ w.cell? ⟨g, off + j, none⟩ = some u) (h1 : ∀ u ∈ news, u.oneCell' = true) :
    ∃ w', (Builtin.copy_ #[T, T] ty #[.slice (some ⟨g, 0, none⟩) n cap, .slice ad n c]).run P w = .ok (.int .i64 n) w' ∧ w'.ownsRow base e 1 (.slice (some ⟨g, 0, none⟩) n cap) n news ∧ Upto g w w' := by
  rcases Nat.eq_zero_or_pos n with hn | hn
  · subst hn
    have e1 : news = [] := List.length_eq_zero_iff.1 hl
    have e2 : ys = [] := List.length_eq_zero_iff.1 (by simpa using hown.1)
    subst e1
    subst e2
    exact ⟨w, run_copy_none (P := P) w T T ty e _ _ 0 cap 0 c hu hsz rfl, hown, Upto.refl _ _⟩
  · obtain ⟨g', off, rfl, _⟩ := hnews 0 _ (List.getElem?_eq_getElem (show 0 < news.length by omega))
    have hsrc : ∀ j v, news[j]? = some v → w.cell? ((⟨g', off, none⟩ : Addr).add j) = some v := fun j u hj => by
      obtain ⟨g2, off2, e2, hc⟩ := hnews j u hj
      cases e2
      have ea : (⟨g', off, none⟩ : Addr).add j = ⟨g', off + j, none⟩ := by unfold Addr.add; split <;> simp_all
      rw [ea]; exact hc
    rcases hown.2 with ⟨h', _⟩ | ⟨g2, cap2, cur, h', hbg, hg, hnc, hcm, hcs, htake⟩
    · cases h'
    · simp only [Value.slice.injEq, Option.some.injEq, Addr.mk.injEq, and_true, true_and] at h'
      obtain ⟨rfl, rfl⟩ := h'
      have hr := run_copy_row (P := P) w T T ty e g 0 n cap ⟨g', off, none⟩ n c cur e news hu hsz hg (by rw [hl]; exact (Nat.min_self n).symm) hsrc (by omega) h1
      rw [hl] at hr
      refine ⟨_, hr, ⟨by omega, .inr ⟨g, cap, _, rfl, hbg, setRow_heap w g cur _ e _ hg, hnc, hcm, ?_, ?_⟩⟩, ⟨rfl, rfl, rfl, by simp, fun k _ hk => setRow_other w g k _ hk⟩⟩
      · simp; omega
      · rw [Nat.mul_one, List.take_zero, List.nil_append, ← hl]
        exact List.take_left
end Go.Proofs.YtcefcglonooelaaGreatDoor

namespace Go.Proofs.YtcefcglonooelaaGreatDoor
open Go.RowKit

set_option linter.unusedVariables false

set_option maxRecDepth 100000

theorem valueOk_any (n : Int) (w : World) :
    Calls Tryz.prog 87 #[.int .i64 n] w fun e w' => e = .returned (.bool (decide (0 ≤ n) && decide (n ≤ 999))) ∧ w' = w := by
  by_cases h : (0 : Int) ≤ n
  · go_enter Tryz.func87, Tryz.ntmps87
    go_wp2
    go_ret
    exact ⟨ret_bool (by simp [h]), rfl⟩
  · go_enter Tryz.func87, Tryz.ntmps87
    go_wp2
    go_ret
    exact ⟨ret_bool (by simp; omega), rfl⟩

set_option maxHeartbeats 800000 in
theorem sameNumbers_any (v : Value) (xs : List Int) (w : World) (hn : xs.length ≤ 1048576) (h : Reads w.heap.size w v (xs.map (Value.int .i64))) :
    Calls Tryz.prog 119 #[v] w fun e w' => ∃ v' : Value, e = .returned v' ∧ w'.ownsRow w.heap.size 2 1 v' xs.length (xs.map (Value.int .i64)) ∧ v' ≠ .slice none 0 0 ∧ Below w.heap.size w w' := by
  obtain ⟨i0, hi, hz0, hz1, hz2⟩ := info_parts Tryz.infoI64
  obtain ⟨o, cap, rfl, hm, hc, hroom⟩ := h
  have hl : (xs.map (Value.int .i64)).length = xs.length := by simp
  rw [hl] at hm ⊢
  obtain ⟨M, hM, hmk, hown⟩ := made_ints xs.length hn
  have own0 := hown w w.heap.size (Nat.le_refl _)
  have d0 : Below w.heap.size w (w.alloc (.cells M 2)) := bw_alloc (Below.refl _ _)
  have HC : Hid (∀ j u, (xs.map (Value.int .i64))[j]? = some u → ∃ g off, o = some ⟨g, off, none⟩ ∧ (w.alloc (.cells M 2)).cell? ⟨g, off + j, none⟩ = some u) := fun j u hj => by
    obtain ⟨g, off, e, hg, hx⟩ := hc j u hj
    exact ⟨g, off, e, (d0.cell (p := ⟨g, off + j, none⟩) hg).trans hx⟩
  obtain ⟨w', hrun, hown2, hu⟩ := run_copy_all (P := Tryz.prog) (w.alloc (.cells M 2)) 37 3 2 Tryz.underlying37 (by rw [hi]; simp [hz1]) w.heap.size w.heap.size xs.length xs.length _ (xs.map (Value.int .i64)) own0 o cap hl HC.out (fun u hu => by simp at hu; obtain ⟨a, _, rfl⟩ := hu; rfl)
  have hb : Below w.heap.size w w' := d0.trans (hu.toBelow (by simp) (Nat.le_refl _))
  have HO : Hid _ := hown2
  clear own0 d0 HC hu hc hl hown hM hown2
  have hm8 : xs.length ≤ 9223372036854775807 := by omega
  go_enter Tryz.func119, Tryz.ntmps119
  go_wp2_with fail
  go_ret
  exact ⟨_, rfl, HO.out, by simp, hb⟩

theorem with_list (xs : List Int) (k : Nat) (x : Int) (h : k < xs.length) : (xs.take k).map (Value.int .i64) ++ [Value.int .i64 x] ++ (xs.drop (k + 1)).map (Value.int .i64) = (xs.set k x).map (Value.int .i64) := by
  rw [List.set_eq_take_append_cons_drop, if_pos h]
  simp

set_option maxHeartbeats 1600000 in
theorem withNumber_any (v : Value) (xs : List Int) (k : Nat) (x : Int) (w : World) (hk : k < xs.length) (hn : xs.length ≤ 1048576) (h : Reads w.heap.size w v (xs.map (Value.int .i64))) :
    Calls Tryz.prog 158 #[v, .int .i64 k, .int .i64 x] w fun e w' => ∃ v' : Value, e = .returned v' ∧ w'.ownsRow w.heap.size 2 1 v' (xs.set k x).length ((xs.set k x).map (Value.int .i64)) ∧ v' ≠ .slice none 0 0 ∧ Below w.heap.size w w' := by
  obtain ⟨i0, hi, hz0, hz1, hz2⟩ := info_parts Tryz.infoI64
  obtain ⟨o, cap, rfl, hm, hc, hroom⟩ := h
  have hl : (xs.map (Value.int .i64)).length = xs.length := by simp
  rw [hl] at hm ⊢
  have hc0 : ∃ g off, o = some ⟨g, off, none⟩ ∧ g < w.heap.size := by
    obtain ⟨g, off, e, hg, _⟩ := hc k _ (getD_some xs k hk)
    exact ⟨g, off, e, hg⟩
  obtain ⟨g, off, rfl, hg⟩ := hc0
  have hcell : ∀ j u, (xs.map (Value.int .i64))[j]? = some u → w.cell? ⟨g, off + j, none⟩ = some u := fun j u hj => by
    obtain ⟨g', off', e, _, hx⟩ := hc j u hj
    cases e
    exact hx
  rw [hl] at hroom
  clear hc
  have j0 : (0 : Int) ≤ (k : Int) := by omega
  have j1 : (k : Int) < (xs.length : Int) := by omega
  have j2 : (k : Int) + 1 ≤ (xs.length : Int) := by omega
  have j3 : (k : Int) ≤ (cap : Int) := by omega
  have j4 : k ≤ cap := by omega
  obtain ⟨A, hA⟩ : ∃ A, A = (xs.take k).map (Value.int .i64) := ⟨_, rfl⟩
  obtain ⟨D, hD⟩ : ∃ D, D = (xs.drop (k + 1)).map (Value.int .i64) := ⟨_, rfl⟩
  have HLEN : Hid (A.length = k * 1) := by rw [Hid, hA]; simp; omega
  have HLEN2 : Hid (D.length = (xs.length - (k + 1)) * 1) := by rw [Hid, hD]; simp
  have HI : Hid (∀ u ∈ D, u.oneCell' = true) := fun u hu => by rw [hD, List.mem_map] at hu; obtain ⟨a, _, rfl⟩ := hu; rfl
  have HWL : Hid (A ++ [Value.int .i64 x] ++ D = (xs.set k x).map (Value.int .i64)) := by rw [Hid, hA, hD]; exact with_list xs k x hk
  have hA1 : ∀ j u, A[j]? = some u → w.cell? ⟨g, off + j, none⟩ = some u := fun j u hj => by
    refine hcell j u ?_
    rw [hA, List.map_take, List.getElem?_take] at hj
    split at hj
    · exact hj
    · cases hj
  have hD1 : ∀ j u, D[j]? = some u → w.cell? ⟨g, off + (k + 1) + j, none⟩ = some u := fun j u hj => by
    rw [Nat.add_assoc]
    refine hcell _ u ?_
    rwa [hD, List.map_drop, List.getElem?_drop] at hj
  have d0 : Below w.heap.size w (w.alloc (.cells #[.int .i64 x] 2)) := bw_alloc (Below.refl _ _)
  have HOLD : Hid (∀ j u, A[j]? = some u → (w.alloc (.cells #[.int .i64 x] 2)).cell? ((⟨g, off, none⟩ : Addr).add j) = some u) := cells_add fun j u hj => (d0.cell (p := ⟨g, off + j, none⟩) hg).trans (hA1 j u hj)
  have HNEW : Hid (∀ j u, [Value.int .i64 x][j]? = some u → (w.alloc (.cells #[.int .i64 x] 2)).cell? ((⟨w.heap.size, 0, none⟩ : Addr).add j) = some u) := new_one _ _ _
  have HM1 : Hid (k + 1 ≤ maxLen) := by unfold maxLen at hm; rw [Hid]; unfold maxLen; omega
  have HB1 : Hid ((k + 1) * 8 ≤ 140737488355328) := by rw [Hid]; omega
  have HG : Hid (k < k + 1) := Nat.lt_succ_self k
  have HBS : Hid (w.heap.size ≤ (w.alloc (.cells #[.int .i64 x] 2)).heap.size) := by rw [Hid]; simp
  have HD1 : Hid _ := hD1
  clear hA hD hA1 hD1 hcell
  go_enter Tryz.func158, Tryz.ntmps158
  go_wp2_with (at_builtin; refine wpList_append_full rfl _ _ 37 rfl w.heap.size 2 i0 (.int .i64 0) 1 8 Tryz.underlying37 hi hz0 hz1 hz2 rfl ⟨g, off, none⟩ k k A rfl HLEN.out HOLD.out ⟨w.heap.size, 0, none⟩ 1 1 [.int .i64 x] rfl rfl HNEW.out HG.out HM1.out HB1.out HBS.out ?_)
  intro v5 w5 own5 grow5 nn5
  have OWN5 : Hid (w5.ownsRow w.heap.size 2 1 v5 (k + 1) (A ++ [Value.int .i64 x])) := own5
  have d5 : Below w.heap.size w w5 := d0.grown grow5 (by simp) (fun q hq => by cases hq)
  have NN5 : Hid (v5 ≠ .slice none 0 0) := nn5
  obtain ⟨o5, c5, rfl⟩ := own_slice own5
  clear own5 grow5 nn5 HOLD HNEW HLEN HM1 HB1 HG HBS d0
  have HM2 : Hid (k + 1 + (xs.length - (k + 1)) ≤ maxLen) := by unfold maxLen at hm; rw [Hid]; unfold maxLen; omega
  have HB2 : Hid ((k + 1 + (xs.length - (k + 1))) * 8 ≤ 140737488355328) := by rw [Hid]; omega
  have HSRC : Hid (∀ (ad : Option Addr), (k + 1 < xs.length → ad = some ⟨g, off + (k + 1), none⟩) → ∀ j u, D[j]? = some u → ∃ g off, ad = some ⟨g, off, none⟩ ∧ w5.cell? ⟨g, off + j, none⟩ = some u) := fun ad had j u hj => by
    have hj' := (List.getElem?_eq_some_iff.1 hj).1
    have hDl := HLEN2.out
    exact ⟨g, off + (k + 1), had (by omega), (d5.cell (p := ⟨g, off + (k + 1) + j, none⟩) hg).trans (HD1.out j u hj)⟩
  have HFIN : Hid (∀ (v6 : Value) (w6 : World), w6.ownsRow w.heap.size 2 1 v6 (k + 1 + (xs.length - (k + 1))) (A ++ [Value.int .i64 x] ++ D) → w6.ownsRow w.heap.size 2 1 v6 (xs.set k x).length ((xs.set k x).map (Value.int .i64))) := fun v6 w6 h => by
    rw [HWL.out] at h
    rw [List.length_set]
    rwa [show k + 1 + (xs.length - (k + 1)) = xs.length by omega] at h
  have HBS : Hid (w.heap.size ≤ w5.heap.size) := d5.size
  by_cases hcap : k + 1 = cap
  · subst hcap
    have hx1 : xs.length ≤ k + 1 := by omega
    have HE0 : Hid (xs.length - (k + 1) = 0) := by rw [Hid]; omega
    have HLEN3 : Hid (D.length = 0 * 1) := by rw [Hid, HLEN2.out, HE0.out]
    have HSRC3 : Hid (∀ j u, D[j]? = some u → ∃ g' off', some (⟨g, off, none⟩ : Addr) = some ⟨g', off', none⟩ ∧ w5.cell? ⟨g', off' + j, none⟩ = some u) := HSRC.out _ (fun h => by omega)
    have HM3 : Hid (k + 1 + 0 ≤ maxLen) := by have := HM2.out; rwa [HE0.out] at this
    have HB3 : Hid ((k + 1 + 0) * 8 ≤ 140737488355328) := by have := HB2.out; rwa [HE0.out] at this
    have HFIN3 : Hid (∀ (v6 : Value) (w6 : World), w6.ownsRow w.heap.size 2 1 v6 (k + 1 + 0) (A ++ [Value.int .i64 x] ++ D) → w6.ownsRow w.heap.size 2 1 v6 (xs.set k x).length ((xs.set k x).map (Value.int .i64))) := by have := HFIN.out; rwa [HE0.out] at this
    clear HSRC HLEN2 HM2 HB2 HFIN
    go_wp2_with (at_builtin; refine wpList_append_reads rfl _ _ 37 rfl w.heap.size 2 i0 (.int .i64 0) 1 8 Tryz.underlying37 hi hz0 hz1 hz2 rfl (by decide) (.slice o5 (k + 1) c5) (k + 1) (A ++ [Value.int .i64 x]) rfl OWN5.out (some ⟨g, off, none⟩) 0 0 D rfl HLEN3.out HSRC3.out HI.out HM3.out HB3.out HBS.out ?_)
    intro v6 w6 own6 grow6 nil6
    have HO : Hid _ := HFIN3.out v6 w6 (by simpa using own6)
    have d6 : Below w.heap.size w w6 := d5.grown grow6 HBS.out (fun q hq => (OWN5.out.lt q hq).1)
    have NN6 : Hid (v6 ≠ .slice none 0 0) := nil6
    clear own6 grow6 nil6
    go_wp2_with fail
    go_ret
    exact ⟨v6, rfl, HO.out, NN6.out, d6⟩
  · have hc1 : k + 1 < cap := by omega
    have hc2 : ¬ k + 1 = cap := hcap
    have HSRC3 : Hid (∀ j u, D[j]? = some u → ∃ g' off', some (⟨g, off + (k + 1), none⟩ : Addr) = some ⟨g', off', none⟩ ∧ w5.cell? ⟨g', off' + j, none⟩ = some u) := HSRC.out _ (fun _ => rfl)
    clear HSRC
    go_wp2_with (at_builtin; refine wpList_append_reads rfl _ _ 37 rfl w.heap.size 2 i0 (.int .i64 0) 1 8 Tryz.underlying37 hi hz0 hz1 hz2 rfl (by decide) (.slice o5 (k + 1) c5) (k + 1) (A ++ [Value.int .i64 x]) rfl OWN5.out (some ⟨g, off + (k + 1), none⟩) (xs.length - (k + 1)) (cap - (k + 1)) D rfl HLEN2.out HSRC3.out HI.out HM2.out HB2.out HBS.out ?_)
    intro v6 w6 own6 grow6 nil6
    have HO : Hid _ := HFIN.out v6 w6 (by simpa using own6)
    have d6 : Below w.heap.size w w6 := d5.grown grow6 HBS.out (fun q hq => (OWN5.out.lt q hq).1)
    have NN6 : Hid (v6 ≠ .slice none 0 0) := nil6
    clear own6 grow6 nil6
    go_wp2_with fail
    go_ret
    exact ⟨v6, rfl, HO.out, NN6.out, d6⟩
end Go.Proofs.YtcefcglonooelaaGreatDoor

namespace Go.Proofs.YtcefcglonooelaaGreatDoor
open Go.RowKit

set_option linter.unusedVariables false

set_option maxRecDepth 100000

/-- The library's own contract of the copy, at this program's numbers. -/
def cloneRen : Go.Shelf.Ren := ⟨fun | 316 => 146 | n => n, fun | 9 => 9 | 3 => 3 | 4 => 4 | 37 => 22 | 0 => 0 | 127 => 205 | 5 => 5 | n => n, fun | n => n⟩

theorem cloneLays : Go.Proofs.LaysM.n316 Tryz.prog cloneRen where
  mixed := by kernel_rfl
  f316 := Tryz.func146.trans (congrArg some (by kernel_rfl))
  t0 := Tryz.underlying0
  a0 := Tryz.isAgg0
  z0 := Tryz.sizeOf0
  v0 := Tryz.zeroValue0
  i0 := by kernel_rfl
  t3 := Tryz.underlying3
  a3 := Tryz.isAgg3
  z3 := Tryz.sizeOf3
  v3 := Tryz.zeroValue3
  i3 := by kernel_rfl
  t4 := Tryz.underlying4
  a4 := Tryz.isAgg4
  z4 := Tryz.sizeOf4
  v4 := Tryz.zeroValue4
  i4 := by kernel_rfl
  t9 := Tryz.underlying9
  a9 := Tryz.isAgg9
  z9 := Tryz.sizeOf9
  v9 := Tryz.zeroValue9
  i9 := by kernel_rfl
  t37 := Tryz.underlying22
  a37 := Tryz.isAgg22
  z37 := Tryz.sizeOf22
  v37 := Tryz.zeroValue22
  i37 := by kernel_rfl
  t127 := Tryz.underlying205
  a127 := Tryz.isAgg205
  z127 := Tryz.sizeOf205
  v127 := Tryz.zeroValue205
  i127 := by kernel_rfl
  t5 := Tryz.underlying5
  a5 := Tryz.isAgg5
  z5 := Tryz.sizeOf5
  v5 := Tryz.zeroValue5
  i5 := by kernel_rfl

theorem liteClone_any (s : ByteArray) (w : World) (hs : s.size ≤ 1099511627776) :
    Calls Tryz.prog 146 #[.string s] w fun e w' => e = .returned (.string s) ∧ Below w.heap.size w w' := Any.stringslite_Clone cloneLays s w (by omega)

theorem clone_any (s : ByteArray) (w : World) (hs : s.size ≤ 1099511627776) :
    Calls Tryz.prog 96 #[.string s] w fun e w' => e = .returned (.string s) ∧ Below w.heap.size w w' := by
  go_enter Tryz.func96, Tryz.ntmps96
  go_wp2_with fail
  refine (liteClone_any s _ hs).mono ?_
  rintro e w1 ⟨rfl, b1⟩
  go_wp2_with fail
  go_ret
  exact ⟨rfl, b1⟩
end Go.Proofs.YtcefcglonooelaaGreatDoor

namespace Go.Proofs.YtcefcglonooelaaGreatDoor
open Go.RowKit

set_option linter.unusedVariables false

set_option maxRecDepth 100000


def runRight (r : Int × Int × Int) : Bool := decide (0 ≤ r.1) && decide (1 ≤ r.2.1) && decide (r.2.1 ≤ 16 - r.1) && decide (0 ≤ r.2.2) && decide (r.2.1 ≤ 24 - r.2.2)

theorem runRight_iff (f c p : Int) : runRight (f, c, p) = true ↔ 0 ≤ f ∧ 1 ≤ c ∧ c ≤ 16 - f ∧ 0 ≤ p ∧ c ≤ 24 - p := by
  simp only [runRight, Bool.and_eq_true, decide_eq_true_eq]
  omega

theorem runRight_no (f c p : Int) (h : ¬ (0 ≤ f ∧ 1 ≤ c ∧ c ≤ 16 - f ∧ 0 ≤ p ∧ c ≤ 24 - p)) : runRight (f, c, p) = false := by
  rw [Bool.eq_false_iff]
  exact fun q => h ((runRight_iff f c p).1 q)

theorem implRun_right (f c p : Int) (w : World) (hf : f ≤ 9223372036854775807) (hp : p ≤ 9223372036854775807) :
    Calls Tryz.prog 203 #[.agg #[.int .i64 f, .int .i64 c, .int .i64 p]] w fun e w' => e = .returned (.bool (runRight (f, c, p))) ∧ Below w.heap.size w w' := by
  have HNO : Hid (∀ h : ¬ (0 ≤ f ∧ 1 ≤ c ∧ c ≤ 16 - f ∧ 0 ≤ p ∧ c ≤ 24 - p), runRight (f, c, p) = false) := runRight_no f c p
  by_cases h1 : 0 ≤ f
  · by_cases h2 : 1 ≤ c
    · have e1 : IntKind.i64.wrap (16 - f) = 16 - f := by rw [IntKind.wrap_i64]; omega
      by_cases h3 : c ≤ 16 - f
      · by_cases h4 : 0 ≤ p
        · have e2 : IntKind.i64.wrap (24 - p) = 24 - p := by rw [IntKind.wrap_i64]; omega
          by_cases h5 : c ≤ 24 - p
          · have HV : Hid (runRight (f, c, p) = true) := (runRight_iff f c p).2 ⟨h1, h2, h3, h4, h5⟩
            go_enter Tryz.func203, Tryz.ntmps203
            go_wp2
            go_ret
            exact ⟨ret_bool HV.out.symm, bw_alloc (Below.refl _ _)⟩
          · have HV := HNO.out (fun q => h5 q.2.2.2.2)
            have HH : Hid _ := HV
            clear HV
            go_enter Tryz.func203, Tryz.ntmps203
            go_wp2
            go_ret
            exact ⟨ret_bool HH.out.symm, bw_alloc (Below.refl _ _)⟩
        · have HH : Hid _ := HNO.out (fun q => h4 q.2.2.2.1)
          go_enter Tryz.func203, Tryz.ntmps203
          go_wp2
          go_ret
          exact ⟨ret_bool HH.out.symm, bw_alloc (Below.refl _ _)⟩
      · have HH : Hid _ := HNO.out (fun q => h3 q.2.2.1)
        go_enter Tryz.func203, Tryz.ntmps203
        go_wp2
        go_ret
        exact ⟨ret_bool HH.out.symm, bw_alloc (Below.refl _ _)⟩
    · have HH : Hid _ := HNO.out (fun q => h2 q.2.1)
      go_enter Tryz.func203, Tryz.ntmps203
      go_wp2
      go_ret
      exact ⟨ret_bool HH.out.symm, bw_alloc (Below.refl _ _)⟩
  · have HH : Hid _ := HNO.out (fun q => h1 q.1)
    go_enter Tryz.func203, Tryz.ntmps203
    go_wp2
    go_ret
    exact ⟨ret_bool HH.out.symm, bw_alloc (Below.refl _ _)⟩

theorem implRun_ahead (f c p f' c' p' : Int) (w : World) (h : 0 ≤ f ∧ f ≤ 16 ∧ 0 ≤ c ∧ c ≤ 16) :
    Calls Tryz.prog 202 #[.agg #[.int .i64 f, .int .i64 c, .int .i64 p], .agg #[.int .i64 f', .int .i64 c', .int .i64 p']] w fun e w' => e = .returned (.bool (decide (f + c ≤ f'))) ∧ Below w.heap.size w w' := by
  have e1 : IntKind.i64.wrap (f + c) = f + c := by rw [IntKind.wrap_i64]; omega
  clear h
  go_enter Tryz.func202, Tryz.ntmps202
  go_wp2
  go_ret
  exact ⟨ret_bool rfl, bw_alloc (bw_alloc (Below.refl _ _))⟩

theorem implRun_on (f c p f' c' p' : Int) (w : World) (h : 0 ≤ f ∧ f ≤ 16 ∧ 0 ≤ c ∧ c ≤ 16 ∧ 0 ≤ p ∧ p ≤ 24) :
    Calls Tryz.prog 201 #[.agg #[.int .i64 f, .int .i64 c, .int .i64 p], .agg #[.int .i64 f', .int .i64 c', .int .i64 p']] w fun e w' => e = .returned (.bool (decide (f + c = f') && decide (p + c = p'))) ∧ Below w.heap.size w w' := by
  have e1 : IntKind.i64.wrap (f + c) = f + c := by rw [IntKind.wrap_i64]; omega
  have e2 : IntKind.i64.wrap (p + c) = p + c := by rw [IntKind.wrap_i64]; omega
  clear h
  by_cases h1 : f + c = f'
  · have h1b : (f + c == f') = true := by simpa using h1
    have HH : Hid ((p + c == p') = (decide (f + c = f') && decide (p + c = p'))) := by rw [Hid, decide_eq_true h1, Bool.true_and]; rfl
    clear h1
    go_enter Tryz.func201, Tryz.ntmps201
    go_wp2
    go_ret
    exact ⟨ret_bool HH.out, bw_alloc (bw_alloc (Below.refl _ _))⟩
  · have h1b : (f + c == f') = false := by simpa using h1
    have HH : Hid (false = (decide (f + c = f') && decide (p + c = p'))) := by rw [Hid, decide_eq_false h1, Bool.false_and]
    clear h1
    go_enter Tryz.func201, Tryz.ntmps201
    go_wp2
    go_ret
    exact ⟨ret_bool HH.out, bw_alloc (bw_alloc (Below.refl _ _))⟩
end Go.Proofs.YtcefcglonooelaaGreatDoor

