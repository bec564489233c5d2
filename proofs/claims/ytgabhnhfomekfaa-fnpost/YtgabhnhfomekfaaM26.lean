/-
  Contracts and plain laws, one chapter behind the other.
-/
import Derived.Test.YtgabhnhfomekfaaM24
import Derived.Test.YtgabhnhfomekfaaM25
namespace Go.Proofs.Ytgabhnhfomekfaa
open Go.RowKit

set_option linter.unusedVariables false

set_option maxRecDepth 100000


def without15 (l : List Mg) (k : Nat) : List Mg := l.take k ++ l.drop (k + 1)

set_option maxHeartbeats 3200000 in
theorem l15Without_any (v : Value) (l : List Mg) (kk : Nat) (w : World) (hk : kk < l.length) (hl : l.length ≤ 60) (r : ReadsR 15 mgC w.heap.size w v l) :
    Calls Try.prog 39 #[v, .int .i64 (kk : Int)] w fun e w' => ∃ v', e = .returned v' ∧ w'.ownsRow w.heap.size 38 15 v' (without15 l kk).length ((without15 l kk).flatMap mgC) ∧ Below w.heap.size w w' := by
  obtain ⟨i0, hi, hz0, hz1, hz2⟩ := info_parts Try.infoMsg
  obtain ⟨o', cap, rfl, hm, hc, hcap⟩ := r
  obtain ⟨g, off, rfl, hg, -⟩ := mg_cells hc kk hk
  have hc' : ∀ i x, l[i]? = some x → ∀ j u, (mgC x)[j]? = some u → w.cell? ⟨g, off + i * 15 + j, none⟩ = some u := fun i x hx j u hj => by
    obtain ⟨g', off', e, -, h⟩ := hc i x hx
    cases e
    exact h j u hj
  have HTL : Hid (((l.take kk).flatMap mgC).length = kk * 15) := by rw [Hid, flat_length mgC_len, List.length_take, Nat.min_eq_left (by omega)]
  have HDL : Hid (((l.drop (kk + 1)).flatMap mgC).length = (l.length - (kk + 1)) * 15) := by rw [Hid, flat_length mgC_len, List.length_drop]
  have rt : ReadsR 15 mgC w.heap.size w (.slice (some ⟨g, off, none⟩) kk cap) (l.take kk) := ⟨some ⟨g, off, none⟩, cap, by rw [List.length_take, Nat.min_eq_left (by omega)], by rw [List.length_take]; omega, fun i x hx => ⟨g, off, rfl, hg, hc' i x (by
    rw [List.getElem?_take] at hx
    split at hx
    · exact hx
    · cases hx)⟩, by rw [List.length_take]; omega⟩
  have HT0 : Hid (∀ X : World, Below w.heap.size w X → ∀ j u, ((l.take kk).flatMap mgC)[j]? = some u → ∃ g' off', (some ⟨g, off, none⟩ : Option Addr) = some ⟨g', off', none⟩ ∧ X.cell? ⟨g', off' + j, none⟩ = some u) := fun X bX => flat_src15 mgC_len (by decide) (rt.below bX)
  have HM1 : Hid (0 + kk ≤ maxLen) := by rw [Hid]; unfold maxLen; omega
  have HB1 : Hid ((0 + kk) * 136 ≤ 140737488355328) := by rw [Hid]; omega
  have HM2 : Hid (0 + kk + (l.length - (kk + 1)) ≤ maxLen) := by rw [Hid]; unfold maxLen; omega
  have HB2 : Hid ((0 + kk + (l.length - (kk + 1))) * 136 ≤ 140737488355328) := by rw [Hid]; omega
  have j0 : (0 : Int) ≤ (kk : Int) := by omega
  have j1 : (kk : Int) ≤ (cap : Int) := by omega
  have j2 : (0 : Int) ≤ (kk : Int) + 1 := by omega
  have j3 : (kk : Int) + 1 ≤ (l.length : Int) := by omega
  have j4 : (l.length : Int) ≤ (cap : Int) := by omega
  have j5 : ((kk : Int) + 1).toNat = kk + 1 := by omega
  have j6 : IntKind.i64.wrap ((kk : Int) + 1) = (kk : Int) + 1 := by rw [IntKind.wrap_i64]; omega
  have j8 : (kk : Int) + 1 ≤ (cap : Int) := by omega
  have j9 : (kk : Int) ≤ (l.length : Int) := by omega
  have hkc : kk ≤ cap := by omega
  unfold maxLen at hm
  have HDX : Hid (∀ W, Below w.heap.size w W → ∀ j u, ((l.drop (kk + 1)).flatMap mgC)[j]? = some u → ∃ g' off', (some ⟨g, off + (kk + 1) * 15, none⟩ : Option Addr) = some ⟨g', off', none⟩ ∧ W.cell? ⟨g', off' + j, none⟩ = some u) := fun W hW => by
    have rd : ReadsR 15 mgC w.heap.size w (.slice (some ⟨g, off + (kk + 1) * 15, none⟩) (l.length - (kk + 1)) (cap - (kk + 1))) (l.drop (kk + 1)) := ⟨some ⟨g, off + (kk + 1) * 15, none⟩, cap - (kk + 1), by rw [List.length_drop], by rw [List.length_drop]; unfold maxLen; omega, fun i x hx => ⟨g, off + (kk + 1) * 15, rfl, hg, fun j u hj => by
      rw [List.getElem?_drop] at hx
      have := hc' (kk + 1 + i) x hx j u hj
      rwa [show off + (kk + 1 + i) * 15 + j = off + (kk + 1) * 15 + i * 15 + j by omega] at this⟩, by rw [List.length_drop]; omega⟩
    exact flat_src15 mgC_len (by decide) (rd.below hW)
  clear hc hc' rt hg
  by_cases hcc : kk + 1 = cap
  case pos =>
    have HDX : Hid (∀ W, Below w.heap.size w W → ∀ j u, ((l.drop (kk + 1)).flatMap mgC)[j]? = some u → ∃ g' off', (some ⟨g, off, none⟩ : Option Addr) = some ⟨g', off', none⟩ ∧ W.cell? ⟨g', off' + j, none⟩ = some u) := fun W hW j u h => by rw [List.drop_of_length_le (by omega)] at h; simp at h
    have jx : (kk : Int) ≤ (kk : Int) + 1 := by omega
    subst hcc
    go_enter Try.func39, Try.ntmps39
    go_wp2_with fail
    go_region_law (first
      | (refine step_append_readsR rfl (.tmp 5) (.tmp 8) 24 rfl w.heap.size 38 i0 (.agg #[.int .i64 0, .int .i64 0, .int .i64 0, .int .i64 0, .int .i64 0, .int .i64 0, .int .i64 0, .string ByteArray.empty, .string ByteArray.empty, .int .i64 0, .int .i64 0, .int .i64 0, .int .i64 0, .int .i64 0, .int .i64 0]) 15 136 Try.underlying24 hi hz0 hz1 hz2 rfl (by decide) (.slice (some ⟨w.heap.size, 0, none⟩) 0 0) 0 [] ?e1 ?own (some ⟨g, off, none⟩) kk (kk + 1) ((l.take kk).flatMap mgC) ?e2 HTL.out ?hn (msgs_one _) HM1.out HB1.out ?hbase ?_
         case e1 => first | rfl | simp [Act.eval]
         case e2 => first | rfl | (simp [Act.eval] <;> omega)
         case own => exact own_nomsgs w
         case hn => exact HT0.out _ (bw_alloc (Below.refl _ _)).drew
         case hbase => simp <;> omega
         intro va wa owna growa nila
         have ba : Below w.heap.size w wa := ((bw_alloc (Below.refl _ _)).drew).grown growa (by simp <;> omega) (fun z hz => by simp [Value.ownBlock] at hz; omega))
      | (refine step_append_readsR rfl (.tmp 9) (.tmp 13) 24 rfl w.heap.size 38 i0 (.agg #[.int .i64 0, .int .i64 0, .int .i64 0, .int .i64 0, .int .i64 0, .int .i64 0, .int .i64 0, .string ByteArray.empty, .string ByteArray.empty, .int .i64 0, .int .i64 0, .int .i64 0, .int .i64 0, .int .i64 0, .int .i64 0]) 15 136 Try.underlying24 hi hz0 hz1 hz2 rfl (by decide) va (0 + kk) ([] ++ (l.take kk).flatMap mgC) ?e1 owna (some ⟨g, off, none⟩) (l.length - (kk + 1)) 0 ((l.drop (kk + 1)).flatMap mgC) ?e2 HDL.out (HDX.out _ ba) (msgs_one _) HM2.out HB2.out ?hbase ?_
         case e1 => first | rfl | simp [Act.eval]
         case e2 => first | rfl | (simp [Act.eval] <;> omega)
         case hbase => have := ba.size; omega
         intro vd wd ownd growd nild
         have bd : Below w.heap.size w wd := ba.grown growd (by have := ba.size; omega) (fun z hz => (owna.lt z hz).1)))
    all_goals
      have HF : Hid (wd.ownsRow w.heap.size 38 15 vd (without15 l kk).length ((without15 l kk).flatMap mgC)) := by
        rw [Hid, without15, List.length_append, List.flatMap_append, List.length_take, List.length_drop, Nat.min_eq_left (by omega)]
        simpa using ownd
      clear ownd owna growa growd nila nild
      go_wp2_with fail
      go_ret
      exact ⟨vd, rfl, HF.out, bd⟩
  have j7 : cap - (kk + 1) ≠ 0 := by omega
  go_enter Try.func39, Try.ntmps39
  go_wp2_with fail
  go_region_law (first
    | (refine step_append_readsR rfl (.tmp 5) (.tmp 8) 24 rfl w.heap.size 38 i0 (.agg #[.int .i64 0, .int .i64 0, .int .i64 0, .int .i64 0, .int .i64 0, .int .i64 0, .int .i64 0, .string ByteArray.empty, .string ByteArray.empty, .int .i64 0, .int .i64 0, .int .i64 0, .int .i64 0, .int .i64 0, .int .i64 0]) 15 136 Try.underlying24 hi hz0 hz1 hz2 rfl (by decide) (.slice (some ⟨w.heap.size, 0, none⟩) 0 0) 0 [] ?e1 ?own (some ⟨g, off, none⟩) kk cap ((l.take kk).flatMap mgC) ?e2 HTL.out ?hn (msgs_one _) HM1.out HB1.out ?hbase ?_
       case e1 => first | rfl | simp [Act.eval]
       case e2 => first | rfl | (simp [Act.eval] <;> omega)
       case own => exact own_nomsgs w
       case hn => exact HT0.out _ (bw_alloc (Below.refl _ _)).drew
       case hbase => simp <;> omega
       intro va wa owna growa nila
       have ba : Below w.heap.size w wa := ((bw_alloc (Below.refl _ _)).drew).grown growa (by simp <;> omega) (fun z hz => by simp [Value.ownBlock] at hz; omega))
    | (refine step_append_readsR rfl (.tmp 9) (.tmp 13) 24 rfl w.heap.size 38 i0 (.agg #[.int .i64 0, .int .i64 0, .int .i64 0, .int .i64 0, .int .i64 0, .int .i64 0, .int .i64 0, .string ByteArray.empty, .string ByteArray.empty, .int .i64 0, .int .i64 0, .int .i64 0, .int .i64 0, .int .i64 0, .int .i64 0]) 15 136 Try.underlying24 hi hz0 hz1 hz2 rfl (by decide) va (0 + kk) ([] ++ (l.take kk).flatMap mgC) ?e1 owna (some ⟨g, off + (kk + 1) * 15, none⟩) (l.length - (kk + 1)) (cap - (kk + 1)) ((l.drop (kk + 1)).flatMap mgC) ?e2 HDL.out (HDX.out _ ba) (msgs_one _) HM2.out HB2.out ?hbase ?_
       case e1 => first | rfl | simp [Act.eval]
       case e2 => first | rfl | (simp [Act.eval] <;> omega)
       case hbase => have := ba.size; omega
       intro vd wd ownd growd nild
       have bd : Below w.heap.size w wd := ba.grown growd (by have := ba.size; omega) (fun z hz => (owna.lt z hz).1)))
  all_goals
    have HF : Hid (wd.ownsRow w.heap.size 38 15 vd (without15 l kk).length ((without15 l kk).flatMap mgC)) := by
      rw [Hid, without15, List.length_append, List.flatMap_append, List.length_take, List.length_drop, Nat.min_eq_left (by omega)]
      simpa using ownd
    clear ownd owna growa growd nila nild
    go_wp2_with fail
    go_ret
    exact ⟨vd, rfl, HF.out, bd⟩
end Go.Proofs.Ytgabhnhfomekfaa

