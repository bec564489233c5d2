/-
  Chapter 14: the specification's l14Without where it goes, Without, Joined, at every argument.
-/
import Derived.Test.YtijmmenkcemggaaVw3
namespace Go.Proofs.Ytijmmenkcemggaa
open Go.RowKit Nums
set_option linter.unusedVariables false
set_option maxRecDepth 100000

theorem ints_one (xs : List Int) : ∀ u ∈ xs.map (Value.int .i64), u.oneCell' = true := fun u hu => by
  obtain ⟨a, _, rfl⟩ := List.mem_map.1 hu
  rfl
theorem cells_part {w : World} {g B : Nat} {ms : List Int} (c : CellsI B w (some ⟨g, 0, none⟩) ms) (i m : Nat) (h : i + m ≤ ms.length) : ∀ j u, (((ms.drop i).take m).map (Value.int .i64))[j]? = some u → ∃ g' off, some (⟨g, i, none⟩ : Addr) = some ⟨g', off, none⟩ ∧ g' < B ∧ w.cell? ⟨g', off + j, none⟩ = some u := fun j u hj => by
  rw [List.getElem?_map, Option.map_eq_some_iff] at hj
  obtain ⟨x, hx, rfl⟩ := hj
  obtain ⟨hlt, hx⟩ := List.getElem?_eq_some_iff.1 hx
  rw [List.getElem_take, List.getElem_drop] at hx
  rw [List.length_take, List.length_drop] at hlt
  obtain ⟨g', off, e, hg, hc⟩ := c (i + j) (by omega)
  cases e
  exact ⟨g, i, rfl, hg, by rw [← hx, ← hc, Nat.zero_add]⟩
theorem cellsI_below {B : Nat} {w w' : World} {o : Option Addr} {ms : List Int} (c : CellsI B w o ms) (b : Below B w w') : CellsI B w' o ms := fun j hj => by
  obtain ⟨g, off, e, hg, hx⟩ := c j hj
  exact ⟨g, off, e, hg, (b.cell (p := ⟨g, off + j, none⟩) hg).trans hx⟩

/-- The members without the i-th. -/
def lessV (ms : List Int) (i : Nat) : List Int := ms.take i ++ ms.drop (i + 1)
theorem lessV_length {ms : List Int} {i : Nat} (h : i < ms.length) : (lessV ms i).length = ms.length - 1 := by simp [lessV]; omega
theorem withoutV_go {n : Int} {ms : List Int} {h : Int} (hv : viewOk n ms = true) (hg : goes n ms h) : withoutV n ms h = ((n + 1, lessV ms (vAt ms h).toNat), true) := by rw [withoutV, if_pos hv, if_pos hg]; rfl

set_option maxHeartbeats 6400000 in
theorem l14Without_yes (b base : Nat) (n : Int) (v : Value) (ms : List Int) (h : Int) (i : Nat) (w : World) (hi : i < ms.length) (hvi : vAt ms h = (i : Int)) (hn : n ≠ 1000) (hnb : 1 ≤ n ∧ n ≤ 1000) (hl4 : ms.length ≤ 4) (hl1 : ms.length ≠ 1) (k : w.heap[b]? = some (.cells #[.int .i64 n, v] 26 (0, 0))) (own : w.ownsRow base 2 1 v ms.length (ms.map (Value.int .i64))) :
    Calls Try.prog 47 #[.pointer (some ⟨b, 0, none⟩), .int .i64 h] w fun e w' => ∃ v' : Value, e = .returned (.bool true) ∧ w'.heap[b]? = some (.cells #[.int .i64 (n + 1), v'] 26 (0, 0)) ∧ w'.ownsRow w.heap.size 2 1 v' (lessV ms i).length ((lessV ms i).map (Value.int .i64)) ∧ v' ≠ .slice none 0 0 ∧ Upto b w w' := by
  obtain ⟨i0, hi0, hz0, hz1, hz2⟩ := info_parts Try.infoI64
  have r := Reads.of_own own
  obtain ⟨g, cp, rfl⟩ : ∃ g cp, v = .slice (some ⟨g, 0, none⟩) ms.length cp := by
    obtain ⟨m, hm⟩ : ∃ m, ms.length = m + 1 := ⟨ms.length - 1, by omega⟩
    rw [hm] at own ⊢
    exact owns_form own
  have hcl := own_cap own
  have HC : Hid (CellsI w.heap.size w (some ⟨g, 0, none⟩) ms) := by
    obtain ⟨o1, cap1, e, m1, c1, -⟩ := r
    simp only [List.length_map, Value.slice.injEq, true_and] at e
    rw [← e.1] at c1
    exact cellsI_of c1
  have p0 := at_cell k 0
  have p1 := at_cell k 1
  have hlt := heap_lt k
  clear own
  go_enter Try.func47, Try.ntmps47
  go_wp2_with fail
  refine (l14At_any n _ ms h _ r).mono ?_
  rintro e w1 ⟨rfl, b1⟩
  rw [hvi]
  replace k := (b1.block _ hlt).trans k
  have s1 := b1.size
  have C1 : Hid (CellsI w.heap.size w1 (some ⟨g, 0, none⟩) ms) := cellsI_below HC.out b1
  clear p0 p1 HC r hvi
  have p0 := at_cell k 0
  have p1 := at_cell k 1
  have hl2 : ((ms.length : Int) == 1) = false := by rw [beq_eq_false_iff_ne]; omega
  have hn2 : (n == 1000) = false := by rw [beq_eq_false_iff_ne]; exact hn
  have ha : ¬ (i : Int) < 0 := by omega
  have HI : Hid (i < ms.length) := hi
  have HR1 : Hid (Reads w1.drew.heap.size w1.drew (.slice (some ⟨g, 0, none⟩) i cp) ((ms.take i).map (Value.int .i64))) := by
    refine ⟨some ⟨g, 0, none⟩, cp, by rw [List.length_map, List.length_take, Nat.min_eq_left (by omega)], ?_, ?_, ?_⟩
    · rw [List.length_map, List.length_take]; unfold maxLen; omega
    · intro j u hj
      obtain ⟨g', off, e, hg, hc⟩ := cells_part C1.out 0 i (by omega) j u (by rw [List.drop_zero]; exact hj)
      exact ⟨g', off, e, by show g' < w1.heap.size; omega, hc⟩
    · rw [List.length_map, List.length_take]; omega
  have HTL : Hid ((ms.take i).length ≤ 1048576) := by rw [Hid, List.length_take]; omega
  have hti : (ms.take i).length = i := by rw [List.length_take]; omega
  have HDL : Hid (((ms.drop (i + 1)).map (Value.int .i64)).length = (ms.length - (i + 1)) * 1) := by rw [Hid, List.length_map, List.length_drop, Nat.mul_one]
  have hw1 : IntKind.i64.wrap ((i : Int) + 1) = (i : Int) + 1 := by rw [IntKind.wrap_i64]; omega
  have hw2 : ((i : Int) + 1).toNat = i + 1 := by omega
  have hw3 : IntKind.i64.wrap (n + 1) = n + 1 := by rw [IntKind.wrap_i64]; omega
  have j0 : (0 : Int) ≤ (i : Int) := by omega
  have j1 : (i : Int) ≤ (ms.length : Int) := by omega
  have j2 : (i : Int) ≤ (cp : Int) := by omega
  have j3 : (0 : Int) ≤ (i : Int) + 1 := by omega
  have j4 : (i : Int) + 1 ≤ (ms.length : Int) := by omega
  have j5 : (i : Int) + 1 ≤ (cp : Int) := by omega
  have S0 := at_cell (W := w1.drew) k 0
  have S1 := at_cell (W := w1.drew) k 1
  have HM2 : Hid (i + (ms.length - (i + 1)) ≤ maxLen) := by rw [Hid]; unfold maxLen; omega
  have HB2 : Hid ((i + (ms.length - (i + 1))) * 8 ≤ 140737488355328) := by rw [Hid]; omega
  have HLE : Hid (((lessV ms i).map (Value.int .i64)) = (ms.take i).map (Value.int .i64) ++ (ms.drop (i + 1)).map (Value.int .i64)) := by rw [Hid, lessV, List.map_append]
  have HLL : Hid ((lessV ms i).length = i + (ms.length - (i + 1))) := by rw [Hid, lessV_length hi]; omega
  obtain ⟨L, hL⟩ : ∃ L, L = i + (ms.length - (i + 1)) := ⟨_, rfl⟩
  have HL : Hid (L = i + (ms.length - (i + 1))) := hL
  clear hL
  have HKB : Hid _ := And.intro k (And.intro b1 hlt)
  clear k b1
  by_cases hcp : cp = i + 1
  · subst hcp
    have HS2 : Hid (∀ X : World, Below w1.drew.heap.size w1.drew X → ∀ j u, ((ms.drop (i + 1)).map (Value.int .i64))[j]? = some u → ∃ g' off', some (⟨g, 0, none⟩ : Addr) = some ⟨g', off', none⟩ ∧ X.cell? ⟨g', off' + j, none⟩ = some u) := fun X _ j u h => by rw [List.drop_of_length_le (by omega)] at h; simp at h
    have hdz : ms.length - (i + 1) = 0 := by omega
    rw [hdz] at HDL HM2 HB2 HLL HL
    have jx : (i : Int) ≤ (i : Int) + 1 := by omega
    go_wp2_with fail
    clear p0 p1
    go_region_law (first
      | (go_simp; go_at_call 70; refine (l1Copy_any _ (ms.take i) _ HTL.out HR1.out).mono ?_; rintro e w5 ⟨v5, rfl, own5, hn5, b5⟩; rw [hti] at own5; obtain ⟨o5, c5, rfl⟩ := own_slice own5; have k5 := (b5.block _ (show b < w1.heap.size by have := HKB.out.2.2; omega)).trans HKB.out.1; have T0 := at_cell k5 0; have T1 := at_cell k5 1; have f1 := at_open k5 1; have s5 := b5.size; dsimp only)
      | (refine step_append_readsV rfl (.tmp 35) (.tmp 42) 24 rfl w1.heap.size 2 i0 (.int .i64 0) 1 8 Try.underlying24 hi0 hz0 hz1 hz2 rfl (by decide) (.slice o5 i c5) i ((ms.take i).map (Value.int .i64)) ?e1 own5 (some ⟨g, 0, none⟩) 0 0 ((ms.drop (i + 1)).map (Value.int .i64)) ?e2 HDL.out (HS2.out _ b5) (ints_one _) HM2.out HB2.out ?hbase ?_
         case e1 => first | rfl | simp [Act.eval]
         case e2 => first | rfl | (simp [Act.eval] <;> omega)
         case hbase => show w1.heap.size ≤ w5.heap.size; exact s5
         intro v6 w6 own6 grow6 nil6
         rw [← HL.out] at own6
         obtain ⟨o6, c6, rfl⟩ := own_slice own6
         have b6 : Below w1.heap.size w1.drew w6 := b5.grown grow6 s5 (fun z hz => (own5.lt z hz).1)
         have k6 := (b6.block b (show b < w1.heap.size by have := HKB.out.2.2; omega)).trans HKB.out.1
         have q0 := at_cell k6 0
         have q1 := at_cell k6 1
         have q2 := at_open k6 1
         have q3 := at_open k6 0))
    all_goals
      have hbl := HKB.out.2.2
      have own7 : w6.ownsRow w1.heap.size 2 1 (.slice o6 L c6) (lessV ms i).length ((lessV ms i).map (Value.int .i64)) := by rw [HLE.out, HLL.out, ← HL.out]; exact own6
      have hn6 : Value.slice o6 L c6 ≠ .slice none 0 0 := fun q => hn5 (nil6.1 q).1
      have k7 := set_1 k6 (.slice o6 L c6)
      have k8 := set_0 k7 (.int .i64 (n + 1))
      have b6' : Below w1.heap.size w1 w6 := ⟨b6.os, b6.tape, b6.output, b6.size, b6.block⟩
      have hu : Upto b w1 ((w6.setCell ⟨b, 1, none⟩ (.slice o6 L c6)).setCell ⟨b, 0, none⟩ (.int .i64 (n + 1))) := ((Upto.ofBelow (c := b) b6').setCell ⟨b, 1, none⟩ (.inl rfl) _).setCell ⟨b, 0, none⟩ (.inl rfl) _
      have HO : Hid _ := owns_mono (ownsRow_upto own7 (((Upto.refl b w6).setCell ⟨b, 1, none⟩ (.inl rfl) (.slice o6 L c6)).setCell ⟨b, 0, none⟩ (.inl rfl) (.int .i64 (n + 1))) (show b < w1.heap.size by omega)) s1
      have HU : Hid _ := (Upto.ofBelow (c := b) HKB.out.2.1).trans hu
      have HE : Hid _ := k8
      have HN : Hid _ := hn6
      have y0 := at_cell k7 0
      have y1 := at_open k7 0
      clear own7 own6 own5 grow6 nil6 b6 b5 k8 k7 k6 hu hn6 HKB HR1 C1 HS2 k5 T0 T1 f1 q0 q1 q2 q3
      go_wp2_with fail
      go_ret
      exact ⟨_, rfl, HE.out, HO.out, HN.out, HU.out⟩
  · have HS2 : Hid (∀ X : World, Below w1.drew.heap.size w1.drew X → ∀ j u, ((ms.drop (i + 1)).map (Value.int .i64))[j]? = some u → ∃ g' off', some (⟨g, i + 1, none⟩ : Addr) = some ⟨g', off', none⟩ ∧ X.cell? ⟨g', off' + j, none⟩ = some u) := fun X bX j u h => by
      have e : (ms.drop (i + 1)).take (ms.length - (i + 1)) = ms.drop (i + 1) := List.take_of_length_le (by rw [List.length_drop]; omega)
      obtain ⟨g', off, e', hg, hc⟩ := cells_part C1.out (i + 1) (ms.length - (i + 1)) (by omega) j u (by rw [e]; exact h)
      exact ⟨g', off, e', (bX.cell (p := ⟨g', off + j, none⟩) (show g' < w1.heap.size by omega)).trans hc⟩
    go_wp2_with fail
    clear p0 p1
    go_region_law (first
      | (go_simp; go_at_call 70; refine (l1Copy_any _ (ms.take i) _ HTL.out HR1.out).mono ?_; rintro e w5 ⟨v5, rfl, own5, hn5, b5⟩; rw [hti] at own5; obtain ⟨o5, c5, rfl⟩ := own_slice own5; have k5 := (b5.block _ (show b < w1.heap.size by have := HKB.out.2.2; omega)).trans HKB.out.1; have T0 := at_cell k5 0; have T1 := at_cell k5 1; have f1 := at_open k5 1; have s5 := b5.size; dsimp only)
      | (refine step_append_readsV rfl (.tmp 35) (.tmp 42) 24 rfl w1.heap.size 2 i0 (.int .i64 0) 1 8 Try.underlying24 hi0 hz0 hz1 hz2 rfl (by decide) (.slice o5 i c5) i ((ms.take i).map (Value.int .i64)) ?e1 own5 (some ⟨g, i + 1, none⟩) (ms.length - (i + 1)) (cp - (i + 1)) ((ms.drop (i + 1)).map (Value.int .i64)) ?e2 HDL.out (HS2.out _ b5) (ints_one _) HM2.out HB2.out ?hbase ?_
         case e1 => first | rfl | simp [Act.eval]
         case e2 => first | rfl | (simp [Act.eval] <;> omega)
         case hbase => show w1.heap.size ≤ w5.heap.size; exact s5
         intro v6 w6 own6 grow6 nil6
         rw [← HL.out] at own6
         obtain ⟨o6, c6, rfl⟩ := own_slice own6
         have b6 : Below w1.heap.size w1.drew w6 := b5.grown grow6 s5 (fun z hz => (own5.lt z hz).1)
         have k6 := (b6.block b (show b < w1.heap.size by have := HKB.out.2.2; omega)).trans HKB.out.1
         have q0 := at_cell k6 0
         have q1 := at_cell k6 1
         have q2 := at_open k6 1
         have q3 := at_open k6 0))
    all_goals
      have hbl := HKB.out.2.2
      have own7 : w6.ownsRow w1.heap.size 2 1 (.slice o6 L c6) (lessV ms i).length ((lessV ms i).map (Value.int .i64)) := by rw [HLE.out, HLL.out, ← HL.out]; exact own6
      have hn6 : Value.slice o6 L c6 ≠ .slice none 0 0 := fun q => hn5 (nil6.1 q).1
      have k7 := set_1 k6 (.slice o6 L c6)
      have k8 := set_0 k7 (.int .i64 (n + 1))
      have b6' : Below w1.heap.size w1 w6 := ⟨b6.os, b6.tape, b6.output, b6.size, b6.block⟩
      have hu : Upto b w1 ((w6.setCell ⟨b, 1, none⟩ (.slice o6 L c6)).setCell ⟨b, 0, none⟩ (.int .i64 (n + 1))) := ((Upto.ofBelow (c := b) b6').setCell ⟨b, 1, none⟩ (.inl rfl) _).setCell ⟨b, 0, none⟩ (.inl rfl) _
      have HO : Hid _ := owns_mono (ownsRow_upto own7 (((Upto.refl b w6).setCell ⟨b, 1, none⟩ (.inl rfl) (.slice o6 L c6)).setCell ⟨b, 0, none⟩ (.inl rfl) (.int .i64 (n + 1))) (show b < w1.heap.size by omega)) s1
      have HU : Hid _ := (Upto.ofBelow (c := b) HKB.out.2.1).trans hu
      have HE : Hid _ := k8
      have HN : Hid _ := hn6
      have y0 := at_cell k7 0
      have y1 := at_open k7 0
      clear own7 own6 own5 grow6 nil6 b6 b5 k8 k7 k6 hu hn6 HKB HR1 C1 HS2 k5 T0 T1 f1 q0 q1 q2 q3
      go_wp2_with fail
      go_ret
      exact ⟨_, rfl, HE.out, HO.out, HN.out, HU.out⟩

end Go.Proofs.Ytijmmenkcemggaa
