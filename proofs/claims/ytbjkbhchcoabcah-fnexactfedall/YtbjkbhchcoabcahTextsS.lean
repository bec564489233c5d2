/-
  The laws' helpers on lists of texts that come in: measured, and copied into a row of the law's own.
-/
import Derived.Test.YtbjkbhchcoabcahTexts
import Derived.Laws.MakeOwn
namespace Go.Proofs.Ytbjkbhchcoabcah
open Go.RowKit
set_option linter.unusedVariables false
set_option maxRecDepth 100000

set_option maxHeartbeats 1600000 in
/-- What is left is told, or -1; where it is told, no text and not their number was more. -/
theorem szTexts_any (v : Value) (ps : List ByteArray) (left : Int) (w : World) (h0 : 0 ≤ left) (hl : left ≤ 1048576) (hz : ∀ p ∈ ps, p.size ≤ maxLen) (hp : Reads w.heap.size w v (ps.map Value.string)) :
    Calls Try.prog 21 #[v, .int .i64 left] w fun e w' => ∃ q : Int, e = .returned (.int .i64 q) ∧ (q = -1 ∨ (0 ≤ q ∧ q ≤ left ∧ ps.length ≤ 1048576 ∧ ∀ p ∈ ps, p.size ≤ 1048576)) ∧ w' = w := by
  obtain ⟨o, cap, rfl, hm, hcells, -⟩ := hp
  have HC : Hid (∀ j u, (ps.map Value.string)[j]? = some u → ∃ g off, o = some ⟨g, off, none⟩ ∧ g < w.heap.size ∧ w.cell? ⟨g, off + j, none⟩ = some u) := hcells
  have HZ : Hid (∀ p ∈ ps, p.size ≤ maxLen) := hz
  have hlen : (ps.map Value.string).length = ps.length := by simp
  rw [hlen] at hm ⊢
  unfold maxLen at hm
  clear hcells hlen hz
  by_cases hbig : left < (ps.length : Int)
  · have h1 : left - (ps.length : Int) < 0 := by omega
    go_enter Try.func21, Try.ntmps21
    go_wp2_with fail
    go_ret
    exact ⟨-1, rfl, .inl rfl, rfl⟩
  · have h1 : 0 ≤ left - (ps.length : Int) := by omega
    go_enter Try.func21, Try.ntmps21
    go_wp2_with fail
    go_loopw [1, 5] (fun q i wr => ∃ (j : Nat) (m : Int), j ≤ ps.length ∧ i = .int .i64 j ∧ q = .int .i64 m ∧ 0 ≤ m ∧ m ≤ left ∧ (∀ p ∈ ps.take j, p.size ≤ 1048576) ∧ wr = w) (fun _ i _ => ps.length - (intOf i).toNat)
    case atStart => exact ⟨0, left - ps.length, Nat.zero_le _, rfl, rfl, h1, by omega, by simp, rfl⟩
    case round =>
      obtain ⟨j, m, hj, rfl, rfl, hm0, hm1, hall, rfl⟩ := hrel
      have HALL : Hid (∀ p ∈ ps.take j, p.size ≤ 1048576) := hall
      clear hall
      by_cases hlt : j < ps.length
      · obtain ⟨g, off, rfl, hg, hx⟩ := HC.out j (.string ps[j]) (by simp [hlt])
        have hz := HZ.out ps[j] (List.getElem_mem hlt)
        unfold maxLen at hz
        have htk : ps.take (j + 1) = ps.take j ++ [ps[j]] := List.take_succ_eq_append_getElem hlt
        have HN : Hid (ps[j].size ≤ 1048576 → ∀ p ∈ ps.take (j + 1), p.size ≤ 1048576) := fun hb p hp => by
          rw [htk] at hp
          rcases List.mem_append.1 hp with h | h
          · exact HALL.out p h
          · simp at h; rw [h]; exact hb
        clear htk
        generalize ps[j] = x at hx hz HN
        by_cases hb : m < (x.size : Int)
        · have h2 : m - (x.size : Int) < 0 := by omega
          go_wp2_with fail
          go_ret
          exact ⟨-1, rfl, .inl rfl, rfl⟩
        · have h2 : 0 ≤ m - (x.size : Int) := by omega
          go_wp2_with fail
          go_roundw
          case rel => exact ⟨j + 1, m - x.size, by omega, by go_num, by go_num, h2, by omega, HN.out (by omega), trivial⟩
          case measure => simp [intOf]; omega
      · go_wp2_with fail
        go_ret
        refine ⟨m, rfl, .inr ⟨hm0, hm1, by omega, ?_⟩, rfl⟩
        have := HALL.out
        rw [List.take_of_length_le (by omega)] at this
        exact this

theorem copied_set (ps : List ByteArray) (xs : List Value) (j : Nat) (hj : j < ps.length) (hx : xs.length = ps.length) :
    ((ps.take j).map Value.string ++ xs.drop j).set j (.string ps[j]) = (ps.take (j + 1)).map Value.string ++ xs.drop (j + 1) := by
  have hl : ((ps.take j).map Value.string).length = j := by simp; omega
  rw [List.set_append_right _ _ (by omega), hl, Nat.sub_self, List.drop_eq_getElem_cons (show j < xs.length by omega), List.set_cons_zero, List.take_succ_eq_append_getElem hj, List.map_append, List.append_assoc]
  rfl

set_option maxHeartbeats 1600000 in
theorem toTexts_any (v : Value) (ps : List ByteArray) (w : World) (hn : ps.length ≤ 1048576) (hp : Reads w.heap.size w v (ps.map Value.string)) :
    Calls Try.prog 23 #[v] w fun e w' => ∃ g : Nat, e = .returned (.slice (some ⟨g, 0, none⟩) ps.length ps.length) ∧ w.heap.size ≤ g ∧ w'.ownsRow w.heap.size 9 1 (.slice (some ⟨g, 0, none⟩) ps.length ps.length) ps.length (ps.map Value.string) ∧ Below w.heap.size w w' := by
  obtain ⟨i0, hi, hz0, hz1, hz2⟩ := info_parts Try.infoStr
  obtain ⟨o, cap, rfl, hm, hcells, -⟩ := hp
  have HC : Hid (∀ j u, (ps.map Value.string)[j]? = some u → ∃ g off, o = some ⟨g, off, none⟩ ∧ g < w.heap.size ∧ w.cell? ⟨g, off + j, none⟩ = some u) := hcells
  have hlen : (ps.map Value.string).length = ps.length := by simp
  rw [hlen]
  clear hcells hlen hm
  obtain ⟨M, hM⟩ : ∃ M, M = madeCells (Value.string ByteArray.empty).cells (((ps.length : Nat) : Int).toNat * i0.size) := ⟨_, rfl⟩
  have hMs : M.size = ps.length := by rw [hM, size_madeCells, hz1]; simp
  have hmk : ∀ W : World, (Instr.makeSlice 22 (.int .i64 (ps.length : Int)) (.int .i64 (ps.length : Int))).run Try.prog W = .ok (.slice (some ⟨W.heap.size, 0, none⟩) ps.length ps.length) (W.alloc (.cells M 9)) := fun W => by
    have h := run_make (P := Try.prog) W 22 9 i0 (.string ByteArray.empty) Try.underlying22 hi hz0 .i64 .i64 (ps.length : Int) (ps.length : Int) (by omega) (by omega) (by rw [hz2]; omega) (by omega)
    rw [← hM] at h
    simpa using h
  clear hM
  have own0 : (w.alloc (.cells M 9)).ownsRow w.heap.size 9 1 (.slice (some ⟨w.heap.size, 0, none⟩) ps.length ps.length) ps.length M.toList := World.ownsRow_lit w M ps.length (Nat.le_refl _) (by unfold maxLen; omega) (by omega)
  have bd0 : Below w.heap.size w (w.alloc (.cells M 9)) := (Below.refl _ _).alloc (Nat.le_refl _) _
  have hMl : M.toList.length = ps.length := by rw [Array.length_toList]; exact hMs
  go_enter Try.func23, Try.ntmps23
  go_wp2_with fail
  generalize w.alloc (.cells M 9) = W0 at own0 bd0 ⊢
  generalize M.toList = xs at own0 hMl
  clear hmk hMs
  go_loopw [4] (fun i wr => ∃ j : Nat, j ≤ ps.length ∧ i = .int .i64 j ∧ wr.ownsRow w.heap.size 9 1 (.slice (some ⟨w.heap.size, 0, none⟩) ps.length ps.length) ps.length ((ps.take j).map Value.string ++ xs.drop j) ∧ Below w.heap.size w wr) (fun i _ => ps.length - (intOf i).toNat)
  case atStart => exact ⟨0, Nat.zero_le _, rfl, by simpa using own0, bd0⟩
  case round =>
    obtain ⟨j, hj, rfl, own, hb⟩ := hrel
    by_cases hlt : j < ps.length
    · obtain ⟨g, off, rfl, hg, hx⟩ := HC.out j (.string ps[j]) (by simp [hlt])
      have hx1 : wr.cell? ⟨g, off + j, none⟩ = some (.string ps[j]) := (hb.cell (p := ⟨g, off + j, none⟩) hg).trans hx
      have hc0 := own.cellAt j (by omega)
      have hf := own.frozenAt j
      have hst := (own.stored j (.string ps[j])).1
      rw [copied_set ps xs j hlt hMl] at hst
      obtain ⟨u0, hu0⟩ : ∃ u0, ((ps.take j).map Value.string ++ xs.drop j)[j]? = some u0 := ⟨_, List.getElem?_eq_getElem (by simp; omega)⟩
      have hc : wr.cell? ⟨w.heap.size, j, none⟩ = some u0 := hc0.trans hu0
      have hb2 : Below w.heap.size w (wr.setCell ⟨w.heap.size, j, none⟩ (.string ps[j])) := hb.setCell (p := ⟨w.heap.size, j, none⟩) (Nat.le_refl _) _
      have HST : Hid _ := And.intro hst hb2
      clear hst hb2 hc0 hu0 own hx
      generalize ps[j] = x at hx1 HST
      go_wp2_with fail
      go_roundw
      case rel => exact ⟨j + 1, by omega, by go_num, HST.out.1, HST.out.2⟩
      case measure => simp [intOf]; omega
    · obtain rfl : j = ps.length := by omega
      rw [List.take_length, List.drop_of_length_le (by omega), List.append_nil] at own
      go_wp2_with fail
      go_ret
      exact ⟨w.heap.size, rfl, Nat.le_refl _, own, hb⟩

end Go.Proofs.Ytbjkbhchcoabcah
