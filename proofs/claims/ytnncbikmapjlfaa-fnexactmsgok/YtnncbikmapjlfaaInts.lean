/-
  The laws' helpers on rows of integers: measured, copied into a row of the law's own, alike, marked, held.
-/
import Derived.Test.YtnncbikmapjlfaaTextsS
namespace Go.Proofs.Ytnncbikmapjlfaa
open Go.RowKit
set_option linter.unusedVariables false
set_option maxRecDepth 100000

theorem copied_setI (ps : List Int) (xs : List Value) (j : Nat) (hj : j < ps.length) (hx : xs.length = ps.length) :
    ((ps.take j).map (Value.int .i64) ++ xs.drop j).set j (.int .i64 ps[j]) = (ps.take (j + 1)).map (Value.int .i64) ++ xs.drop (j + 1) := by
  have hl : ((ps.take j).map (Value.int .i64)).length = j := by simp; omega
  rw [List.set_append_right _ _ (by omega), hl, Nat.sub_self, List.drop_eq_getElem_cons (show j < xs.length by omega), List.set_cons_zero, List.take_succ_eq_append_getElem hj, List.map_append, List.append_assoc]
  rfl

/-- make([]int64, n): a row of noughts, at the end of memory. -/
theorem made_ints (n : Nat) (hn : n ≤ 1048576) : ∃ M : Array Value, M.toList = (List.replicate n (0 : Int)).map (Value.int .i64) ∧ (∀ W : World, (Instr.makeSlice 102 (.int .i64 (n : Int)) (.int .i64 (n : Int))).run Try.prog W = .ok (.slice (some ⟨W.heap.size, 0, none⟩) n n) (W.alloc (.cells M 2))) ∧
    ∀ (W : World) (base : Nat), base ≤ W.heap.size → (W.alloc (.cells M 2)).ownsRow base 2 1 (.slice (some ⟨W.heap.size, 0, none⟩) n n) n ((List.replicate n (0 : Int)).map (Value.int .i64)) := by
  obtain ⟨i0, hi, hz0, hz1, hz2⟩ := info_parts Try.infoI64
  have e : (madeCells (Value.int .i64 0).cells n).toList = (List.replicate n (0 : Int)).map (Value.int .i64) := by
    show (madeCells #[.int .i64 0] n).toList = _
    rw [toList_madeCells_one]
    simp
  refine ⟨madeCells (Value.int .i64 0).cells n, e, fun W => ?_, fun W base hb => ?_⟩
  · have h := run_make (P := Try.prog) W 102 2 i0 (.int .i64 0) Try.underlying102 hi hz0 .i64 .i64 (n : Int) (n : Int) (by omega) (by omega) (by rw [hz2]; omega) (by omega)
    rw [hz1, Nat.mul_one, Int.toNat_natCast] at h
    simpa using h
  · have h := World.ownsRow_lit (base := base) (size := 1) (e := 2) W (madeCells (Value.int .i64 0).cells n) n hb (by unfold maxLen; omega) (by rw [size_madeCells]; omega)
    rwa [e] at h

theorem int_ne {x y : Int} (h : (x != y) = true) : x ≠ y := by simpa using h
theorem int_same {x y : Int} (h : (x != y) = false) : x = y := by simpa using h

def marksI (k : Int) (n : Nat) : List Int := (List.range n).map fun i : Nat => k + (i : Int)
theorem marksI_length (k : Int) (n : Nat) : (marksI k n).length = n := by simp [marksI]
theorem marksI_get (k : Int) (n j : Nat) (h : j < n) : ((marksI k n).map (Value.int .i64))[j]? = some (.int .i64 (k + j)) := by simp [marksI, h]
theorem marked_setI (k : Int) (xs : List Value) (j : Nat) (h : j < xs.length) :
    ((marksI k j).map (Value.int .i64) ++ xs.drop j).set j (.int .i64 (k + j)) = (marksI k (j + 1)).map (Value.int .i64) ++ xs.drop (j + 1) := by
  have hl : ((marksI k j).map (Value.int .i64)).length = j := by simp [marksI]
  have hs : (marksI k (j + 1)).map (Value.int .i64) = (marksI k j).map (Value.int .i64) ++ [.int .i64 (k + j)] := by simp [marksI, List.range_succ]
  rw [List.set_append_right _ _ (by omega), hl, Nat.sub_self, List.drop_eq_getElem_cons h, List.set_cons_zero, hs]
  exact (List.append_assoc _ [Value.int .i64 (k + j)] _).symm
theorem marked_allI (k : Int) (xs : List Value) (n : Nat) (h : xs.length = n) : (marksI k n).map (Value.int .i64) ++ xs.drop n = (marksI k n).map (Value.int .i64) := by
  rw [List.drop_of_length_le (by omega)]; simp

end Go.Proofs.Ytnncbikmapjlfaa
