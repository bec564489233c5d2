/-
  The laws' helpers on runs and rows of runs: copied, alike, marked, held.
-/
import Derived.Test.YtchlkdhnjejgnaaRows4
import Derived.Test.YtchlkdhnjejgnaaTexts
import Derived.Test.YtchlkdhnjejgnaaBytes
import Derived.Laws.MakeOwn
namespace Go.Proofs.Ytchlkdhnjejgnaa
open Go.RowKit
set_option linter.unusedVariables false
set_option maxRecDepth 100000

/-- A run's cells. -/
def runC (r : Int × Int × Int) : List Value := [.int .i64 r.1, .int .i64 r.2.1, .int .i64 r.2.2]
theorem runC_len (r : Int × Int × Int) : (runC r).length = 3 := rfl

theorem Try.infoRun : (Try.prog.info? 102).map (fun i => (i.zero, i.size, i.bytes)) = some (some (.agg #[.int .i64 0, .int .i64 0, .int .i64 0]), 3, 24) := by kernel_rfl

theorem three_cells {B : Nat} {w : World} {o : Option Addr} {rs : List (Int × Int × Int)} (hc : ∀ i x, rs[i]? = some x → ∃ g off, o = some ⟨g, off, none⟩ ∧ g < B ∧ ∀ j u, (runC x)[j]? = some u → w.cell? ⟨g, off + i * 3 + j, none⟩ = some u) (i : Nat) (hi : i < rs.length) :
    ∃ g off, o = some ⟨g, off, none⟩ ∧ g < B ∧ w.cell? ⟨g, off + i * 3, none⟩ = some (.int .i64 rs[i].1) ∧ w.cell? ⟨g, off + i * 3 + 1, none⟩ = some (.int .i64 rs[i].2.1) ∧ w.cell? ⟨g, off + i * 3 + 2, none⟩ = some (.int .i64 rs[i].2.2) := by
  obtain ⟨g, off, e, hg, hx⟩ := hc i rs[i] (List.getElem?_eq_getElem hi)
  exact ⟨g, off, e, hg, hx 0 _ rfl, hx 1 _ rfl, hx 2 _ rfl⟩

/-- make([]impl.Run, n): a row of zero runs, at the end of memory. -/
theorem made_runs (n : Nat) (hn : n ≤ 1048576) : ∃ M : Array Value, (∀ W : World, (Instr.makeSlice 37 (.int .i64 (n : Int)) (.int .i64 (n : Int))).run Try.prog W = .ok (.slice (some ⟨W.heap.size, 0, none⟩) n n) (W.alloc (.cells M 102))) ∧
    ∀ (W : World) (base : Nat), base ≤ W.heap.size → (W.alloc (.cells M 102)).ownsRow base 102 3 (.slice (some ⟨W.heap.size, 0, none⟩) n n) (List.replicate n ((0 : Int), (0 : Int), (0 : Int))).length ((List.replicate n ((0 : Int), (0 : Int), (0 : Int))).flatMap runC) := by
  obtain ⟨i0, hi, hz0, hz1, hz2⟩ := info_parts Try.infoRun
  have e := toList_made (cs := runC) runC_len (by omega) ((0 : Int), (0 : Int), (0 : Int)) (Value.agg #[.int .i64 0, .int .i64 0, .int .i64 0]).cells rfl n
  refine ⟨madeCells (Value.agg #[.int .i64 0, .int .i64 0, .int .i64 0]).cells (n * 3), fun W => ?_, fun W base hb => ?_⟩
  · have h := run_make (P := Try.prog) W 37 102 i0 (.agg #[.int .i64 0, .int .i64 0, .int .i64 0]) Try.underlying37 hi hz0 .i64 .i64 (n : Int) (n : Int) (by omega) (by omega) (by rw [hz2]; omega) (by omega)
    rw [hz1, Int.toNat_natCast] at h
    simpa using h
  · have h := World.ownsRow_lit (base := base) (size := 3) (e := 102) W (madeCells (Value.agg #[.int .i64 0, .int .i64 0, .int .i64 0]).cells (n * 3)) n hb (by unfold maxLen; omega) (by rw [size_madeCells])
    rw [e] at h
    rwa [List.length_replicate]

/-- A whole run is written. -/
theorem own_run {w : World} {base g n cap : Nat} {xs : List (Int × Int × Int)} (h : w.ownsRow base 102 3 (.slice (some ⟨g, 0, none⟩) n cap) xs.length (xs.flatMap runC)) (i : Nat) (hi : i < xs.length) (f c p : Int) :
    (((w.setCell ⟨g, i * 3, none⟩ (.int .i64 f)).setCell ⟨g, i * 3 + 1, none⟩ (.int .i64 c)).setCell ⟨g, i * 3 + 2, none⟩ (.int .i64 p)).ownsRow base 102 3 (.slice (some ⟨g, 0, none⟩) n cap) (xs.set i (f, c, p)).length ((xs.set i (f, c, p)).flatMap runC) := by
  have h1 := own_put runC_len h i 0 xs[i] (f, xs[i].2.1, xs[i].2.2) (.int .i64 f) (List.getElem?_eq_getElem hi) (by omega) rfl
  have h2 := own_put runC_len h1 i 1 (f, xs[i].2.1, xs[i].2.2) (f, c, xs[i].2.2) (.int .i64 c) (by simp [hi]) (by omega) rfl
  have h3 := own_put runC_len h2 i 2 (f, c, xs[i].2.2) (f, c, p) (.int .i64 p) (by simp [hi]) (by omega) rfl
  rw [List.set_set, List.set_set] at h3
  exact h3
/-- A run's three cells, in a row of one's own. -/
theorem own_three {w : World} {base g n cap : Nat} {xs : List (Int × Int × Int)} (h : w.ownsRow base 102 3 (.slice (some ⟨g, 0, none⟩) n cap) xs.length (xs.flatMap runC)) (i : Nat) (hi : i < xs.length) :
    (w.cell? ⟨g, i * 3, none⟩ = some (.int .i64 xs[i].1) ∧ w.cell? ⟨g, i * 3 + 1, none⟩ = some (.int .i64 xs[i].2.1) ∧ w.cell? ⟨g, i * 3 + 2, none⟩ = some (.int .i64 xs[i].2.2)) ∧ w.frozen? ⟨g, i * 3, none⟩ = false ∧ w.frozen? ⟨g, i * 3 + 1, none⟩ = false ∧ w.frozen? ⟨g, i * 3 + 2, none⟩ = false := by
  obtain ⟨a0, b0⟩ := own_cell runC_len h i 0 _ (List.getElem?_eq_getElem hi) (by omega)
  obtain ⟨a1, b1⟩ := own_cell runC_len h i 1 _ (List.getElem?_eq_getElem hi) (by omega)
  obtain ⟨a2, b2⟩ := own_cell runC_len h i 2 _ (List.getElem?_eq_getElem hi) (by omega)
  exact ⟨⟨a0, a1, a2⟩, b0, b1, b2⟩
theorem set_step {α : Type} (ps zs : List α) (j : Nat) (hj : j < ps.length) (hz : zs.length = ps.length) : (ps.take j ++ zs.drop j).set j ps[j] = ps.take (j + 1) ++ zs.drop (j + 1) := by
  have hl : (ps.take j).length = j := by simp; omega
  rw [List.set_append_right _ _ (by omega), hl, Nat.sub_self, List.drop_eq_getElem_cons (show j < zs.length by omega), List.set_cons_zero, List.take_succ_eq_append_getElem hj, List.append_assoc]
  rfl

def marksR (k : Int) (n : Nat) : List (Int × Int × Int) := (List.range n).map fun i : Nat => (k + 3 * (i : Int), k + 3 * (i : Int) + 1, k + 3 * (i : Int) + 1 + 1)
theorem marksR_length (k : Int) (n : Nat) : (marksR k n).length = n := by simp [marksR]
theorem marksR_get (k : Int) (n j : Nat) (h : j < (marksR k n).length) : (marksR k n)[j] = (k + 3 * (j : Int), k + 3 * (j : Int) + 1, k + 3 * (j : Int) + 1 + 1) := by simp [marksR]
theorem marksR_set (k : Int) (xs : List (Int × Int × Int)) (j : Nat) (h : j < xs.length) : (marksR k j ++ xs.drop j).set j (k + 3 * (j : Int), k + 3 * (j : Int) + 1, k + 3 * (j : Int) + 1 + 1) = marksR k (j + 1) ++ xs.drop (j + 1) := by
  have hl : (marksR k j).length = j := marksR_length k j
  have hs : marksR k (j + 1) = marksR k j ++ [(k + 3 * (j : Int), k + 3 * (j : Int) + 1, k + 3 * (j : Int) + 1 + 1)] := by simp [marksR, List.range_succ]
  rw [List.set_append_right _ _ (by omega), hl, Nat.sub_self, List.drop_eq_getElem_cons h, List.set_cons_zero, hs]
  exact (List.append_assoc _ [_] _).symm

end Go.Proofs.Ytchlkdhnjejgnaa
