/-
  The laws' helpers on a row of books: its size, copied, the same.
-/
import Derived.Test.YtehjahegokeofabBookLaw
namespace Go.Proofs.Ytehjahegokeofab
open Go.RowKit
set_option linter.unusedVariables false

/-- All of a book but where its map lies. -/
def plainB (b : Bk) : ByteArray × Int × List (Int × Int × Int) × Bool × Int := (b.nm, b.sz, b.rs, b.fx, b.ep)
theorem plain_names {bs ms : List Bk} (h : ms.map plainB = bs.map plainB) : ms.map Bk.nm = bs.map Bk.nm := by
  have := congrArg (List.map Prod.fst) h
  simpa [List.map_map, Function.comp_def, plainB] using this
theorem plain_find {bs ms : List Bk} (h : ms.map plainB = bs.map plainB) (n : ByteArray) : findB ms n = findB bs n := by rw [findB, findB, plain_names h]
theorem plain_len {bs ms : List Bk} (h : ms.map plainB = bs.map plainB) : ms.length = bs.length := by simpa using congrArg List.length h
theorem plain_at {bs ms : List Bk} (h : ms.map plainB = bs.map plainB) (k : Nat) (h1 : k < ms.length) (h2 : k < bs.length) : plainB ms[k] = plainB bs[k] := by
  have e : (ms.map plainB)[k]? = (bs.map plainB)[k]? := by rw [h]
  simpa [h1, h2] using e

/-- A book's five cells in a row. -/
theorem five_cells {B : Nat} {w : World} {o : Option Addr} {bs : List Bk} (hc : ∀ i x, bs[i]? = some x → ∃ g off, o = some ⟨g, off, none⟩ ∧ g < B ∧ ∀ j u, (bookC x)[j]? = some u → w.cell? ⟨g, off + i * 5 + j, none⟩ = some u) (i : Nat) (hi : i < bs.length) :
    ∃ g off, o = some ⟨g, off, none⟩ ∧ g < B ∧ w.cell? ⟨g, off + i * 5, none⟩ = some (.string bs[i].nm) ∧ w.cell? ⟨g, off + i * 5 + 1, none⟩ = some (.int .i64 bs[i].sz) ∧ w.cell? ⟨g, off + i * 5 + 2, none⟩ = some bs[i].m ∧ w.cell? ⟨g, off + i * 5 + 3, none⟩ = some (.bool bs[i].fx) ∧ w.cell? ⟨g, off + i * 5 + 4, none⟩ = some (.int .i64 bs[i].ep) := by
  obtain ⟨g, off, e, hg, hx⟩ := hc i bs[i] (List.getElem?_eq_getElem hi)
  exact ⟨g, off, e, hg, hx 0 _ rfl, hx 1 _ rfl, hx 2 _ rfl, hx 3 _ rfl, hx 4 _ rfl⟩

theorem Try.infoBook : (Try.prog.info? 50).map (fun i => (i.zero, i.size, i.bytes)) = some (some (.agg #[.string ByteArray.empty, .int .i64 0, .slice none 0 0, .bool false, .int .i64 0]), 5, 64) := by kernel_rfl

def zeroBk : Bk := ⟨ByteArray.empty, 0, .slice none 0 0, [], false, 0⟩

/-- make([]impl.Book, n): a row of zero books, at the end of memory. -/
theorem made_books (n : Nat) (hn : n ≤ 1048576) : ∃ M : Array Value, (∀ W : World, (Instr.makeSlice 55 (.int .i64 (n : Int)) (.int .i64 (n : Int))).run Try.prog W = .ok (.slice (some ⟨W.heap.size, 0, none⟩) n n) (W.alloc (.cells M 50))) ∧
    ∀ (W : World) (base : Nat), base ≤ W.heap.size → (W.alloc (.cells M 50)).ownsRow base 50 5 (.slice (some ⟨W.heap.size, 0, none⟩) n n) (List.replicate n zeroBk).length ((List.replicate n zeroBk).flatMap bookC) := by
  obtain ⟨i0, hi, hz0, hz1, hz2⟩ := info_parts Try.infoBook
  have e := toList_made (cs := bookC) bookC_len (by omega) zeroBk (Value.agg #[.string ByteArray.empty, .int .i64 0, .slice none 0 0, .bool false, .int .i64 0]).cells rfl n
  refine ⟨madeCells (Value.agg #[.string ByteArray.empty, .int .i64 0, .slice none 0 0, .bool false, .int .i64 0]).cells (n * 5), fun W => ?_, fun W base hb => ?_⟩
  · have h := run_make (P := Try.prog) W 55 50 i0 (.agg #[.string ByteArray.empty, .int .i64 0, .slice none 0 0, .bool false, .int .i64 0]) Try.underlying55 hi hz0 .i64 .i64 (n : Int) (n : Int) (by omega) (by omega) (by rw [hz2]; omega) (by omega)
    rw [hz1, Int.toNat_natCast] at h
    simpa using h
  · have h := World.ownsRow_lit (base := base) (size := 5) (e := 50) W (madeCells (Value.agg #[.string ByteArray.empty, .int .i64 0, .slice none 0 0, .bool false, .int .i64 0]).cells (n * 5)) n hb (by unfold maxLen; omega) (by rw [size_madeCells])
    rw [e] at h
    rwa [List.length_replicate]

/-- A whole book is written. -/
theorem own_book {w : World} {base g n cap : Nat} {xs : List Bk} (h : w.ownsRow base 50 5 (.slice (some ⟨g, 0, none⟩) n cap) xs.length (xs.flatMap bookC)) (i : Nat) (hi : i < xs.length) (y : Bk) :
    (((((w.setCell ⟨g, i * 5, none⟩ (.string y.nm)).setCell ⟨g, i * 5 + 1, none⟩ (.int .i64 y.sz)).setCell ⟨g, i * 5 + 2, none⟩ y.m).setCell ⟨g, i * 5 + 3, none⟩ (.bool y.fx)).setCell ⟨g, i * 5 + 4, none⟩ (.int .i64 y.ep)).ownsRow base 50 5 (.slice (some ⟨g, 0, none⟩) n cap) (xs.set i y).length ((xs.set i y).flatMap bookC) := by
  obtain ⟨x, hx⟩ : ∃ x, xs[i] = x := ⟨_, rfl⟩
  have hxi : xs[i]? = some x := by rw [List.getElem?_eq_getElem hi, hx]
  have h1 := own_put bookC_len h i 0 x ⟨y.nm, x.sz, x.m, x.rs, x.fx, x.ep⟩ (.string y.nm) hxi (by omega) rfl
  have h2 := own_put bookC_len h1 i 1 ⟨y.nm, x.sz, x.m, x.rs, x.fx, x.ep⟩ ⟨y.nm, y.sz, x.m, x.rs, x.fx, x.ep⟩ (.int .i64 y.sz) (by simp [hi]) (by omega) rfl
  have h3 := own_put bookC_len h2 i 2 ⟨y.nm, y.sz, x.m, x.rs, x.fx, x.ep⟩ ⟨y.nm, y.sz, y.m, x.rs, x.fx, x.ep⟩ y.m (by simp [hi]) (by omega) rfl
  have h4 := own_put bookC_len h3 i 3 ⟨y.nm, y.sz, y.m, x.rs, x.fx, x.ep⟩ ⟨y.nm, y.sz, y.m, x.rs, y.fx, x.ep⟩ (.bool y.fx) (by simp [hi]) (by omega) rfl
  have h5 := own_put bookC_len h4 i 4 ⟨y.nm, y.sz, y.m, x.rs, y.fx, x.ep⟩ y (.int .i64 y.ep) (by simp [hi]) (by omega) rfl
  rw [List.set_set, List.set_set, List.set_set, List.set_set] at h5
  exact h5
theorem own_five {w : World} {base g n cap : Nat} {xs : List Bk} (h : w.ownsRow base 50 5 (.slice (some ⟨g, 0, none⟩) n cap) xs.length (xs.flatMap bookC)) (i : Nat) (hi : i < xs.length) :
    (w.cell? ⟨g, i * 5, none⟩ = some (.string xs[i].nm) ∧ w.cell? ⟨g, i * 5 + 1, none⟩ = some (.int .i64 xs[i].sz) ∧ w.cell? ⟨g, i * 5 + 2, none⟩ = some xs[i].m ∧ w.cell? ⟨g, i * 5 + 3, none⟩ = some (.bool xs[i].fx) ∧ w.cell? ⟨g, i * 5 + 4, none⟩ = some (.int .i64 xs[i].ep)) ∧ w.frozen? ⟨g, i * 5, none⟩ = false ∧ w.frozen? ⟨g, i * 5 + 1, none⟩ = false ∧ w.frozen? ⟨g, i * 5 + 2, none⟩ = false ∧ w.frozen? ⟨g, i * 5 + 3, none⟩ = false ∧ w.frozen? ⟨g, i * 5 + 4, none⟩ = false := by
  obtain ⟨a0, b0⟩ := own_cell bookC_len h i 0 _ (List.getElem?_eq_getElem hi) (by omega)
  obtain ⟨a1, b1⟩ := own_cell bookC_len h i 1 _ (List.getElem?_eq_getElem hi) (by omega)
  obtain ⟨a2, b2⟩ := own_cell bookC_len h i 2 _ (List.getElem?_eq_getElem hi) (by omega)
  obtain ⟨a3, b3⟩ := own_cell bookC_len h i 3 _ (List.getElem?_eq_getElem hi) (by omega)
  obtain ⟨a4, b4⟩ := own_cell bookC_len h i 4 _ (List.getElem?_eq_getElem hi) (by omega)
  exact ⟨⟨a0, a1, a2, a3, a4⟩, b0, b1, b2, b3, b4⟩

/-- A row of books of one's own: the row, and each map. -/
structure OwnB (base : Nat) (w : World) (v : Value) (bs : List Bk) : Prop where
  row : w.ownsRow base 50 5 v bs.length (bs.flatMap bookC)
  maps : ∀ b ∈ bs, w.ownsRow base 80 3 b.m b.rs.length (b.rs.flatMap runC)
theorem OwnB.reads {base : Nat} {w : World} {v : Value} {bs : List Bk} (h : OwnB base w v bs) : ReadsB w.heap.size w v bs := ⟨ReadsR.of_own bookC_len h.row, fun b hb => ReadsR.of_own runC_len (h.maps b hb)⟩
theorem OwnB.below {base : Nat} {w w' : World} {v : Value} {bs : List Bk} (h : OwnB base w v bs) (k : Below w.heap.size w w') : OwnB base w' v bs := ⟨owns_below h.row k, fun b hb => owns_below (h.maps b hb) k⟩
theorem OwnB.mono {base base' : Nat} {w : World} {v : Value} {bs : List Bk} (h : OwnB base w v bs) (k : base' ≤ base) : OwnB base' w v bs := ⟨owns_mono h.row k, fun b hb => owns_mono (h.maps b hb) k⟩

end Go.Proofs.Ytehjahegokeofab
