/-
  An argument that is a book, or a row of books, opened.
-/
import Derived.Test.YtehjahegokeofajArgsR
import Derived.Test.YtehjahegokeofajBookM
namespace Go.Proofs.Ytehjahegokeofaj
open Go.ChangeShapes Go.WideShapes Go.ChangeAt Go.RowKit Go.Deep Go.Joins
set_option linter.unusedVariables false

theorem list5 {α : Type} {cs : List α} (h : cs.length = 5) : ∃ c0 c1 c2 c3 c4, cs = [c0, c1, c2, c3, c4] := by
  match cs, h with
  | [c0, c1, c2, c3, c4], _ => exact ⟨c0, c1, c2, c3, c4, rfl⟩

/-- A book's five cells, read out of whatever they lie in. -/
theorem book_cells {H : Type} {enc : TypeId × Value → H} {W : World} {n : Nat} {cs : List Value} {y : DataW H × List MemPlace} (h : DataW.trod enc Try.prog W 0 (fun _ => true) true n 39 cs = some y) :
    ∃ b : Bk, cs = bookC b ∧ ReadsR 3 runC W.heap.size W b.m b.rs ∧ FitRuns b.rs ∧ b.nm.size ≤ maxLen ∧ I64 b.sz ∧ I64 b.ep := by
  have ce : Try.prog.cellsOf 39 = 5 := by kernel_rfl
  have c1 : Try.prog.cellsOf 2 = 1 := by kernel_rfl
  have c2 : Try.prog.cellsOf 9 = 1 := by kernel_rfl
  have c3 : Try.prog.cellsOf 4 = 1 := by kernel_rfl
  have c4 : Try.prog.cellsOf 22 = 1 := by kernel_rfl
  obtain ⟨xs, m, _, -, hl, hlen, hf⟩ := DataW.trod_struct Try.underlying39 h
  obtain ⟨v0, v1, v2, v3, v4, rfl⟩ := list5 (hl.trans ce)
  obtain ⟨y0, y1, y2, y3, y4, rfl⟩ := list5 (show xs.length = 5 from hlen)
  have t0 := hf 0 _ rfl
  have t1 := hf 1 _ rfl
  have t2 := hf 2 _ rfl
  have t3 := hf 3 _ rfl
  have t4 := hf 4 _ rfl
  simp [c1, c2, c3, c4] at t0 t1 t2 t3 t4
  obtain ⟨nm, e0, _, z0⟩ := DataW.trod_string Try.underlying9 t0
  obtain ⟨sz, e1, _, z1⟩ := DataW.trod_int Try.underlying2 t1
  obtain ⟨rs, r2, f2⟩ := row_runs t2
  obtain ⟨fx, e3, _⟩ := DataW.trod_bool Try.underlying4 t3
  obtain ⟨ep, e4, _, z4⟩ := DataW.trod_int Try.underlying2 t4
  simp at e0 e1 e3 e4
  subst e0 e1 e3 e4
  exact ⟨⟨nm, sz, v2, rs, fx, ep⟩, rfl, r2, f2, z0, lit_i64 z1, lit_i64 z4⟩

theorem open_book {H : Type} {enc : TypeId × Value → H} {W : World} {base : Nat} {v : Value} {d : DataW H} {p : List MemPlace} (hv : Value.okWide Try.prog W .any base 39 v) (h : DataW.Trod enc Try.prog W 0 (fun _ => true) true 39 v d p) :
    ∃ (nm : ByteArray) (sz : Int) (m : Value) (rs : List (Int × Int × Int)) (fx : Bool) (ep : Int), v = .agg #[.string nm, .int .i64 sz, m, .bool fx, .int .i64 ep] ∧ ReadsR 3 runC W.heap.size W m rs ∧ FitRuns rs ∧ nm.size ≤ maxLen := by
  obtain ⟨cs, rfl, hsz⟩ := okWide_struct Try.underlying39 hv
  obtain ⟨fuel, hf⟩ := h
  obtain ⟨b, e, hr, hfit, hn, -, -⟩ := book_cells hf
  refine ⟨b.nm, b.sz, b.m, b.rs, b.fx, b.ep, ?_, hr, hfit, hn⟩
  have e2 : cs.toList = bookC b := by simpa [Value.cells] using e
  rw [show cs = (bookC b).toArray by rw [← e2]]
  rfl

end Go.Proofs.Ytehjahegokeofaj
