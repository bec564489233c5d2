/-
  An argument that is a book, or a row of books, opened.
-/
import Derived.Test.YtehjahegokeofakArgsR
import Derived.Test.YtehjahegokeofakBookM
namespace Go.Proofs.Ytehjahegokeofak
open Go.ChangeShapes Go.WideShapes Go.ChangeAt Go.RowKit Go.Deep Go.Joins
set_option linter.unusedVariables false

theorem list5 {α : Type} {cs : List α} (h : cs.length = 5) : ∃ c0 c1 c2 c3 c4, cs = [c0, c1, c2, c3, c4] := by
  match cs, h with
  | [c0, c1, c2, c3, c4], _ => exact ⟨c0, c1, c2, c3, c4, rfl⟩

/-- A book's five cells, read out of whatever they lie in. -/
theorem book_cells {H : Type} {enc : TypeId × Value → H} {W : World} {n : Nat} {cs : List Value} {y : DataW H × List MemPlace} (h : DataW.trod enc Try.prog W 0 (fun _ => true) true n 51 cs = some y) :
    ∃ b : Bk, cs = bookC b ∧ ReadsR 3 runC W.heap.size W b.m b.rs ∧ FitRuns b.rs ∧ b.nm.size ≤ maxLen ∧ I64 b.sz ∧ I64 b.ep := by
  have ce : Try.prog.cellsOf 51 = 5 := by kernel_rfl
  have c1 : Try.prog.cellsOf 2 = 1 := by kernel_rfl
  have c2 : Try.prog.cellsOf 9 = 1 := by kernel_rfl
  have c3 : Try.prog.cellsOf 4 = 1 := by kernel_rfl
  have c4 : Try.prog.cellsOf 49 = 1 := by kernel_rfl
  obtain ⟨xs, m, _, -, hl, hlen, hf⟩ := DataW.trod_struct Try.underlying51 h
  obtain ⟨v0, v1, v2, v3, v4, rfl⟩ := list5 (hl.trans ce)
  obtain ⟨y0, y1, y2, y3, y4, rfl⟩ := list5 (show xs.length = 5 from hlen)
  have t0 := hf 0 _ rfl
  have t1 := hf 1 _ rfl
  have t2 := hf 2 _ rfl
  have t3 := hf 3 _ rfl
  have t4 := hf 4 _ rfl
  simp [c1, c2, c3, c4] at t0 t1 t2 t3 t4
  obtain ⟨nm, e0, _, z0⟩ := DataW.trod_string Try.underlying9 t0
  obtain ⟨sz, e1, _, z1⟩ := DataW.trod_int Try.underlying2 t1
  obtain ⟨rs, r2, f2⟩ := row_runs t2
  obtain ⟨fx, e3, _⟩ := DataW.trod_bool Try.underlying4 t3
  obtain ⟨ep, e4, _, z4⟩ := DataW.trod_int Try.underlying2 t4
  simp at e0 e1 e3 e4
  subst e0 e1 e3 e4
  exact ⟨⟨nm, sz, v2, rs, fx, ep⟩, rfl, r2, f2, z0, lit_i64 z1, lit_i64 z4⟩

theorem open_book {H : Type} {enc : TypeId × Value → H} {W : World} {base : Nat} {v : Value} {d : DataW H} {p : List MemPlace} (hv : Value.okWide Try.prog W .any base 51 v) (h : DataW.Trod enc Try.prog W 0 (fun _ => true) true 51 v d p) :
    ∃ (nm : ByteArray) (sz : Int) (m : Value) (rs : List (Int × Int × Int)) (fx : Bool) (ep : Int), v = .agg #[.string nm, .int .i64 sz, m, .bool fx, .int .i64 ep] ∧ ReadsR 3 runC W.heap.size W m rs ∧ FitRuns rs ∧ nm.size ≤ maxLen := by
  obtain ⟨cs, rfl, hsz⟩ := okWide_struct Try.underlying51 hv
  obtain ⟨fuel, hf⟩ := h
  obtain ⟨b, e, hr, hfit, hn, -, -⟩ := book_cells hf
  refine ⟨b.nm, b.sz, b.m, b.rs, b.fx, b.ep, ?_, hr, hfit, hn⟩
  have e2 : cs.toList = bookC b := by simpa [Value.cells] using e
  rw [show cs = (bookC b).toArray by rw [← e2]]
  rfl

theorem open_books {H : Type} {enc : TypeId × Value → H} {W : World} {base : Nat} {v : Value} {d : DataW H} {p : List MemPlace} (hv : Value.okWide Try.prog W .any base 22 v) (h : DataW.Trod enc Try.prog W 0 (fun _ => true) true 22 v d p) :
    ∃ bs : List Bk, ReadsB W.heap.size W v bs ∧ ∀ b ∈ bs, FitRuns b.rs ∧ b.nm.size ≤ maxLen := by
  obtain ⟨o, len, cap, rfl⟩ := okWide_slice Try.underlying22 hv
  obtain ⟨n, hn⟩ := h
  rcases open_slice Try.underlying22 hn with ⟨hcs, _⟩ | ⟨a, len', cap', m, k, D, Pl, hcs, _, hl, hm, hmm, _, hx⟩
  · simp [Value.cells] at hcs
    obtain ⟨rfl, rfl, rfl⟩ := hcs
    exact ⟨[], ⟨ReadsR.nil _ _ _ _, fun b hb => by cases hb⟩, fun b hb => by cases hb⟩
  · simp [Value.cells] at hcs
    obtain ⟨rfl, rfl, rfl⟩ := hcs
    have hlm : len ≤ m := by rw [hmm]; split <;> omega
    have ce : Try.prog.cellsOf 51 = 5 := by kernel_rfl
    have each : ∀ i, i < len → ∃ b : Bk, (∀ j u, (bookC b)[j]? = some u → W.cell? (a.add (i * 5 + j)) = some u) ∧ ReadsR 3 runC W.heap.size W b.m b.rs ∧ FitRuns b.rs ∧ b.nm.size ≤ maxLen := by
      intro i hi
      obtain ⟨cs', h1, h2⟩ := hx i (by omega)
      rw [ce] at h1
      obtain ⟨_, hlen, hcell⟩ := World.cells?_some h1
      obtain ⟨b, rfl, hr, hfit, hnn, -, -⟩ := book_cells h2
      refine ⟨b, fun j u hj => ?_, hr, hfit, hnn⟩
      have hj5 : j < 5 := by have := (List.getElem?_eq_some_iff.1 hj).1; rwa [bookC_len] at this
      have q := hcell j hj5
      rw [add_add] at q
      rw [q]
      exact hj
    have hin : Inhabited Bk := ⟨⟨ByteArray.empty, 0, .slice none 0 0, [], false, 0⟩⟩
    obtain ⟨r, hr⟩ := choose_lt each
    have hmem : ∀ x ∈ (List.range len).map r, ReadsR 3 runC W.heap.size W x.m x.rs ∧ FitRuns x.rs ∧ x.nm.size ≤ maxLen := fun x hx => by
      obtain ⟨i, hi, rfl⟩ := List.mem_map.1 hx
      exact (hr i (List.mem_range.1 hi)).2
    refine ⟨(List.range len).map r, ⟨⟨some a, cap, by simp, by simp; omega, fun i x hi => ?_, by simp; omega⟩, fun b hb => (hmem b hb).1⟩, fun b hb => (hmem b hb).2⟩
    have hil : i < len := by have := (List.getElem?_eq_some_iff.1 hi).1; simpa using this
    have ex : r i = x := by
      rw [List.getElem?_map, List.getElem?_range hil] at hi
      simpa using hi
    have h0 := (hr i hil).1
    rw [ex] at h0
    obtain ⟨b, off, spot⟩ := a
    have hspot : spot = none := by simpa [Addr.add] using World.cell?_spot ((hr 0 (by omega)).1 0 _ rfl)
    subst hspot
    have e : ∀ z, (⟨b, off, none⟩ : Addr).add z = ⟨b, off + z, none⟩ := fun z => by unfold Addr.add; split <;> simp_all
    have hb : b < W.heap.size := by
      have q := h0 0 _ rfl
      rw [e] at q
      rcases Nat.lt_or_ge b W.heap.size with g | g
      · exact g
      · simp [World.cell?, Array.getElem?_eq_none g] at q
    refine ⟨b, off, rfl, hb, fun j u hj => ?_⟩
    have q := h0 j u hj
    rw [e] at q
    rw [Nat.add_assoc]
    exact q

end Go.Proofs.Ytehjahegokeofak
