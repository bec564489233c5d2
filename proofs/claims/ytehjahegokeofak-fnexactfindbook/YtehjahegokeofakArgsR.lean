/-
  An argument that is a row of runs, opened.
-/
import Derived.Test.YtehjahegokeofakChecked
import Derived.Test.YtehjahegokeofakRuns
import Derived.Test.YtehjahegokeofakMapM
import Derived.Test.YtehjahegokeofakArgs
import Derived.Deep.Slices
import Derived.Deep.Strs
namespace Go.Proofs.Ytehjahegokeofak
open Go.ChangeShapes Go.WideShapes Go.ChangeAt Go.RowKit Go.Deep
set_option linter.unusedVariables false

theorem lit_i64 {a : Int} (h : (Lit.int .i64 a).wf = true) : -9223372036854775808 ≤ a ∧ a ≤ 9223372036854775807 := by simpa [Lit.wf, IntKind.min, IntKind.max, IntKind.signed, IntKind.bits] using h

/-- A row of runs, read out of whatever it lies in. -/
theorem row_runs {H : Type} {enc : TypeId × Value → H} {W : World} {n : Nat} {v : Value} {y : DataW H × List MemPlace} (h : DataW.trod enc Try.prog W 0 (fun _ => true) true n 49 [v] = some y) :
    ∃ xs : List (Int × Int × Int), ReadsR 3 runC W.heap.size W v xs ∧ FitRuns xs := by
  rcases open_slice Try.underlying49 h with ⟨hcs, _⟩ | ⟨a, len, cap, m, k, D, Pl, hcs, _, hl, hm, hmm, _, hx⟩
  · simp at hcs
    subst hcs
    exact ⟨[], ReadsR.nil _ _ _ _, fun r hr => by cases hr⟩
  · simp at hcs
    subst hcs
    have hlm : len ≤ m := by rw [hmm]; split <;> omega
    have ce : Try.prog.cellsOf 82 = 3 := by kernel_rfl
    have c1 : Try.prog.cellsOf 2 = 1 := by kernel_rfl
    have each : ∀ i, i < len → ∃ r : Int × Int × Int, (∀ j u, (runC r)[j]? = some u → W.cell? (a.add (i * 3 + j)) = some u) ∧ I64 r.1 ∧ I64 r.2.1 ∧ I64 r.2.2 := by
      intro i hi
      obtain ⟨cs', h1, h2⟩ := hx i (by omega)
      rw [ce] at h1
      obtain ⟨_, hlen, hcell⟩ := World.cells?_some h1
      obtain ⟨y0, y1, y2, n', _, _, t0, t1, t2⟩ := trod_struct3 Try.underlying82 h2
      match cs', hlen with
      | [v0, v1, v2], _ =>
        simp [c1] at t0 t1 t2
        obtain ⟨f, e0, _, z0⟩ := DataW.trod_int Try.underlying2 t0
        obtain ⟨c, e1, _, z1⟩ := DataW.trod_int Try.underlying2 t1
        obtain ⟨p, e2, _, z2⟩ := DataW.trod_int Try.underlying2 t2
        simp at e0 e1 e2
        subst e0 e1 e2
        refine ⟨(f, c, p), fun j u hj => ?_, lit_i64 z0, lit_i64 z1, lit_i64 z2⟩
        have hj3 : j < 3 := by have := (List.getElem?_eq_some_iff.1 hj).1; rwa [runC_len] at this
        have q := hcell j hj3
        rw [add_add] at q
        rw [q]
        exact hj
    obtain ⟨r, hr⟩ := choose_lt each
    have hfit : FitRuns ((List.range len).map r) := fun x hx => by
      obtain ⟨i, hi, rfl⟩ := List.mem_map.1 hx
      exact (hr i (List.mem_range.1 hi)).2
    refine ⟨(List.range len).map r, ⟨some a, cap, by simp, by simp; omega, fun i x hi => ?_, by simp; omega⟩, hfit⟩
    have hil : i < len := by have := (List.getElem?_eq_some_iff.1 hi).1; simpa using this
    have ex : r i = x := by
      rw [List.getElem?_map, List.getElem?_range hil] at hi
      simpa using hi
    have h0 := (hr i hil).1
    rw [ex] at h0
    obtain ⟨b, off, spot⟩ := a
    have hspot : spot = none := by simpa [Addr.add] using World.cell?_spot ((hr 0 (by omega)).1 0 _ rfl)
    subst hspot
    have e : ∀ z, (⟨b, off, none⟩ : Addr).add z = ⟨b, off + z, none⟩ := fun z => by unfold Addr.add; split <;> simp_all
    have hb : b < W.heap.size := by
      have q := h0 0 _ rfl
      rw [e] at q
      rcases Nat.lt_or_ge b W.heap.size with g | g
      · exact g
      · simp [World.cell?, Array.getElem?_eq_none g] at q
    refine ⟨b, off, rfl, hb, fun j u hj => ?_⟩
    have q := h0 j u hj
    rw [e] at q
    rw [Nat.add_assoc]
    exact q

theorem open_runs {H : Type} {enc : TypeId × Value → H} {W : World} {base : Nat} {v : Value} {d : DataW H} {p : List MemPlace} (hv : Value.okWide Try.prog W .any base 49 v) (h : DataW.Trod enc Try.prog W 0 (fun _ => true) true 49 v d p) :
    ∃ xs : List (Int × Int × Int), ReadsR 3 runC W.heap.size W v xs ∧ FitRuns xs := by
  obtain ⟨o, len, cap, rfl⟩ := okWide_slice Try.underlying49 hv
  obtain ⟨n, hn⟩ := h
  exact row_runs (by simpa [Value.cells] using hn)

theorem own_lt {w : World} {base g len cap n k : Nat} {e : TypeId} {xs : List Value} (h : w.ownsRow base e k (.slice (some ⟨g, 0, none⟩) len cap) n xs) : g < w.heap.size := by
  rcases h.2 with ⟨h0, _⟩ | ⟨g', cap', cur, h0, hg, hh, _⟩
  · simp at h0
  · simp at h0
    obtain ⟨rfl, _, _⟩ := h0
    exact heap_lt hh

end Go.Proofs.Ytehjahegokeofak
