/-
  Chapter 5: the program's Below and PagesOf, at every argument.
-/
import Derived.Test.YtombgdjklajanaiImMap6
namespace Go.Proofs.Ytombgdjklajanai
open Go.RowKit
set_option linter.unusedVariables false

/-- The first cells of a row are read. -/
theorem reads_first {w : World} {base g n cap s : Nat} {e : TypeId} {L : List Int} (h : w.ownsRow base e 1 (.slice (some ⟨g, 0, none⟩) n cap) n (L.map (Value.int .i64))) (hs : s ≤ n) (hn : n = L.length) : Reads w.heap.size w (.slice (some ⟨g, 0, none⟩) s cap) ((L.take s).map (Value.int .i64)) := by
  have hr := Reads.of_own h
  obtain ⟨o, cap', e1, hm, hc, hroom⟩ := hr
  simp only [Value.slice.injEq] at e1
  obtain ⟨rfl, e2, rfl⟩ := e1
  rw [List.length_map] at e2 hm hroom
  have hl : ((L.take s).map (Value.int .i64)).length = s := by rw [List.length_map, List.length_take]; omega
  refine ⟨some ⟨g, 0, none⟩, cap, by rw [hl], by rw [hl]; omega, fun j u hj => ?_, by rw [hl]; omega⟩
  have hjs : j < s := by have := (List.getElem?_eq_some_iff.1 hj).1; rwa [hl] at this
  refine hc j u ?_
  rw [List.getElem?_map, List.getElem?_take_of_lt hjs] at hj
  rw [List.getElem?_map]
  exact hj

theorem filter_ne (l : List Int) (h : ∀ x ∈ l, -1 ≤ x) : l.filter (fun p => decide (p ≠ -1)) = l.filter (fun p => decide (0 ≤ p)) := by
  apply List.filter_congr
  intro x hx
  have := h x hx
  rw [decide_eq_decide]
  omega
theorem pages_mem (rs : List (Int × Int × Int)) (h : mapOk rs = true) : ∀ x ∈ pages rs, -1 ≤ x := fun x hx => by
  obtain ⟨j, hj, rfl⟩ := List.getElem_of_mem hx
  have := (pages_range rs h j (by rw [pages_length] at hj; exact hj)).1
  rwa [List.getD_eq_getElem?_getD, List.getElem?_eq_getElem hj] at this

end Go.Proofs.Ytombgdjklajanai
