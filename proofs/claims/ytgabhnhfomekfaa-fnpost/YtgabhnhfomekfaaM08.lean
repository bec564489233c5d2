/-
  Contracts and plain laws, one chapter behind the other.
-/
import Derived.Laws.MakeOwn
import Derived.Test.YtgabhnhfomekfaaM06
import Derived.Test.YtgabhnhfomekfaaM07
namespace Go.Proofs.Ytgabhnhfomekfaa
open Go.RowKit

set_option linter.unusedVariables false

set_option maxRecDepth 100000


/-- A slice that is read, each element by its k cells. -/
def ReadsR {α : Type} (k : Nat) (cs : α → List Value) (B : Nat) (w : World) (v : Value) (xs : List α) : Prop :=
  ∃ o cap, v = .slice o xs.length cap ∧ xs.length ≤ maxLen ∧ (∀ i x, xs[i]? = some x → ∃ g off, o = some ⟨g, off, none⟩ ∧ g < B ∧ ∀ j u, (cs x)[j]? = some u → w.cell? ⟨g, off + i * k + j, none⟩ = some u) ∧ xs.length ≤ cap

theorem ReadsR.below {α : Type} {k : Nat} {cs : α → List Value} {B : Nat} {w w' : World} {v : Value} {xs : List α} (h : ReadsR k cs B w v xs) (b : Below B w w') : ReadsR k cs B w' v xs := by
  obtain ⟨o, cap, hv, hm, hc, hr⟩ := h
  refine ⟨o, cap, hv, hm, fun i x hi => ?_, hr⟩
  obtain ⟨g, off, e, hg, hx⟩ := hc i x hi
  exact ⟨g, off, e, hg, fun j u hj => (b.cell (p := ⟨g, off + i * k + j, none⟩) hg).trans (hx j u hj)⟩

theorem ReadsR.mono {α : Type} {k : Nat} {cs : α → List Value} {B B' : Nat} {w : World} {v : Value} {xs : List α} (h : ReadsR k cs B w v xs) (b : B ≤ B') : ReadsR k cs B' w v xs := by
  obtain ⟨o, cap, hv, hm, hc, hr⟩ := h
  refine ⟨o, cap, hv, hm, fun i x hi => ?_, hr⟩
  obtain ⟨g, off, e, hg, hx⟩ := hc i x hi
  exact ⟨g, off, e, Nat.lt_of_lt_of_le hg b, hx⟩

theorem ReadsR.nil {α : Type} (k : Nat) (cs : α → List Value) (B : Nat) (w : World) : ReadsR k cs B w (.slice none 0 0) [] := ⟨Option.none, 0, rfl, Nat.zero_le _, fun j u hj => by simp at hj, Nat.le_refl _⟩

theorem ReadsR.form {α : Type} {k : Nat} {cs : α → List Value} {B : Nat} {w : World} {v : Value} {xs : List α} (h : ReadsR k cs B w v xs) : ∃ o cap, v = .slice o xs.length cap := by
  obtain ⟨o, cap, hv, _⟩ := h
  exact ⟨o, cap, hv⟩

theorem ReadsR.of {α : Type} {k : Nat} {cs : α → List Value} {B : Nat} {W : World} {v : Value} {xs : List α} (h : ReadsR k cs B W v xs) (y : B ≤ W.heap.size) (p : BelowOf W) : ReadsR k cs p.w'.heap.size p.w' v xs := ((h.mono y).below p.h).mono p.h.size

theorem flat_length {α : Type} {k : Nat} {cs : α → List Value} (hk : ∀ x, (cs x).length = k) (xs : List α) : (xs.flatMap cs).length = xs.length * k := by
  induction xs with
  | nil => simp
  | cons x xs ih => rw [List.flatMap_cons, List.length_append, hk, ih, List.length_cons, Nat.add_mul, Nat.one_mul, Nat.add_comm]

theorem flat_get {α : Type} {k : Nat} {cs : α → List Value} (hk : ∀ x, (cs x).length = k) (xs : List α) (i j : Nat) (x : α) (hi : xs[i]? = some x) (hj : j < k) : (xs.flatMap cs)[i * k + j]? = (cs x)[j]? := by
  induction xs generalizing i with
  | nil => simp at hi
  | cons y ys ih =>
    rw [List.flatMap_cons]
    match i, hi with
    | 0, hi =>
      simp at hi
      subst hi
      rw [Nat.zero_mul, Nat.zero_add, List.getElem?_append_left (by rw [hk]; exact hj)]
    | i + 1, hi =>
      rw [List.getElem?_append_right (by rw [hk, Nat.add_mul]; omega), hk, Nat.add_mul, Nat.one_mul, show i * k + k + j - k = i * k + j by omega]
      exact ih i (by simpa using hi)

theorem flat_set {α : Type} {k : Nat} {cs : α → List Value} (hk : ∀ x, (cs x).length = k) (xs : List α) (i j : Nat) (x y : α) (u : Value) (hi : xs[i]? = some x) (hj : j < k) (hy : (cs x).set j u = cs y) : (xs.flatMap cs).set (i * k + j) u = (xs.set i y).flatMap cs := by
  induction xs generalizing i with
  | nil => simp at hi
  | cons z zs ih =>
    rw [List.flatMap_cons]
    match i, hi with
    | 0, hi =>
      simp at hi
      subst hi
      rw [Nat.zero_mul, Nat.zero_add, List.set_append_left _ _ (by rw [hk]; exact hj), hy, List.set_cons_zero, List.flatMap_cons]
    | i + 1, hi =>
      rw [List.set_append_right _ _ (by rw [hk, Nat.add_mul]; omega), hk, Nat.add_mul, Nat.one_mul, show i * k + k + j - k = i * k + j by omega, ih i (by simpa using hi), List.set_cons_succ, List.flatMap_cons]

theorem ReadsR.of_own {α : Type} {k : Nat} {cs : α → List Value} (hk : ∀ x, (cs x).length = k) {w : World} {base : Nat} {e : TypeId} {v : Value} {xs : List α} (h : w.ownsRow base e k v xs.length (xs.flatMap cs)) : ReadsR k cs w.heap.size w v xs := by
  rcases h.2 with ⟨rfl, hn⟩ | ⟨g, cap, cur, rfl, hg, hh, hnc, hcm, hcs, htk⟩
  · have : xs = [] := List.length_eq_zero_iff.1 hn
    subst this
    exact ReadsR.nil _ _ _ _
  · refine ⟨some ⟨g, 0, none⟩, cap, rfl, Nat.le_trans hnc hcm, fun i x hi => ⟨g, 0, rfl, heap_lt hh, fun j u hj => ?_⟩, hnc⟩
    have hi' := (List.getElem?_eq_some_iff.1 hi).1
    have hj' : j < k := by have := (List.getElem?_eq_some_iff.1 hj).1; rw [hk] at this; exact this
    have hlt : i * k + j < xs.length * k := by
      have h1 : (i + 1) * k ≤ xs.length * k := Nat.mul_le_mul_right _ hi'
      rw [Nat.add_mul, Nat.one_mul] at h1
      omega
    rw [Nat.zero_add, h.cellAt (i * k + j) hlt, flat_get hk xs i j x hi hj', hj]

/-- One element's cell is written. -/
theorem own_put {α : Type} {k : Nat} {cs : α → List Value} (hk : ∀ x, (cs x).length = k) {w : World} {base g n cap : Nat} {e : TypeId} {xs : List α} (h : w.ownsRow base e k (.slice (some ⟨g, 0, none⟩) n cap) xs.length (xs.flatMap cs)) (i j : Nat) (x y : α) (u : Value) (hi : xs[i]? = some x) (hj : j < k) (hy : (cs x).set j u = cs y) :
    (w.setCell ⟨g, i * k + j, none⟩ u).ownsRow base e k (.slice (some ⟨g, 0, none⟩) n cap) (xs.set i y).length ((xs.set i y).flatMap cs) := by
  have hn : n = xs.length := by
    rcases h.2 with ⟨h', _⟩ | ⟨g', cap', cur, h', _⟩
    · cases h'
    · simp only [Value.slice.injEq] at h'
      exact h'.2.1
  subst hn
  have := (h.stored (i * k + j) u).1
  rw [flat_set hk xs i j x y u hi hj hy] at this
  rwa [List.length_set]
end Go.Proofs.Ytgabhnhfomekfaa

namespace Go.Proofs.Ytgabhnhfomekfaa
open Go.RowKit

set_option linter.unusedVariables false

set_option maxRecDepth 100000


/-- A run's cells. -/
def runC (r : Int × Int × Int) : List Value := [.int .i64 r.1, .int .i64 r.2.1, .int .i64 r.2.2]
end Go.Proofs.Ytgabhnhfomekfaa

