/-
  Contracts and plain laws, one chapter behind the other.
-/
import Derived.Test.YtgabhnhfomekfaaM44
namespace Go.Proofs.Ytgabhnhfomekfaa
open Go.RowKit

set_option linter.unusedVariables false

set_option maxRecDepth 100000


theorem posted_true {l m X : List Mg} (h : posted l m = (X, true)) : X = l ++ m := by
  unfold posted at h
  split at h
  · split at h
    · simp only [Prod.mk.injEq] at h
      exact h.1.symm
    · simp at h
  · simp at h

theorem twice_true {l Z : List Mg} {a : Int} (h : twice l a = (Z, true)) : 0 ≤ a ∧ ∃ hk : a.toNat < l.length, Z = l ++ [l[a.toNat]] := by
  unfold twice at h
  split at h
  · split at h
    · rename_i hq
      simp only [Prod.mk.injEq] at h
      refine ⟨hq.1, hq.2.1, ?_⟩
      rw [← h.1, List.getElem?_eq_getElem hq.2.1]
      rfl
    · simp at h
  · simp at h

theorem taken_false {l Y : List Mg} {m : Mg} {a : Int} (h : taken l a = (Y, m, false)) : Y = l ∨ Y = [] := by
  unfold taken at h
  split at h
  · split at h
    · simp at h
    · simp only [Prod.mk.injEq] at h
      exact .inl h.1.symm
  · simp only [Prod.mk.injEq] at h
    exact .inr h.1.symm

theorem taken_true {l Y : List Mg} {m : Mg} {a : Int} (h : taken l a = (Y, m, true)) : 0 ≤ a ∧ ∃ hk : a.toNat < l.length, Y = l.take a.toNat ++ l.drop (a.toNat + 1) ∧ m = l[a.toNat] := by
  unfold taken at h
  split at h
  · split at h
    · rename_i hq
      simp only [Prod.mk.injEq] at h
      refine ⟨hq.1, hq.2, ?_, ?_⟩
      · rw [← h.1]; rfl
      · rw [← h.2.1, List.getElem?_eq_getElem hq.2]
        rfl
    · simp at h
  · simp at h

theorem ReadsR.onto {w : World} {v : Value} {xs : List Mg} (r : ReadsR 15 mgC w.heap.size w v xs) (q : BelowOf w) : ReadsR 15 mgC q.w'.heap.size q.w' v xs := (r.below q.h).mono q.h.size

theorem own_form15 {W : World} {B : Nat} {o : Option Addr} {l : List Mg} {c : Nat} {xs : List Value} (h : W.ownsRow B 38 15 (.slice o l.length c) l.length xs) : (o = none ∧ l.length = 0 ∧ c = 0) ∨ ∃ g, o = some ⟨g, 0, none⟩ := by
  rcases h.2 with ⟨e, _⟩ | ⟨g, c', cur, e, _⟩
  · simp only [Value.slice.injEq] at e
    exact .inl ⟨e.1, e.2.1, e.2.2⟩
  · simp only [Value.slice.injEq] at e
    exact .inr ⟨g, e.1⟩

theorem ReadsR.le15 {B : Nat} {w : World} {o : Option Addr} {n cap : Nat} {l : List Mg} (r : ReadsR 15 mgC B w (.slice o n cap) l) : n = l.length ∧ l.length ≤ cap ∧ l.length ≤ maxLen := by
  obtain ⟨o', cap', e, hm, hc, hcap⟩ := r
  simp only [Value.slice.injEq] at e
  obtain ⟨rfl, rfl, rfl⟩ := e
  exact ⟨rfl, hcap, hm⟩

theorem reads_take15 {B : Nat} {w : World} {o : Option Addr} {n cap : Nat} {l : List Mg} (r : ReadsR 15 mgC B w (.slice o n cap) l) (k : Nat) (hk : k ≤ l.length) : ReadsR 15 mgC B w (.slice o k cap) (l.take k) := by
  obtain ⟨o', cap', e, hm, hc, hcap⟩ := r
  simp only [Value.slice.injEq] at e
  obtain ⟨rfl, rfl, rfl⟩ := e
  refine ⟨o, cap, by rw [List.length_take, Nat.min_eq_left hk], by rw [List.length_take]; omega, fun i x hx => hc i x ?_, by rw [List.length_take]; omega⟩
  rw [List.getElem?_take] at hx
  split at hx
  · exact hx
  · cases hx

theorem reads_drop15 {B : Nat} {w : World} {g off n cap : Nat} {l : List Mg} (r : ReadsR 15 mgC B w (.slice (some ⟨g, off, none⟩) n cap) l) (k : Nat) (hk : k ≤ l.length) : ReadsR 15 mgC B w (.slice (some ⟨g, off + k * 15, none⟩) (n - k) (cap - k)) (l.drop k) := by
  obtain ⟨o', cap', e, hm, hc, hcap⟩ := r
  simp only [Value.slice.injEq] at e
  obtain ⟨rfl, rfl, rfl⟩ := e
  refine ⟨some ⟨g, off + k * 15, none⟩, cap - k, by rw [List.length_drop], by rw [List.length_drop]; omega, fun i x hx => ?_, by rw [List.length_drop]; omega⟩
  rw [List.getElem?_drop] at hx
  obtain ⟨g', off', e, hg, h⟩ := hc _ x hx
  simp only [Option.some.injEq, Addr.mk.injEq] at e
  obtain ⟨rfl, rfl, -⟩ := e
  refine ⟨g, off + k * 15, rfl, hg, fun j u hj => ?_⟩
  have := h j u hj
  rwa [show off + (k + i) * 15 + j = off + k * 15 + i * 15 + j by omega] at this

/-- Nothing more is there: the address doesn't matter. -/
theorem reads_nil15 (B : Nat) (w : World) (o : Option Addr) (cap : Nat) : ReadsR 15 mgC B w (.slice o 0 cap) [] :=
  ⟨o, cap, rfl, by simp, fun i x hx => by simp at hx, Nat.zero_le _⟩
end Go.Proofs.Ytgabhnhfomekfaa

