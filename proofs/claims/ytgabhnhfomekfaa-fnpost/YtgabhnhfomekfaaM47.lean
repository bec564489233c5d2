/-
  Contracts and plain laws, one chapter behind the other.
-/
import Derived.Test.YtgabhnhfomekfaaM31
namespace Go.Proofs.Ytgabhnhfomekfaa
open Go.RowKit

set_option linter.unusedVariables false

set_option maxRecDepth 100000


/-- One operation waits for the next, and so on. -/
def pathB (md : Region.Mode) (ops : Array Oper) : Nat → List Nat → Bool
  | _, [] => true
  | p, i :: l => depB md ops p i && pathB md ops i l

theorem Down.path {md : Region.Mode} {ops : Array Oper} {L : Array Bool} (h : Down md ops L) : ∀ (l : List Nat) (p : Nat), pathB md ops p l = true → L.getD p false = true → L.getD (l.getLastD p) false = true
  | [], p, _, hp => hp
  | i :: l, p, hl, hp => by
    simp only [pathB, Bool.and_eq_true] at hl
    have := Down.path h l i hl.2 (h p i hp hl.1)
    rw [List.getLastD_cons]
    exact this

theorem Down.no {md : Region.Mode} {ops : Array Oper} {L : Array Bool} (h : Down md ops L) (p : Nat) (l : List Nat) {i : Nat} (hn : L.getD i true = false) (hp : pathB md ops p l = true) (hi : l.getLastD p = i) : L.getD p false = false := by
  rw [Bool.eq_false_iff]
  intro h1
  have h2 := h.path l p hp h1
  rw [hi] at h2
  have h3 := not_done hn
  rw [h2] at h3
  cases h3

/-- p: the store; sB, sV: the slots of its address and of its value. -/
structure RX (ops : Array Oper) (p sB sV : Nat) (R : Nat → Value → World → Prop) (a0 : Act) (W : World) (L : Array Bool) (a : Act) (x X : World) : Prop where
  df : a.defers = a0.defers
  sz : a.tmps.size = a0.tmps.size
  old : ∀ s, ops.toList.all (fun o => o.dst != some s) = true → a.tmps.getD s undef = a0.tmps.getD s undef
  rel : ∀ j s, L.getD j false = true → ((ops[j]?).bind (·.dst)) = some s → R j (a.tmps.getD s undef) X
  bel : Below W.heap.size W X
  pre : L.getD p false = false → x = X
  fin : L.getD p false = true → ∃ n zs, a.tmps.getD sB undef = .pointer (some ⟨n, 0, none⟩) ∧ a.tmps.getD sV undef = .agg zs ∧ x = X.setRow n zs

def RXs (ops : Array Oper) (p sB sV : Nat) (R : Nat → Value → World → Prop) (a0 : Act) (W : World) (L : Array Bool) (a : Act) (x : World) : Prop := ∃ X, RX ops p sB sV R a0 W L a x X

theorem RXs.start (ops : Array Oper) (p sB sV : Nat) (R : Nat → Value → World → Prop) (a0 : Act) (W : World) : RXs ops p sB sV R a0 W (Array.replicate ops.size false) a0 W.drew := by
  have hn : ∀ j, (Array.replicate ops.size false).getD j false = false := fun j => by
    rw [Array.getD_eq_getD_getElem?, Array.getElem?_replicate]
    split <;> rfl
  exact ⟨W.drew, rfl, rfl, fun _ _ => rfl, (fun j s h => by rw [hn] at h; cases h), bw_drew (Below.refl _ _), fun _ => rfl, (fun h => by rw [hn] at h; cases h)⟩

/-- An operation ahead of the store: it answers, and may make memory. -/
theorem RX.val {ops : Array Oper} {p sB sV : Nat} {R : Nat → Value → World → Prop} {a0 : Act} {W : World} {L : Array Bool} {a : Act} {x X : World} (h : RX ops p sB sV R a0 W L a x X) (i s : Nat) (v : Value) (x' : World) (hp : i ≠ p) (hi : ((ops[i]?).bind (·.dst)) = some s) (hs : s < a0.tmps.size) (hd : (ops.toList.all (fun o => o.dst != some s)) = false) (hu : uniqB ops s i = true)
    (hn : L.getD p false = false) (hb : Below x.heap.size x x') (hv : R i v x') (hm : ∀ j u, R j u x → R j u x') : RXs ops p sB sV R a0 W (L.setIfInBounds i true) (a.put (some s) v) x' := by
  obtain rfl := h.pre hn
  refine ⟨x', h.df, by show (a.tmps.setIfInBounds s v).size = _; rw [Array.size_setIfInBounds]; exact h.sz, fun r hr => ?_, fun j r hj hr => ?_, bw_call h.bel hb, fun _ => rfl, fun hl => by rw [getD_other hp, hn] at hl; cases hl⟩
  · have hne : s ≠ r := fun e => by subst e; rw [hd] at hr; cases hr
    exact (tmps_other v hne).trans (h.old r hr)
  · show R j ((a.tmps.setIfInBounds s v).getD r undef) x'
    by_cases e : i = j
    · subst e
      rw [hi] at hr
      cases hr
      rw [tmps_self v (by rw [h.sz]; exact hs)]
      exact hv
    · have hne : s ≠ r := fun e2 => by subst e2; exact e (uniq_of hu j hr).symm
      rw [tmps_other v hne]
      rw [getD_other e] at hj
      exact hm _ _ (h.rel j r hj hr)

/-- An operation that answers and makes nothing, ahead of the store or behind it. -/
theorem RX.put {ops : Array Oper} {p sB sV : Nat} {R : Nat → Value → World → Prop} {a0 : Act} {W : World} {L : Array Bool} {a : Act} {x X : World} (h : RX ops p sB sV R a0 W L a x X) (i s : Nat) (v : Value) (hp : i ≠ p) (hi : ((ops[i]?).bind (·.dst)) = some s) (hs : s < a0.tmps.size) (hd : (ops.toList.all (fun o => o.dst != some s)) = false) (hu : uniqB ops s i = true)
    (hB : s ≠ sB) (hV : s ≠ sV) (hv : R i v X) : RXs ops p sB sV R a0 W (L.setIfInBounds i true) (a.put (some s) v) x := by
  refine ⟨X, h.df, by show (a.tmps.setIfInBounds s v).size = _; rw [Array.size_setIfInBounds]; exact h.sz, fun r hr => ?_, fun j r hj hr => ?_, h.bel, fun hl => h.pre (by rwa [getD_other hp] at hl), fun hl => ?_⟩
  · have hne : s ≠ r := fun e => by subst e; rw [hd] at hr; cases hr
    exact (tmps_other v hne).trans (h.old r hr)
  · show R j ((a.tmps.setIfInBounds s v).getD r undef) X
    by_cases e : i = j
    · subst e
      rw [hi] at hr
      cases hr
      rw [tmps_self v (by rw [h.sz]; exact hs)]
      exact hv
    · have hne : s ≠ r := fun e2 => by subst e2; exact e (uniq_of hu j hr).symm
      rw [tmps_other v hne]
      rw [getD_other e] at hj
      exact h.rel j r hj hr
  · rw [getD_other hp] at hl
    obtain ⟨n, zs, e1, e2, e3⟩ := h.fin hl
    exact ⟨n, zs, (tmps_other v hB).trans e1, (tmps_other v hV).trans e2, e3⟩

theorem RX.store {ops : Array Oper} {p sB sV : Nat} {R : Nat → Value → World → Prop} {a0 : Act} {W : World} {L : Array Bool} {a : Act} {x X : World} (h : RX ops p sB sV R a0 W L a x X) (hp : p < L.size) (hn : L.getD p false = false) (hd : ((ops[p]?).bind (·.dst)) = none) {n : Nat} {zs : Array Value} (hB : a.tmps.getD sB undef = .pointer (some ⟨n, 0, none⟩)) (hV : a.tmps.getD sV undef = .agg zs) : RXs ops p sB sV R a0 W (L.setIfInBounds p true) a (x.setRow n zs) := by
  obtain rfl := h.pre hn
  refine ⟨x, h.df, h.sz, h.old, fun j r hj hr => ?_, h.bel, fun hl => ?_, fun _ => ⟨n, zs, hB, hV, rfl⟩⟩
  · by_cases e : p = j
    · subst e; rw [hd] at hr; cases hr
    · rw [getD_other e] at hj
      exact h.rel j r hj hr
  · rw [getD_self hp] at hl; cases hl

theorem RX.frame {ops : Array Oper} {p sB sV : Nat} {R : Nat → Value → World → Prop} {a0 : Act} {W : World} {L : Array Bool} {a : Act} {x X : World} (h : RX ops p sB sV R a0 W L a x X) (S : List Nat) (hS : frameB ops S a0.tmps.size = true) : a = Act.puts a0 (fun s => a.tmps.getD s undef) S := by
  have hd : a.defers = (Act.puts a0 (fun s => a.tmps.getD s undef) S).defers := by rw [puts_defers]; exact h.df
  have ht : a.tmps = (Act.puts a0 (fun s => a.tmps.getD s undef) S).tmps := by
    refine arr_ext (by rw [puts_size]; exact h.sz) (fun r hr => ?_)
    rw [puts_at _ S a0 r (by rw [← h.sz]; exact hr)]
    by_cases hm : r ∈ S
    · rw [if_pos hm]
    · rw [if_neg hm]
      exact h.old r (frame_of hS r (by rw [← h.sz]; exact hr) hm)
  generalize Act.puts a0 (fun s => a.tmps.getD s undef) S = b at hd ht
  cases a
  cases b
  simp only at hd ht
  rw [hd, ht]
end Go.Proofs.Ytgabhnhfomekfaa

