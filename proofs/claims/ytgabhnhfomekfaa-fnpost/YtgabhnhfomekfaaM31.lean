/-
  Contracts and plain laws, one chapter behind the other.
-/
import Derived.Test.YtgabhnhfomekfaaM30
namespace Go.Proofs.Ytgabhnhfomekfaa
open Go.RowKit

set_option linter.unusedVariables false

set_option maxRecDepth 100000

/-- What is known while the region runs. p: the store; G: what it makes of the world. -/
structure R1 (ops : Array Oper) (p : Nat) (R : Nat → Value → Prop) (a0 : Act) (W : World) (G : World → World) (L : Array Bool) (a : Act) (x : World) : Prop where
  df : a.defers = a0.defers
  sz : a.tmps.size = a0.tmps.size
  old : ∀ s, ops.toList.all (fun o => o.dst != some s) = true → a.tmps.getD s undef = a0.tmps.getD s undef
  rel : ∀ j s, L.getD j false = true → ((ops[j]?).bind (·.dst)) = some s → R j (a.tmps.getD s undef)
  bel : L.getD p false = false → Below W.heap.size W x
  fin : L.getD p false = true → ∃ X, Below W.heap.size W X ∧ x = G X

theorem R1.start (ops : Array Oper) (p : Nat) (R : Nat → Value → Prop) (a0 : Act) (W : World) (G : World → World) : R1 ops p R a0 W G (Array.replicate ops.size false) a0 W.drew := by
  have hn : ∀ j, (Array.replicate ops.size false).getD j false = false := fun j => by
    rw [Array.getD_eq_getD_getElem?, Array.getElem?_replicate]
    split <;> rfl
  exact ⟨rfl, rfl, fun _ _ => rfl, (fun j s h => by rw [hn] at h; cases h), fun _ => bw_drew (Below.refl _ _), (fun h => by rw [hn] at h; cases h)⟩

theorem R1.val {ops : Array Oper} {p : Nat} {R : Nat → Value → Prop} {a0 : Act} {W : World} {G : World → World} {L : Array Bool} {a : Act} {x : World} (h : R1 ops p R a0 W G L a x) (i s : Nat) (v : Value) (x' : World) (hp : i ≠ p) (hi : ((ops[i]?).bind (·.dst)) = some s) (hs : s < a0.tmps.size) (hd : (ops.toList.all (fun o => o.dst != some s)) = false) (hu : uniqB ops s i = true)
    (hb : (L.getD p false = false ∧ Below x.heap.size x x') ∨ x' = x) (hv : R i v) : R1 ops p R a0 W G (L.setIfInBounds i true) (a.put (some s) v) x' := by
  refine ⟨h.df, by show (a.tmps.setIfInBounds s v).size = _; rw [Array.size_setIfInBounds]; exact h.sz, fun r hr => ?_, fun j r hj hr => ?_, fun hl => ?_, fun hl => ?_⟩
  · have hne : s ≠ r := fun e => by subst e; rw [hd] at hr; cases hr
    exact (tmps_other v hne).trans (h.old r hr)
  · show R j ((a.tmps.setIfInBounds s v).getD r undef)
    by_cases e : i = j
    · subst e
      rw [hi] at hr
      cases hr
      rw [tmps_self v (by rw [h.sz]; exact hs)]
      exact hv
    · have hne : s ≠ r := fun e2 => by subst e2; exact e (uniq_of hu j hr).symm
      rw [tmps_other v hne]
      rw [getD_other e] at hj
      exact h.rel j r hj hr
  · rw [getD_other hp] at hl
    rcases hb with ⟨-, hb⟩ | rfl
    · exact bw_call (h.bel hl) hb
    · exact h.bel hl
  · rw [getD_other hp] at hl
    rcases hb with ⟨hb, -⟩ | rfl
    · rw [hb] at hl; cases hl
    · exact h.fin hl

theorem R1.store {ops : Array Oper} {p : Nat} {R : Nat → Value → Prop} {a0 : Act} {W : World} {G : World → World} {L : Array Bool} {a : Act} {x : World} (h : R1 ops p R a0 W G L a x) (hp : p < L.size) (hn : L.getD p false = false) (hd : ((ops[p]?).bind (·.dst)) = none) : R1 ops p R a0 W G (L.setIfInBounds p true) a (G x) := by
  refine ⟨h.df, h.sz, h.old, fun j r hj hr => ?_, fun hl => ?_, fun _ => ⟨x, h.bel hn, rfl⟩⟩
  · by_cases e : p = j
    · subst e; rw [hd] at hr; cases hr
    · rw [getD_other e] at hj
      exact h.rel j r hj hr
  · rw [getD_self hp] at hl; cases hl

theorem R1.frame {ops : Array Oper} {p : Nat} {R : Nat → Value → Prop} {a0 : Act} {W : World} {G : World → World} {L : Array Bool} {a : Act} {x : World} (h : R1 ops p R a0 W G L a x) (S : List Nat) (hS : frameB ops S a0.tmps.size = true) : a = Act.puts a0 (fun s => a.tmps.getD s undef) S := by
  have hd : a.defers = (Act.puts a0 (fun s => a.tmps.getD s undef) S).defers := by rw [puts_defers]; exact h.df
  have ht : a.tmps = (Act.puts a0 (fun s => a.tmps.getD s undef) S).tmps := by
    refine arr_ext (by rw [puts_size]; exact h.sz) (fun r hr => ?_)
    rw [puts_at _ S a0 r (by rw [← h.sz]; exact hr)]
    by_cases hm : r ∈ S
    · rw [if_pos hm]
    · rw [if_neg hm]
      exact h.old r (frame_of hS r (by rw [← h.sz]; exact hr) hm)
  generalize Act.puts a0 (fun s => a.tmps.getD s undef) S = b at hd ht
  cases a
  cases b
  simp only at hd ht
  rw [hd, ht]

theorem op_assign {P : Program} {Q : Exit → Act → World → Prop} {o : Oper} {K : Act → World → Prop} {a : Act} {x : World} (s : Tmp) (ho : o.op = .assign (.tmp s)) (h : K (a.put o.dst (a.tmps.getD s undef)) x) : o.wp P a x K Q := by
  unfold Oper.wp execOp
  simp only [ho]
  exact h
end Go.Proofs.Ytgabhnhfomekfaa

