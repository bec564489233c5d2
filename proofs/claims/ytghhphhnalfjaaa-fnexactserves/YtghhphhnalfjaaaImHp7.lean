/-
  Chapter 14: container/heap's Remove; the line's indexOf and after.
-/
import Derived.Test.YtghhphhnalfjaaaImHp6
import Derived.Test.YtghhphhnalfjaaaImVo
namespace Go.Proofs.Ytghhphhnalfjaaa
open Go.RowKit
set_option linter.unusedVariables false
set_option maxRecDepth 100000

theorem Hp.same {S T : Nat → Prop} {base : Nat} {w w' : World} {b : Nat} {l : List Mb} (h : Hp S base w b l) (u : Only T w w') (hd : ∀ k, S k → ¬ T k) : Hp S base w' b l := by
  obtain ⟨v, k1, k2, k3⟩ := h.box
  exact ⟨h.inS, v, (u.block b (heap_lt k1) (hd b h.inS)).trans k1, own_only k2 u (fun g hg => hd g (k3 g hg)), k3⟩
theorem takenP_out (l : List Mb) (i n : Nat) (h1 : n + 1 ≤ l.length) (h2 : l.length ≤ n + 1) : removeP l i = (if n = i then l else fixP (swapP l i n) i n).take n := by
  rw [removeP, takenP, show l.length - 1 = n by omega]

/-- How long the line in a box is. -/
def boxLen (w : World) (b : Nat) : Nat := match w.cell? ⟨b, 0, none⟩ with
  | some (.slice _ n _) => n
  | _ => 0
theorem Hp.boxLen {S : Nat → Prop} {base : Nat} {w : World} {b : Nat} {l : List Mb} (h : Hp S base w b l) : boxLen w b = l.length := by
  obtain ⟨v, k1, k2, k3⟩ := h.box
  obtain ⟨o, c, rfl⟩ := own_slice k2
  have := at_cell k1 0
  rw [Go.Proofs.Ytghhphhnalfjaaa.boxLen, this]
  rfl

end Go.Proofs.Ytghhphhnalfjaaa
