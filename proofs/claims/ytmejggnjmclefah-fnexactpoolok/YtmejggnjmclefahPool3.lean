/-
  Chapter 4: the specification's TakenPage, Shared, Dropped, at every argument; l4Take and l4Drop at a pool of the call's own.
-/
import Derived.Test.YtmejggnjmclefahPool2
namespace Go.Proofs.Ytmejggnjmclefah
open Go.RowKit
set_option linter.unusedVariables false

theorem map_setI (cs : List Int) (k : Nat) (x : Int) : (cs.map (Value.int .i64)).set k (.int .i64 x) = (cs.set k x).map (Value.int .i64) := by rw [List.map_set]
/-- One cell of each row is written. -/
theorem OwnP.set1 {base : Nat} {w : World} {g1 c1 : Nat} {v2 : Value} {cs ps : List Int} (h : OwnP base w (.slice (some ⟨g1, 0, none⟩) cs.length c1) v2 cs ps) (k : Nat) (x : Int) :
    OwnP base (w.setCell ⟨g1, k, none⟩ (.int .i64 x)) (.slice (some ⟨g1, 0, none⟩) cs.length c1) v2 (cs.set k x) ps := by
  refine ⟨?_, own_only (S := fun b => b = g1) h.p ((Only.refl (fun b => b = g1) _).setCell ⟨g1, k, none⟩ rfl _) (fun g hg e => h.apart g1 rfl (by rw [hg, e])), h.apart⟩
  have := (h.c.stored k (.int .i64 x)).1
  rw [map_setI] at this
  rwa [List.length_set]
theorem OwnP.set2 {base : Nat} {w : World} {g2 c2 : Nat} {v1 : Value} {cs ps : List Int} (h : OwnP base w v1 (.slice (some ⟨g2, 0, none⟩) ps.length c2) cs ps) (k : Nat) (x : Int) :
    OwnP base (w.setCell ⟨g2, k, none⟩ (.int .i64 x)) v1 (.slice (some ⟨g2, 0, none⟩) ps.length c2) cs (ps.set k x) := by
  refine ⟨own_only (S := fun b => b = g2) h.c ((Only.refl (fun b => b = g2) _).setCell ⟨g2, k, none⟩ rfl _) (fun g hg e => h.apart g hg (by rw [e]; rfl)), ?_, h.apart⟩
  have := (h.p.stored k (.int .i64 x)).1
  rw [map_setI] at this
  rwa [List.length_set]
theorem own_form2 {w : World} {base : Nat} {v1 v2 : Value} {cs ps : List Int} (h : OwnP base w v1 v2 cs ps) (hc : 1 ≤ cs.length) (hp : ps.length = cs.length) :
    ∃ g1 c1 g2 c2, v1 = .slice (some ⟨g1, 0, none⟩) cs.length c1 ∧ v2 = .slice (some ⟨g2, 0, none⟩) ps.length c2 ∧ g1 ≠ g2 := by
  rcases h.c.2 with ⟨_, hn⟩ | ⟨g1, c1, cur, rfl, _⟩
  · omega
  rcases h.p.2 with ⟨_, hn⟩ | ⟨g2, c2, cur2, rfl, _⟩
  · omega
  exact ⟨g1, c1, g2, c2, rfl, rfl, fun e => h.apart g1 rfl (by rw [e]; rfl)⟩

theorem pool_endD (w W : World) (u1 u2 x y : Value) (b : Nat) (cs ps : List Int) (hb : w.heap.size ≤ b) (k : W.heap[b]? = some (.cells #[x, y] 47 (0, 0))) (own : OwnP (b + 1) W u1 u2 cs ps) (d : Below w.heap.size w W) :
    (((W.setCell ⟨b, 0, none⟩ u1).setCell ⟨b, 1, none⟩ u2).drew).heap[b]? = some (.cells #[u1, u2] 47 (0, 0)) ∧ OwnP w.heap.size (((W.setCell ⟨b, 0, none⟩ u1).setCell ⟨b, 1, none⟩ u2).drew) u1 u2 cs ps ∧ Below w.heap.size w (((W.setCell ⟨b, 0, none⟩ u1).setCell ⟨b, 1, none⟩ u2).drew) := by
  obtain ⟨h1, h2, h3⟩ := pool_end w W u1 u2 x y b cs ps hb k own d
  exact ⟨h1, h2.below ((Below.refl _ _).drew), bw_drew h3⟩

/-- A call's own pool in a box of its own, written into by a callee: the answer's box stays. -/
theorem own_blocks {base : Nat} {w : World} {v1 v2 : Value} {cs ps : List Int} (h : OwnP base w v1 v2 cs ps) : ∀ i, (v1.ownBlock = some i ∨ v2.ownBlock = some i) → base ≤ i := by
  rintro i (h1 | h1)
  · exact (h.c.lt i h1).1
  · exact (h.p.lt i h1).1

end Go.Proofs.Ytmejggnjmclefah
