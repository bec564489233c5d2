/-
  The program's Frames: it goes through its iterator; the texts, in memory of their own, and where they end.
-/
import Derived.RangeFuncNested
import Derived.RangeFuncLeaves
import Derived.RangeFuncBox
import Derived.Shelf.Abstract
import Derived.OwnWalkIn
import Derived.TacticsInMore
import Derived.LoopNIn
import Derived.LoopIn
import Derived.Maps.AppendAt
import Derived.Test.YtbjkbhchcoabcagImFrame2
import Derived.Test.YtbjkbhchcoabcagFrame3
namespace Go.Proofs.Ytbjkbhchcoabcag
open Go.RowKit
set_option linter.unusedVariables false
set_option maxRecDepth 100000

/-- What lies in a cell of the iterator's own lies on. -/
def KeepsCell (b : Nat) (W W' : World) : Prop := ∀ v, W.cell? ⟨b, 0, none⟩ = some v → W'.cell? ⟨b, 0, none⟩ = some v
theorem keepsCell_t {b : Nat} {A B C : World} (h : KeepsCell b A B) (k : KeepsCell b B C) : KeepsCell b A C := fun v hv => k v (h v hv)
theorem keepsCell_b {b : Nat} (W : World) (l : Nat) (o o' : Obj) (h : W.heap[l]? = some o) (ho : o.isCells = false) : KeepsCell b W (W.putObj l o') := by
  intro v hv
  refine cell_kept hv (grownBy_putObj' W l o') ?_
  intro r e
  cases e
  exact ⟨o, h, ho⟩

/-- A frame's text and the place behind it; the text is never all of s. -/
abbrev Step (s : ByteArray) : Type := { x : ByteArray × Int // x.1 ≠ s }
abbrev stepV {s : ByteArray} (x : Step s) : Array Value := #[.string x.1.1, .int .i64 x.1.2]
def textsOf {s : ByteArray} (l : List (Step s)) : List ByteArray := l.map fun x => x.1.1
def lastE {s : ByteArray} (l : List (Step s)) : Int := (l.getLast?.map fun x => x.1.2).getD 0
theorem textsOf_snoc {s : ByteArray} (l : List (Step s)) (x : Step s) : textsOf (l ++ [x]) = textsOf l ++ [x.1.1] := by simp [textsOf]
theorem lastE_snoc {s : ByteArray} (l : List (Step s)) (x : Step s) : lastE (l ++ [x]) = x.1.2 := by simp [lastE]
theorem textsOf_length {s : ByteArray} (l : List (Step s)) : (textsOf l).length = l.length := by simp [textsOf]

theorem frText_ne (s : ByteArray) (q : Nat) (h : ¬ Fr.frEnd s q < 0) : Fr.frText s q ≠ s := by
  intro e
  have hb := Fr.frEnd_bd s q
  obtain ⟨l, post, hl, hL, hT, hE⟩ := Fr.frEnd_has s q (by omega)
  have h1 : (Fr.frText s q).size = l.length := Fr.size_list _ _ hT
  have h2 := congrArg List.length hL
  rw [List.length_append, List.length_append, Fr.fl_length] at h2
  rw [e] at h1
  simp only [Array.length_toList] at h2
  have : s.data.size = s.size := rfl
  omega

theorem cell_lt {W : World} {b : Nat} {v : Value} (h : W.cell? ⟨b, 0, none⟩ = some v) : b < W.heap.size := by
  unfold World.cell? at h
  cases e : W.heap[b]? with
  | none => simp [e] at h
  | some o => exact (Array.getElem?_eq_some_iff.1 e).1

/-- How much of s is still to come, told by the place behind a frame. -/
def aheadI (s : ByteArray) (a : Int) : Nat := if a < 0 then 0 else s.size + 1 - a.toNat
def ahead (s : ByteArray) (v : Value) : Nat := aheadI s (intOf v)
theorem ahead_lt (s : ByteArray) (a b : Int) (h1 : 0 ≤ a) (h2 : a ≤ s.size) (h3 : b < 0 ∨ a < b) : ahead s (.int .i64 b) < ahead s (.int .i64 a) := by
  show aheadI s b < aheadI s a
  unfold aheadI
  rw [if_neg (show ¬ a < 0 by omega)]
  split <;> omega

/-- A row that is longer by a text which isn't s doesn't lie in the box that holds s. -/
theorem row_not_box {W : World} {b base k : Nat} {t : TypeId} {v : Value} {xs : List Value} {s tx : ByteArray} (hb : Boxed W b t (.string s)) (hown : W.ownsRow base t 1 v (k + 1) (xs ++ [.string tx])) (hne : tx ≠ s) : some b ≠ v.ownBlock := by
  rcases hown.2 with ⟨_, h0⟩ | ⟨g, cap, cur, rfl, _, hg, hn, _, hcs, htk⟩
  · omega
  · intro e
    obtain rfl : b = g := by simpa [Value.ownBlock] using e
    have h := (show W.heap[b]? = _ from hb).symm.trans hg
    simp at h
    subst h
    have hl := hown.1
    simp at hl hcs
    obtain rfl : k = 0 := by omega
    obtain rfl : xs = [] := List.eq_nil_of_length_eq_zero (by omega)
    simp at htk
    exact hne htk.symm

theorem boxed_new {w : World} {n : Nat} (h : w.heap.size = n) (t : TypeId) (v : Value) : Boxed (w.alloc (.cells #[v] t)) n t v := by rw [← h]; exact Boxed.new w t v

end Go.Proofs.Ytbjkbhchcoabcag
