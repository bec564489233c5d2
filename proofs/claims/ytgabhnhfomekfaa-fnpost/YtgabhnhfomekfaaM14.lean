/-
  Contracts and plain laws, one chapter behind the other.
-/
import Derived.Handy
import Derived.Laws.IdiomStrings
import Derived.Deep.RegionLaw
import Derived.Test.YtgabhnhfomekfaaM01
import Derived.Test.YtgabhnhfomekfaaM02
import Derived.Test.YtgabhnhfomekfaaM03
import Derived.Test.YtgabhnhfomekfaaM06
import Derived.Test.YtgabhnhfomekfaaM07
import Derived.Test.YtgabhnhfomekfaaM10
namespace Go.Proofs.Ytgabhnhfomekfaa
open Nums

set_option linter.unusedVariables false

set_option maxRecDepth 100000


def repOk (c v : Int) : Bool := inB c 0 9 && inB v 0 1000 && (decide (c = 0) || decide (v = 0))

/-- As the program asks: the highest first. -/
theorem repOk_by (c v : Int) : repOk c v = (inB c 0 9 && inB v 0 (if c = 0 then 1000 else 0)) := by
  unfold repOk
  by_cases h : c = 0
  · rw [if_pos h]
    simp [h]
  · rw [if_neg h, Bool.eq_iff_iff]
    simp only [Bool.and_eq_true, inB_iff, Bool.or_eq_true, decide_eq_true_eq]
    omega
end Go.Proofs.Ytgabhnhfomekfaa

namespace Go.Proofs.Ytgabhnhfomekfaa
open Go.RowKit

set_option linter.unusedVariables false

set_option maxRecDepth 100000


theorem specReplyOk_any (c v : Int) (w : World) :
    Calls Try.prog 38 #[.agg #[.int .i64 c, .int .i64 v]] w fun e w' => e = .returned (.bool (repOk c v)) ∧ Below w.heap.size w w' := by
  obtain ⟨W0, hW0, k0, d0, z0⟩ := box1 w #[.int .i64 c, .int .i64 v] 36
  have HW0 : Hid (W0 = _) := hW0
  have p0 := at_cell k0 0
  have p1 := at_cell k0 1
  have HB : Hid (repOk c v = (inB c 0 9 && inB v 0 1000 && (decide (c = 0) || decide (v = 0)))) := rfl
  clear hW0 k0
  go_enter Try.func38, Try.ntmps38
  go_wp2_with fail
  rw [← HW0.out]
  clear HW0
  refine (l1In_any c 0 9 _).mono ?_
  rintro e w' ⟨rfl, rfl⟩
  have HI : Hid (inB c 0 9 = (decide (0 ≤ c) && decide (c ≤ 9))) := rfl
  rw [← HI.out]
  generalize inB c 0 9 = b0 at *
  cases b0
  · go_wp2_with fail
    go_ret
    exact ⟨ret_bool (by rw [HB.out]; rfl), d0⟩
  go_wp2_with fail
  refine (l1In_any v 0 1000 _).mono ?_
  rintro e w' ⟨rfl, rfl⟩
  have HI2 : Hid (inB v 0 1000 = (decide (0 ≤ v) && decide (v ≤ 1000))) := rfl
  rw [← HI2.out]
  generalize inB v 0 1000 = b1 at *
  cases b1
  · go_wp2_with fail
    go_ret
    exact ⟨ret_bool (by rw [HB.out]; rfl), d0⟩
  clear HI HI2
  by_cases h0 : c = 0
  · subst h0
    go_wp2_with fail
    go_ret
    exact ⟨ret_bool (by rw [HB.out]; rfl), d0⟩
  · go_wp2_with fail
    go_ret
    exact ⟨ret_bool (by rw [HB.out, Bool.eq_iff_iff]; simp [h0]), d0⟩
end Go.Proofs.Ytgabhnhfomekfaa

namespace Go.Proofs.Ytgabhnhfomekfaa
open Go.RowKit

set_option linter.unusedVariables false

set_option maxRecDepth 100000

theorem cells_set (w : World) (g a : Nat) (l : List UInt8) (v : UInt8) (ha : a < l.length) (hc : ∀ j u, l[j]? = some u → w.cell? ⟨g, j, none⟩ = some (.int .u8 u.toNat)) :
    ∀ j u, (l.set a v)[j]? = some u → (w.setCell ⟨g, a, none⟩ (.int .u8 v.toNat)).cell? ⟨g, j, none⟩ = some (.int .u8 u.toNat) := by
  intro j u hj
  by_cases e : a = j
  · subst e
    rw [List.getElem?_set_self ha] at hj
    cases hj
    have h0 := hc a _ (List.getElem?_eq_getElem ha)
    simp [go_sem, h0]
  · rw [List.getElem?_set_ne e] at hj
    have h0 := hc j u hj
    simp [go_sem, h0]
end Go.Proofs.Ytgabhnhfomekfaa

namespace Go.Proofs.Ytgabhnhfomekfaa
open Go.RowKit

set_option linter.unusedVariables false

set_option maxRecDepth 100000


/-- The row that is bent: bytes in a block of the call's own. -/
structure Row8 (w : World) (base g : Nat) (l : List UInt8) : Prop where
  lo : base ≤ g
  hi : g < w.heap.size
  cell : ∀ j u, l[j]? = some u → w.cell? ⟨g, j, none⟩ = some (.int .u8 u.toNat)
  free : ∀ j, j < l.length → w.frozen? ⟨g, j, none⟩ = false

theorem Row8.take {w : World} {base g : Nat} {l : List UInt8} (h : Row8 w base g l) (k : Nat) : Row8 w base g (l.take k) :=
  ⟨h.lo, h.hi, fun j x hj => h.cell j x (by rw [List.getElem?_take] at hj; split at hj <;> simp_all), fun j hj => h.free j (by simp at hj; omega)⟩

theorem Row8.set {w : World} {base g k : Nat} {l : List UInt8} (h : Row8 w base g l) (v : UInt8) (hk : k < l.length) : Row8 (w.setCell ⟨g, k, none⟩ (.int .u8 v.toNat)) base g (l.set k v) :=
  ⟨h.lo, by have := h.hi; simpa [go_sem] using this, cells_set w g k l v hk h.cell, fun j hj => by have := h.free j (by simpa using hj); simpa [go_sem] using this⟩

theorem Row8.of_own {w : World} {base g cap n : Nat} {l : List UInt8} (h : w.ownsRow base 5 1 (.slice (some ⟨g, 0, none⟩) n cap) n (l.map fun u => Value.int .u8 u.toNat)) : Row8 w base g l := by
  have hl := h.lt g rfl
  have hn : l.length = n := by simpa using h.1
  refine ⟨hl.1, hl.2, fun j u hj => ?_, fun j hj => h.frozenAt j⟩
  have hj' := (List.getElem?_eq_some_iff.1 hj).1
  rw [h.cellAt j (by omega), List.getElem?_map, hj]
  rfl

def vals (l : List UInt8) : List Value := l.map fun u => Value.int .u8 u.toNat

theorem add_off (g a j : Nat) : (⟨g, a, none⟩ : Addr).add j = ⟨g, a + j, none⟩ := by unfold Addr.add; split <;> simp_all

/-- The cells of a part of the row, in every world that has its block. -/
theorem Row8.part {w W : World} {base g : Nat} {l : List UInt8} (h : Row8 w base g l) (hW : W.heap[g]? = w.heap[g]?) (a n : Nat) : ∀ j u, (vals ((l.drop a).take n))[j]? = some u → W.cell? ((⟨g, a, none⟩ : Addr).add j) = some u := by
  intro j u hj
  rw [add_off]
  simp only [vals, List.getElem?_map, Option.map_eq_some_iff] at hj
  obtain ⟨x, hx, rfl⟩ := hj
  rw [World.cell?_of_block (w := w) (by exact hW)]
  apply h.cell
  rw [List.getElem?_take] at hx
  split at hx
  · rw [List.getElem?_drop] at hx; exact hx
  · cases hx
end Go.Proofs.Ytgabhnhfomekfaa

