/-
  Chapter 14: the program's heap by places: two are told apart, changed for one another; a box that holds the line.
-/
import Derived.Test.YtghhphhnalfjaaaHeapM
import Derived.Test.YtghhphhnalfjaaaRows4
import Derived.Test.YtghhphhnalfjaaaSetAt
import Derived.Test.YtghhphhnalfjaaaBytes
namespace Go.Proofs.Ytghhphhnalfjaaa
open Go.RowKit
set_option linter.unusedVariables false
set_option maxRecDepth 100000

def mbC (x : Mb) : List Value := [.int .i64 x.1, .int .i64 x.2]
theorem mbC_len : ∀ x : Mb, (mbC x).length = 2 := fun _ => rfl
abbrev OwnM (base : Nat) (w : World) (v : Value) (l : List Mb) : Prop := w.ownsRow base 137 2 v l.length (l.flatMap mbC)
theorem mbAt_eq (l : List Mb) (i : Nat) (hi : i < l.length) : l[i] = mbAt l i := by rw [mbAt, List.getD_eq_getElem?_getD, List.getElem?_eq_getElem hi]; rfl
theorem own_two {w : World} {base g n cap : Nat} {xs : List Mb} (h : w.ownsRow base 137 2 (.slice (some ⟨g, 0, none⟩) n cap) xs.length (xs.flatMap mbC)) (i : Nat) (hi : i < xs.length) :
    (w.cell? ⟨g, i * 2, none⟩ = some (.int .i64 (mbAt xs i).1) ∧ w.cell? ⟨g, i * 2 + 1, none⟩ = some (.int .i64 (mbAt xs i).2)) ∧ w.frozen? ⟨g, i * 2, none⟩ = false ∧ w.frozen? ⟨g, i * 2 + 1, none⟩ = false := by
  obtain ⟨a0, b0⟩ := own_cell mbC_len h i 0 _ (List.getElem?_eq_getElem hi) (by omega)
  obtain ⟨a1, b1⟩ := own_cell mbC_len h i 1 _ (List.getElem?_eq_getElem hi) (by omega)
  rw [mbAt_eq _ _ hi] at a0 a1
  exact ⟨⟨a0, a1⟩, b0, b1⟩
theorem own_mb {w : World} {base g n cap : Nat} {xs : List Mb} (h : w.ownsRow base 137 2 (.slice (some ⟨g, 0, none⟩) n cap) xs.length (xs.flatMap mbC)) (i : Nat) (hi : i < xs.length) (y : Mb) :
    ((w.setCell ⟨g, i * 2, none⟩ (.int .i64 y.1)).setCell ⟨g, i * 2 + 1, none⟩ (.int .i64 y.2)).ownsRow base 137 2 (.slice (some ⟨g, 0, none⟩) n cap) (xs.set i y).length ((xs.set i y).flatMap mbC) := by
  obtain ⟨x, hx⟩ : ∃ x, xs[i] = x := ⟨_, rfl⟩
  have hxi : xs[i]? = some x := by rw [List.getElem?_eq_getElem hi, hx]
  have h1 := own_put mbC_len h i 0 x (y.1, x.2) (.int .i64 y.1) hxi (by omega) rfl
  have h2 := own_put mbC_len h1 i 1 (y.1, x.2) y (.int .i64 y.2) (by simp [hi]) (by omega) rfl
  rw [List.set_set] at h2
  exact h2
theorem own_form {w : World} {base : Nat} {e : TypeId} {size : Nat} {v : Value} {n : Nat} {xs : List Value} (h : w.ownsRow base e size v n xs) (hn : 0 < n) : ∃ g cap, v = .slice (some ⟨g, 0, none⟩) n cap := by
  obtain ⟨m, rfl⟩ : ∃ m, n = m + 1 := ⟨n - 1, by omega⟩
  exact owns_form h

theorem implLess_any (base : Nat) (v : Value) (l : List Mb) (i j : Nat) (w : World) (own : OwnM base w v l) (hi : i < l.length) (hj : j < l.length) :
    Calls Try.prog 124 #[v, .int .i64 (i : Int), .int .i64 (j : Int)] w fun e w' => e = .returned (.bool (lessP l i j)) ∧ Below w.heap.size w w' := by
  obtain ⟨g, cap, rfl⟩ := own_form own (by omega)
  have lg := (own.lt g rfl).2
  obtain ⟨⟨a0, -⟩, -⟩ := own_two own i hi
  obtain ⟨⟨c0, -⟩, -⟩ := own_two own j hj
  have hne := BelowOf.any w
  have a0' := BelowOf.cell a0 lg
  have c0' := BelowOf.cell c0 lg
  have HV : Hid (lessP l i j = decide ((mbAt l i).1 < (mbAt l j).1)) := rfl
  have i1 : (i : Int) < (l.length : Int) := by omega
  have j1 : (j : Int) < (l.length : Int) := by omega
  generalize (mbAt l i).1 = p at a0' HV
  generalize (mbAt l j).1 = q at c0' HV
  generalize l.length = N at *
  clear a0 c0 own
  go_enter Try.func124, Try.ntmps124
  go_wp2_with fail
  refine wp_region_of (by kernel_rfl) (by kernel_rfl) ?_
  repeat (go_big_quiet_step (rfl))
  refine wpQuiet_nil ?_
  intro w5 hw5
  obtain ⟨⟨wx, cx⟩, hwx⟩ := hw5
  have b5 : Below w.heap.size w w5 := by rw [hwx]; exact cx
  clear hwx cx wx
  go_wp2_with fail
  go_ret
  exact ⟨ret_bool HV.out.symm, b5⟩

end Go.Proofs.Ytghhphhnalfjaaa
