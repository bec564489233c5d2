/-
  Contracts and plain laws, one chapter behind the other.
-/
import Derived.Test.YtibhepekmihagaaGreatDoorRows
import Derived.ChangeSame
import Derived.ChangeVars
import Derived.RowKit
import Derived.RowKitTokens
import Derived.LaidLaws
import Derived.LaidHandle
import Derived.LaidSub
import Derived.Stop.LaidErr
import Derived.Stop.LaidTwo
import Derived.Test.YtibhepekmihagaaGreatDoorM07
namespace Go.Proofs.YtibhepekmihagaaGreatDoor
open Go.ChangeShapes Go.WideShapes Go.RowKit

set_option linter.unusedVariables false


theorem Tryz.lEt : Tryz.prog.globalNamed "errors.errorType" = some 10 := by kernel_rfl

theorem Tryz.lRt : (Tryz.prog.cutTypes.find? (·.1 == "internal/reflectlite.rtype")).map (·.2) = some 244 := by kernel_rfl

theorem Tryz.lSize : Tryz.prog.types.size = 365 := by kernel_rfl

theorem Tryz.lOne : ((List.range 365).filter fun t => Tryz.prog.rowNamed t [101, 114, 114, 111, 114]) = [159] := by kernel_rfl

theorem Tryz.lRow : ∀ u, Tryz.prog.typeName? 3 u = some "*errors.errorString" → u = 333 := typeName_ptr_named (nm := "errors.errorString") (by kernel_rfl) (by kernel_rfl) (by decide)

theorem Tryz.lCells : Tryz.prog.cellsOf 353 = 1 := by kernel_rfl

theorem Tryz.lCellsS : Tryz.prog.cellsOf 9 = 1 := by kernel_rfl

theorem Tryz.lGT : ∀ i ∈ 1 :: (errVars ++ [0]), (Tryz.prog.globals[i]?).map (·.type) = some 159 := by
  intro i hi
  simp only [errVars, List.cons_append, List.nil_append, List.mem_cons, List.mem_nil_iff, or_false] at hi
  rcases hi with rfl | rfl | rfl | rfl | rfl | rfl | rfl | rfl | rfl | rfl | rfl <;> kernel_rfl

theorem Tryz.gerrWrongShelf : Tryz.prog.globalNamed "loop.example/g00372/impl.errWrongShelf" = some 1 := by kernel_rfl

theorem Tryz.gerrWrongOp : Tryz.prog.globalNamed "loop.example/g00372/impl.errWrongOp" = some 2 := by kernel_rfl

theorem Tryz.gerrNoBook : Tryz.prog.globalNamed "loop.example/g00372/impl.errNoBook" = some 3 := by kernel_rfl

theorem Tryz.gerrBookThere : Tryz.prog.globalNamed "loop.example/g00372/impl.errBookThere" = some 4 := by kernel_rfl

theorem Tryz.gerrFenced : Tryz.prog.globalNamed "loop.example/g00372/impl.errFenced" = some 5 := by kernel_rfl

theorem Tryz.gerrFixed : Tryz.prog.globalNamed "loop.example/g00372/impl.errFixed" = some 6 := by kernel_rfl

theorem Tryz.gerrRange : Tryz.prog.globalNamed "loop.example/g00372/impl.errRange" = some 7 := by kernel_rfl

theorem Tryz.gerrManyBooks : Tryz.prog.globalNamed "loop.example/g00372/impl.errManyBooks" = some 8 := by kernel_rfl

theorem Tryz.gerrWorn : Tryz.prog.globalNamed "loop.example/g00372/impl.errWorn" = some 9 := by kernel_rfl

theorem Tryz.gerrNoPage : Tryz.prog.globalNamed "loop.example/g00372/impl.errNoPage" = some 11 := by kernel_rfl

theorem Tryz.gerrCannotBe : Tryz.prog.globalNamed "loop.example/g00372/impl.errCannotBe" = some 0 := by kernel_rfl

def laidTen : List (String × DataW Unit) := [("loop.example/g00372/impl.errWrongShelf", Rows.laid_loop_example_g00372_impl_errWrongShelf), ("loop.example/g00372/impl.errWrongOp", Rows.laid_loop_example_g00372_impl_errWrongOp), ("loop.example/g00372/impl.errNoBook", Rows.laid_loop_example_g00372_impl_errNoBook), ("loop.example/g00372/impl.errBookThere", Rows.laid_loop_example_g00372_impl_errBookThere), ("loop.example/g00372/impl.errFenced", Rows.laid_loop_example_g00372_impl_errFenced), ("loop.example/g00372/impl.errFixed", Rows.laid_loop_example_g00372_impl_errFixed), ("loop.example/g00372/impl.errRange", Rows.laid_loop_example_g00372_impl_errRange), ("loop.example/g00372/impl.errManyBooks", Rows.laid_loop_example_g00372_impl_errManyBooks), ("loop.example/g00372/impl.errWorn", Rows.laid_loop_example_g00372_impl_errWorn), ("loop.example/g00372/impl.errNoPage", Rows.laid_loop_example_g00372_impl_errNoPage), ("loop.example/g00372/impl.errCannotBe", Rows.laid_loop_example_g00372_impl_errCannotBe)]

def laidAll : List (String × DataW Unit) := ("errors.errorType", Rows.laid_errors_errorType) :: laidTen

/-- Two listed errors: their cells, two pointers, whole blocks. -/
theorem two_laid {W : World} {n0 n1 : String} {t0 t1 : List UInt8} {g0 g1 : Nat} (h : laidMet Tryz.prog [(n0, .iface "*errors.errorString" (.ptr (.agg [.lit (.string t0)]))), (n1, .iface "*errors.errorString" (.ptr (.agg [.lit (.string t1)])))] W) (hg0 : Tryz.prog.globalNamed n0 = some g0) (ht0 : (Tryz.prog.globals[g0]?).map (·.type) = some 159) (hg1 : Tryz.prog.globalNamed n1 = some g1) (ht1 : (Tryz.prog.globals[g1]?).map (·.type) = some 159) :
    ∃ (a0 a1 : Addr) (c0 c1 : Array Value) (s0 s1 : TypeId), W.cell? ⟨g0, 0, none⟩ = some (.iface 333 (.pointer (some a0))) ∧ W.cell? ⟨g1, 0, none⟩ = some (.iface 333 (.pointer (some a1))) ∧ a0 ≠ a1 ∧ W.heap[a0.block]? = some (.cells c0 s0 (0, 0)) ∧ W.heap[a1.block]? = some (.cells c1 s1 (0, 0)) := by
  obtain ⟨a0, a1, s0, s1, c0, c1, u0, u1, hv0, hv1, -, -, -, -, -, -, hne, hb0, hb1⟩ := laid_sentinels2 h hg0 ht0 hg1 ht1 Tryz.underlying159 Tryz.lRow Tryz.underlying333 Tryz.underlying353 rfl rfl Tryz.underlying9 Tryz.lCells Tryz.lCellsS
  exact ⟨a0, a1, c0, c1, u0, u1, by simpa using World.var?_cell hg0 hv0 0, by simpa using World.var?_cell hg1 hv1 0, hne, hb0, hb1⟩

/-- The handle of the type 'error'. -/
theorem handle_laid {W : World} {l : List (String × DataW Unit)} (h : handlesMet Tryz.prog (("errors.errorType", Rows.laid_errors_errorType) :: l) W) : W.cell? ⟨10, 0, none⟩ = some (.iface 244 (.agg #[.pointer (some ⟨13, 159, none⟩)])) := by
  obtain ⟨name, u, ty, e1, e2, e3, e4, e5⟩ := h _ (List.mem_cons_self ..)
  have en : name = [101, 114, 114, 111, 114] := (Option.some.inj e1).symm
  subst en
  obtain rfl := Option.some.inj (Tryz.lRt.symm.trans e2)
  have hm : ty ∈ (List.range 365).filter fun t => Tryz.prog.rowNamed t [101, 114, 114, 111, 114] := List.mem_filter.2 ⟨List.mem_range.2 (by rw [← Tryz.lSize]; exact e3), e4⟩
  rw [Tryz.lOne] at hm
  obtain rfl := List.mem_singleton.1 hm
  have hh : typeHandle Tryz.prog 159 = .pointer (some ⟨13, 159, none⟩) := by kernel_rfl
  rw [hh] at e5
  simpa using World.var?_cell Tryz.lEt e5 0

/-- The address that a variable holds. -/
def adOf (W : World) (i : Nat) : Addr := match W.cell? ⟨i, 0, none⟩ with
  | some (.iface _ (.pointer (some a))) => a
  | _ => ⟨0, 0, none⟩

theorem adOf_eq {W : World} {i : Nat} {t : TypeId} {a : Addr} (h : W.cell? ⟨i, 0, none⟩ = some (.iface t (.pointer (some a)))) : adOf W i = a := by rw [adOf, h]

theorem pair_serrWrongOp {W : World} (h : laidMet Tryz.prog laidTen W) : ∃ (a0 a1 : Addr) (c0 c1 : Array Value) (s0 s1 : TypeId), W.cell? ⟨1, 0, none⟩ = some (.iface 333 (.pointer (some a0))) ∧ W.cell? ⟨2, 0, none⟩ = some (.iface 333 (.pointer (some a1))) ∧ a0 ≠ a1 ∧ W.heap[a0.block]? = some (.cells c0 s0 (0, 0)) ∧ W.heap[a1.block]? = some (.cells c1 s1 (0, 0)) := by
  have h2 := laidMet.filter (fun x => x.1 == "loop.example/g00372/impl.errWrongShelf" || x.1 == "loop.example/g00372/impl.errWrongOp") h
  have e : laidTen.filter (fun x => x.1 == "loop.example/g00372/impl.errWrongShelf" || x.1 == "loop.example/g00372/impl.errWrongOp") = [("loop.example/g00372/impl.errWrongShelf", Rows.laid_loop_example_g00372_impl_errWrongShelf), ("loop.example/g00372/impl.errWrongOp", Rows.laid_loop_example_g00372_impl_errWrongOp)] := by simp [laidTen]
  rw [e] at h2
  exact two_laid h2 Tryz.gerrWrongShelf (Tryz.lGT _ (by decide)) Tryz.gerrWrongOp (Tryz.lGT _ (by decide))

theorem pair_serrNoBook {W : World} (h : laidMet Tryz.prog laidTen W) : ∃ (a0 a1 : Addr) (c0 c1 : Array Value) (s0 s1 : TypeId), W.cell? ⟨1, 0, none⟩ = some (.iface 333 (.pointer (some a0))) ∧ W.cell? ⟨3, 0, none⟩ = some (.iface 333 (.pointer (some a1))) ∧ a0 ≠ a1 ∧ W.heap[a0.block]? = some (.cells c0 s0 (0, 0)) ∧ W.heap[a1.block]? = some (.cells c1 s1 (0, 0)) := by
  have h2 := laidMet.filter (fun x => x.1 == "loop.example/g00372/impl.errWrongShelf" || x.1 == "loop.example/g00372/impl.errNoBook") h
  have e : laidTen.filter (fun x => x.1 == "loop.example/g00372/impl.errWrongShelf" || x.1 == "loop.example/g00372/impl.errNoBook") = [("loop.example/g00372/impl.errWrongShelf", Rows.laid_loop_example_g00372_impl_errWrongShelf), ("loop.example/g00372/impl.errNoBook", Rows.laid_loop_example_g00372_impl_errNoBook)] := by simp [laidTen]
  rw [e] at h2
  exact two_laid h2 Tryz.gerrWrongShelf (Tryz.lGT _ (by decide)) Tryz.gerrNoBook (Tryz.lGT _ (by decide))

theorem pair_serrBookThere {W : World} (h : laidMet Tryz.prog laidTen W) : ∃ (a0 a1 : Addr) (c0 c1 : Array Value) (s0 s1 : TypeId), W.cell? ⟨1, 0, none⟩ = some (.iface 333 (.pointer (some a0))) ∧ W.cell? ⟨4, 0, none⟩ = some (.iface 333 (.pointer (some a1))) ∧ a0 ≠ a1 ∧ W.heap[a0.block]? = some (.cells c0 s0 (0, 0)) ∧ W.heap[a1.block]? = some (.cells c1 s1 (0, 0)) := by
  have h2 := laidMet.filter (fun x => x.1 == "loop.example/g00372/impl.errWrongShelf" || x.1 == "loop.example/g00372/impl.errBookThere") h
  have e : laidTen.filter (fun x => x.1 == "loop.example/g00372/impl.errWrongShelf" || x.1 == "loop.example/g00372/impl.errBookThere") = [("loop.example/g00372/impl.errWrongShelf", Rows.laid_loop_example_g00372_impl_errWrongShelf), ("loop.example/g00372/impl.errBookThere", Rows.laid_loop_example_g00372_impl_errBookThere)] := by simp [laidTen]
  rw [e] at h2
  exact two_laid h2 Tryz.gerrWrongShelf (Tryz.lGT _ (by decide)) Tryz.gerrBookThere (Tryz.lGT _ (by decide))

theorem pair_serrFenced {W : World} (h : laidMet Tryz.prog laidTen W) : ∃ (a0 a1 : Addr) (c0 c1 : Array Value) (s0 s1 : TypeId), W.cell? ⟨1, 0, none⟩ = some (.iface 333 (.pointer (some a0))) ∧ W.cell? ⟨5, 0, none⟩ = some (.iface 333 (.pointer (some a1))) ∧ a0 ≠ a1 ∧ W.heap[a0.block]? = some (.cells c0 s0 (0, 0)) ∧ W.heap[a1.block]? = some (.cells c1 s1 (0, 0)) := by
  have h2 := laidMet.filter (fun x => x.1 == "loop.example/g00372/impl.errWrongShelf" || x.1 == "loop.example/g00372/impl.errFenced") h
  have e : laidTen.filter (fun x => x.1 == "loop.example/g00372/impl.errWrongShelf" || x.1 == "loop.example/g00372/impl.errFenced") = [("loop.example/g00372/impl.errWrongShelf", Rows.laid_loop_example_g00372_impl_errWrongShelf), ("loop.example/g00372/impl.errFenced", Rows.laid_loop_example_g00372_impl_errFenced)] := by simp [laidTen]
  rw [e] at h2
  exact two_laid h2 Tryz.gerrWrongShelf (Tryz.lGT _ (by decide)) Tryz.gerrFenced (Tryz.lGT _ (by decide))

theorem pair_serrFixed {W : World} (h : laidMet Tryz.prog laidTen W) : ∃ (a0 a1 : Addr) (c0 c1 : Array Value) (s0 s1 : TypeId), W.cell? ⟨1, 0, none⟩ = some (.iface 333 (.pointer (some a0))) ∧ W.cell? ⟨6, 0, none⟩ = some (.iface 333 (.pointer (some a1))) ∧ a0 ≠ a1 ∧ W.heap[a0.block]? = some (.cells c0 s0 (0, 0)) ∧ W.heap[a1.block]? = some (.cells c1 s1 (0, 0)) := by
  have h2 := laidMet.filter (fun x => x.1 == "loop.example/g00372/impl.errWrongShelf" || x.1 == "loop.example/g00372/impl.errFixed") h
  have e : laidTen.filter (fun x => x.1 == "loop.example/g00372/impl.errWrongShelf" || x.1 == "loop.example/g00372/impl.errFixed") = [("loop.example/g00372/impl.errWrongShelf", Rows.laid_loop_example_g00372_impl_errWrongShelf), ("loop.example/g00372/impl.errFixed", Rows.laid_loop_example_g00372_impl_errFixed)] := by simp [laidTen]
  rw [e] at h2
  exact two_laid h2 Tryz.gerrWrongShelf (Tryz.lGT _ (by decide)) Tryz.gerrFixed (Tryz.lGT _ (by decide))

theorem pair_serrRange {W : World} (h : laidMet Tryz.prog laidTen W) : ∃ (a0 a1 : Addr) (c0 c1 : Array Value) (s0 s1 : TypeId), W.cell? ⟨1, 0, none⟩ = some (.iface 333 (.pointer (some a0))) ∧ W.cell? ⟨7, 0, none⟩ = some (.iface 333 (.pointer (some a1))) ∧ a0 ≠ a1 ∧ W.heap[a0.block]? = some (.cells c0 s0 (0, 0)) ∧ W.heap[a1.block]? = some (.cells c1 s1 (0, 0)) := by
  have h2 := laidMet.filter (fun x => x.1 == "loop.example/g00372/impl.errWrongShelf" || x.1 == "loop.example/g00372/impl.errRange") h
  have e : laidTen.filter (fun x => x.1 == "loop.example/g00372/impl.errWrongShelf" || x.1 == "loop.example/g00372/impl.errRange") = [("loop.example/g00372/impl.errWrongShelf", Rows.laid_loop_example_g00372_impl_errWrongShelf), ("loop.example/g00372/impl.errRange", Rows.laid_loop_example_g00372_impl_errRange)] := by simp [laidTen]
  rw [e] at h2
  exact two_laid h2 Tryz.gerrWrongShelf (Tryz.lGT _ (by decide)) Tryz.gerrRange (Tryz.lGT _ (by decide))

theorem pair_serrManyBooks {W : World} (h : laidMet Tryz.prog laidTen W) : ∃ (a0 a1 : Addr) (c0 c1 : Array Value) (s0 s1 : TypeId), W.cell? ⟨1, 0, none⟩ = some (.iface 333 (.pointer (some a0))) ∧ W.cell? ⟨8, 0, none⟩ = some (.iface 333 (.pointer (some a1))) ∧ a0 ≠ a1 ∧ W.heap[a0.block]? = some (.cells c0 s0 (0, 0)) ∧ W.heap[a1.block]? = some (.cells c1 s1 (0, 0)) := by
  have h2 := laidMet.filter (fun x => x.1 == "loop.example/g00372/impl.errWrongShelf" || x.1 == "loop.example/g00372/impl.errManyBooks") h
  have e : laidTen.filter (fun x => x.1 == "loop.example/g00372/impl.errWrongShelf" || x.1 == "loop.example/g00372/impl.errManyBooks") = [("loop.example/g00372/impl.errWrongShelf", Rows.laid_loop_example_g00372_impl_errWrongShelf), ("loop.example/g00372/impl.errManyBooks", Rows.laid_loop_example_g00372_impl_errManyBooks)] := by simp [laidTen]
  rw [e] at h2
  exact two_laid h2 Tryz.gerrWrongShelf (Tryz.lGT _ (by decide)) Tryz.gerrManyBooks (Tryz.lGT _ (by decide))

theorem pair_serrWorn {W : World} (h : laidMet Tryz.prog laidTen W) : ∃ (a0 a1 : Addr) (c0 c1 : Array Value) (s0 s1 : TypeId), W.cell? ⟨1, 0, none⟩ = some (.iface 333 (.pointer (some a0))) ∧ W.cell? ⟨9, 0, none⟩ = some (.iface 333 (.pointer (some a1))) ∧ a0 ≠ a1 ∧ W.heap[a0.block]? = some (.cells c0 s0 (0, 0)) ∧ W.heap[a1.block]? = some (.cells c1 s1 (0, 0)) := by
  have h2 := laidMet.filter (fun x => x.1 == "loop.example/g00372/impl.errWrongShelf" || x.1 == "loop.example/g00372/impl.errWorn") h
  have e : laidTen.filter (fun x => x.1 == "loop.example/g00372/impl.errWrongShelf" || x.1 == "loop.example/g00372/impl.errWorn") = [("loop.example/g00372/impl.errWrongShelf", Rows.laid_loop_example_g00372_impl_errWrongShelf), ("loop.example/g00372/impl.errWorn", Rows.laid_loop_example_g00372_impl_errWorn)] := by simp [laidTen]
  rw [e] at h2
  exact two_laid h2 Tryz.gerrWrongShelf (Tryz.lGT _ (by decide)) Tryz.gerrWorn (Tryz.lGT _ (by decide))

theorem pair_serrNoPage {W : World} (h : laidMet Tryz.prog laidTen W) : ∃ (a0 a1 : Addr) (c0 c1 : Array Value) (s0 s1 : TypeId), W.cell? ⟨1, 0, none⟩ = some (.iface 333 (.pointer (some a0))) ∧ W.cell? ⟨11, 0, none⟩ = some (.iface 333 (.pointer (some a1))) ∧ a0 ≠ a1 ∧ W.heap[a0.block]? = some (.cells c0 s0 (0, 0)) ∧ W.heap[a1.block]? = some (.cells c1 s1 (0, 0)) := by
  have h2 := laidMet.filter (fun x => x.1 == "loop.example/g00372/impl.errWrongShelf" || x.1 == "loop.example/g00372/impl.errNoPage") h
  have e : laidTen.filter (fun x => x.1 == "loop.example/g00372/impl.errWrongShelf" || x.1 == "loop.example/g00372/impl.errNoPage") = [("loop.example/g00372/impl.errWrongShelf", Rows.laid_loop_example_g00372_impl_errWrongShelf), ("loop.example/g00372/impl.errNoPage", Rows.laid_loop_example_g00372_impl_errNoPage)] := by simp [laidTen]
  rw [e] at h2
  exact two_laid h2 Tryz.gerrWrongShelf (Tryz.lGT _ (by decide)) Tryz.gerrNoPage (Tryz.lGT _ (by decide))

theorem pair_serrCannotBe {W : World} (h : laidMet Tryz.prog laidTen W) : ∃ (a0 a1 : Addr) (c0 c1 : Array Value) (s0 s1 : TypeId), W.cell? ⟨1, 0, none⟩ = some (.iface 333 (.pointer (some a0))) ∧ W.cell? ⟨0, 0, none⟩ = some (.iface 333 (.pointer (some a1))) ∧ a0 ≠ a1 ∧ W.heap[a0.block]? = some (.cells c0 s0 (0, 0)) ∧ W.heap[a1.block]? = some (.cells c1 s1 (0, 0)) := by
  have h2 := laidMet.filter (fun x => x.1 == "loop.example/g00372/impl.errWrongShelf" || x.1 == "loop.example/g00372/impl.errCannotBe") h
  have e : laidTen.filter (fun x => x.1 == "loop.example/g00372/impl.errWrongShelf" || x.1 == "loop.example/g00372/impl.errCannotBe") = [("loop.example/g00372/impl.errWrongShelf", Rows.laid_loop_example_g00372_impl_errWrongShelf), ("loop.example/g00372/impl.errCannotBe", Rows.laid_loop_example_g00372_impl_errCannotBe)] := by simp [laidTen]
  rw [e] at h2
  exact two_laid h2 Tryz.gerrWrongShelf (Tryz.lGT _ (by decide)) Tryz.gerrCannotBe (Tryz.lGT _ (by decide))

theorem vars_ten {W : World} (h : laidMetH Tryz.prog laidAll W) : VarsS W (adOf W) := by
  have h' : laidMet Tryz.prog laidTen W ∧ handlesMet Tryz.prog [("errors.errorType", Rows.laid_errors_errorType)] W := h
  have het := handle_laid h'.2
  obtain ⟨x0, aerrWrongOp, c0, cerrWrongOp, s0, terrWrongOp, k0, kerrWrongOp, nerrWrongOp, b0, berrWrongOp⟩ := pair_serrWrongOp h'.1
  rw [← adOf_eq k0, ← adOf_eq kerrWrongOp] at nerrWrongOp
  clear b0
  obtain ⟨x0, aerrNoBook, c0, cerrNoBook, s0, terrNoBook, k0, kerrNoBook, nerrNoBook, b0, berrNoBook⟩ := pair_serrNoBook h'.1
  rw [← adOf_eq k0, ← adOf_eq kerrNoBook] at nerrNoBook
  clear b0
  obtain ⟨x0, aerrBookThere, c0, cerrBookThere, s0, terrBookThere, k0, kerrBookThere, nerrBookThere, b0, berrBookThere⟩ := pair_serrBookThere h'.1
  rw [← adOf_eq k0, ← adOf_eq kerrBookThere] at nerrBookThere
  clear b0
  obtain ⟨x0, aerrFenced, c0, cerrFenced, s0, terrFenced, k0, kerrFenced, nerrFenced, b0, berrFenced⟩ := pair_serrFenced h'.1
  rw [← adOf_eq k0, ← adOf_eq kerrFenced] at nerrFenced
  clear b0
  obtain ⟨x0, aerrFixed, c0, cerrFixed, s0, terrFixed, k0, kerrFixed, nerrFixed, b0, berrFixed⟩ := pair_serrFixed h'.1
  rw [← adOf_eq k0, ← adOf_eq kerrFixed] at nerrFixed
  clear b0
  obtain ⟨x0, aerrRange, c0, cerrRange, s0, terrRange, k0, kerrRange, nerrRange, b0, berrRange⟩ := pair_serrRange h'.1
  rw [← adOf_eq k0, ← adOf_eq kerrRange] at nerrRange
  clear b0
  obtain ⟨x0, aerrManyBooks, c0, cerrManyBooks, s0, terrManyBooks, k0, kerrManyBooks, nerrManyBooks, b0, berrManyBooks⟩ := pair_serrManyBooks h'.1
  rw [← adOf_eq k0, ← adOf_eq kerrManyBooks] at nerrManyBooks
  clear b0
  obtain ⟨x0, aerrWorn, c0, cerrWorn, s0, terrWorn, k0, kerrWorn, nerrWorn, b0, berrWorn⟩ := pair_serrWorn h'.1
  rw [← adOf_eq k0, ← adOf_eq kerrWorn] at nerrWorn
  clear b0
  obtain ⟨x0, aerrNoPage, c0, cerrNoPage, s0, terrNoPage, k0, kerrNoPage, nerrNoPage, b0, berrNoPage⟩ := pair_serrNoPage h'.1
  rw [← adOf_eq k0, ← adOf_eq kerrNoPage] at nerrNoPage
  refine ⟨⟨?_, het, ?_⟩, by rw [adOf_eq k0]; exact k0, ?_, ⟨c0, s0, by rw [adOf_eq k0]; exact b0⟩⟩
  · intro i hi
    simp only [errVars, List.mem_cons, List.mem_nil_iff, or_false] at hi
    rcases hi with rfl | rfl | rfl | rfl | rfl | rfl | rfl | rfl | rfl
    · rw [adOf_eq kerrWrongOp]; exact kerrWrongOp
    · rw [adOf_eq kerrNoBook]; exact kerrNoBook
    · rw [adOf_eq kerrBookThere]; exact kerrBookThere
    · rw [adOf_eq kerrFenced]; exact kerrFenced
    · rw [adOf_eq kerrFixed]; exact kerrFixed
    · rw [adOf_eq kerrRange]; exact kerrRange
    · rw [adOf_eq kerrManyBooks]; exact kerrManyBooks
    · rw [adOf_eq kerrWorn]; exact kerrWorn
    · rw [adOf_eq kerrNoPage]; exact kerrNoPage
  · intro i hi
    simp only [errVars, List.mem_cons, List.mem_nil_iff, or_false] at hi
    rcases hi with rfl | rfl | rfl | rfl | rfl | rfl | rfl | rfl | rfl
    · exact ⟨cerrWrongOp, terrWrongOp, by rw [adOf_eq kerrWrongOp]; exact berrWrongOp⟩
    · exact ⟨cerrNoBook, terrNoBook, by rw [adOf_eq kerrNoBook]; exact berrNoBook⟩
    · exact ⟨cerrBookThere, terrBookThere, by rw [adOf_eq kerrBookThere]; exact berrBookThere⟩
    · exact ⟨cerrFenced, terrFenced, by rw [adOf_eq kerrFenced]; exact berrFenced⟩
    · exact ⟨cerrFixed, terrFixed, by rw [adOf_eq kerrFixed]; exact berrFixed⟩
    · exact ⟨cerrRange, terrRange, by rw [adOf_eq kerrRange]; exact berrRange⟩
    · exact ⟨cerrManyBooks, terrManyBooks, by rw [adOf_eq kerrManyBooks]; exact berrManyBooks⟩
    · exact ⟨cerrWorn, terrWorn, by rw [adOf_eq kerrWorn]; exact berrWorn⟩
    · exact ⟨cerrNoPage, terrNoPage, by rw [adOf_eq kerrNoPage]; exact berrNoPage⟩
  · intro i hi
    simp only [errVars, List.mem_cons, List.mem_nil_iff, or_false] at hi
    rcases hi with rfl | rfl | rfl | rfl | rfl | rfl | rfl | rfl | rfl
    · exact fun e => nerrWrongOp e.symm
    · exact fun e => nerrNoBook e.symm
    · exact fun e => nerrBookThere e.symm
    · exact fun e => nerrFenced e.symm
    · exact fun e => nerrFixed e.symm
    · exact fun e => nerrRange e.symm
    · exact fun e => nerrManyBooks e.symm
    · exact fun e => nerrWorn e.symm
    · exact fun e => nerrNoPage e.symm

theorem varb_ten {W : World} (h : laidMetH Tryz.prog laidAll W) : VarB W (adOf W 0) := by
  have h' : laidMet Tryz.prog laidTen W ∧ handlesMet Tryz.prog [("errors.errorType", Rows.laid_errors_errorType)] W := h
  obtain ⟨x0, a, c0, c, s0, t, k0, k, n, b0, b⟩ := pair_serrCannotBe h'.1
  rw [VarB, adOf_eq k]
  exact k

/-! ### A world that meets them -/
abbrev xerrWrongShelf : ByteArray := { data := #[116, 104, 101, 32, 115, 104, 101, 108, 102, 32, 105, 115, 32, 110, 111, 116, 32, 114, 105, 103, 104, 116] }

abbrev xerrWrongOp : ByteArray := { data := #[116, 104, 101, 32, 111, 112, 32, 105, 115, 32, 110, 111, 116, 32, 114, 105, 103, 104, 116] }

abbrev xerrNoBook : ByteArray := { data := #[116, 104, 101, 114, 101, 32, 105, 115, 32, 110, 111, 32, 115, 117, 99, 104, 32, 98, 111, 111, 107] }

abbrev xerrBookThere : ByteArray := { data := #[116, 104, 101, 114, 101, 32, 105, 115, 32, 115, 117, 99, 104, 32, 97, 32, 98, 111, 111, 107, 32, 97, 108, 114, 101, 97, 100, 121] }

abbrev xerrFenced : ByteArray := { data := #[116, 104, 101, 32, 101, 112, 111, 99, 104, 32, 105, 115, 32, 98, 101, 108, 111, 119, 32, 116, 104, 101, 32, 98, 111, 111, 107, 39, 115] }

abbrev xerrFixed : ByteArray := { data := #[116, 104, 101, 32, 98, 111, 111, 107, 32, 105, 115, 32, 102, 105, 120, 101, 100] }

abbrev xerrRange : ByteArray := { data := #[116, 104, 101, 32, 112, 108, 97, 99, 101, 32, 105, 115, 32, 110, 111, 116, 32, 98, 101, 108, 111, 119, 32, 116, 104, 101, 32, 98, 111, 111, 107, 39, 115, 32, 115, 105, 122, 101] }

abbrev xerrManyBooks : ByteArray := { data := #[116, 104, 101, 114, 101, 32, 105, 115, 32, 110, 111, 32, 114, 111, 111, 109, 32, 102, 111, 114, 32, 111, 110, 101, 32, 109, 111, 114, 101, 32, 98, 111, 111, 107] }

abbrev xerrWorn : ByteArray := { data := #[116, 104, 101, 32, 98, 111, 111, 107, 39, 115, 32, 101, 112, 111, 99, 104, 32, 105, 115, 32, 116, 104, 101, 32, 108, 97, 115, 116, 32, 111, 110, 101] }

abbrev xerrNoPage : ByteArray := { data := #[116, 104, 101, 114, 101, 32, 105, 115, 32, 110, 111, 32, 112, 97, 103, 101, 32, 116, 111, 32, 115, 112, 97, 114, 101] }

abbrev xerrCannotBe : ByteArray := { data := #[110, 111, 32, 104, 111, 117, 115, 101, 32, 99, 97, 110, 32, 98, 101, 32, 115, 111] }

noncomputable def low : Nat := (World.holding Tryz.prog default ⟨#[], #[], []⟩).heap.size

noncomputable def laidWorld (os : Os) : World :=
  let w0 := World.holding Tryz.prog os ⟨#[.cells #[.string xerrWrongShelf] 353, .cells #[.string xerrWrongOp] 353, .cells #[.string xerrNoBook] 353, .cells #[.string xerrBookThere] 353, .cells #[.string xerrFenced] 353, .cells #[.string xerrFixed] 353, .cells #[.string xerrRange] 353, .cells #[.string xerrManyBooks] 353, .cells #[.string xerrWorn] 353, .cells #[.string xerrNoPage] 353, .cells #[.string xerrCannotBe] 353], #[], []⟩
  { w0 with heap := (((((((((((w0.heap.modify 1 fun
      | .cells _ t frozen => .cells #[.iface 333 (.pointer (some ⟨low + 0, 0, none⟩))] t frozen
      | o => o).modify 2 fun
      | .cells _ t frozen => .cells #[.iface 333 (.pointer (some ⟨low + 1, 0, none⟩))] t frozen
      | o => o).modify 3 fun
      | .cells _ t frozen => .cells #[.iface 333 (.pointer (some ⟨low + 2, 0, none⟩))] t frozen
      | o => o).modify 4 fun
      | .cells _ t frozen => .cells #[.iface 333 (.pointer (some ⟨low + 3, 0, none⟩))] t frozen
      | o => o).modify 5 fun
      | .cells _ t frozen => .cells #[.iface 333 (.pointer (some ⟨low + 4, 0, none⟩))] t frozen
      | o => o).modify 6 fun
      | .cells _ t frozen => .cells #[.iface 333 (.pointer (some ⟨low + 5, 0, none⟩))] t frozen
      | o => o).modify 7 fun
      | .cells _ t frozen => .cells #[.iface 333 (.pointer (some ⟨low + 6, 0, none⟩))] t frozen
      | o => o).modify 8 fun
      | .cells _ t frozen => .cells #[.iface 333 (.pointer (some ⟨low + 7, 0, none⟩))] t frozen
      | o => o).modify 9 fun
      | .cells _ t frozen => .cells #[.iface 333 (.pointer (some ⟨low + 8, 0, none⟩))] t frozen
      | o => o).modify 11 fun
      | .cells _ t frozen => .cells #[.iface 333 (.pointer (some ⟨low + 9, 0, none⟩))] t frozen
      | o => o).modify 0 fun
      | .cells _ t frozen => .cells #[.iface 333 (.pointer (some ⟨low + 10, 0, none⟩))] t frozen
      | o => o).modify 10 fun
      | .cells _ t frozen => .cells #[.iface 244 (.agg #[.pointer (some ⟨13, 159, none⟩)])] t frozen
      | o => o }

set_option maxRecDepth 100000 in
theorem laid_ten (os : Os) (args : Array Value) : laidMetH Tryz.prog laidAll ((laidWorld os).forCall (fun _ _ => 0) ⟨#[], args, []⟩).memory :=
  laidMetH_of_parts (show laidMet Tryz.prog laidTen _ from laidMet_of_run (ps := [.cell 1 0, .cell (low + 0) 0, .cell 2 0, .cell (low + 1) 0, .cell 3 0, .cell (low + 2) 0, .cell 4 0, .cell (low + 3) 0, .cell 5 0, .cell (low + 4) 0, .cell 6 0, .cell (low + 5) 0, .cell 7 0, .cell (low + 6) 0, .cell 8 0, .cell (low + 7) 0, .cell 9 0, .cell (low + 8) 0, .cell 11 0, .cell (low + 9) 0, .cell 0 0, .cell (low + 10) 0]) 8 (by kernel_rfl) (by kernel_rfl) (by kernel_rfl)) (by kernel_rfl)
end Go.Proofs.YtibhepekmihagaaGreatDoor

