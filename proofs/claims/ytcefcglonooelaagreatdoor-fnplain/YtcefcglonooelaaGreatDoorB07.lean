/-
  Contracts and plain laws, one chapter behind the other.
-/
import Derived.Test.YtcefcglonooelaaGreatDoorRows
import Derived.ChangeSame
import Derived.ChangeVars
import Derived.RowKit
import Derived.RowKitTokens
import Derived.LaidLaws
import Derived.LaidHandle
import Derived.LaidSub
import Derived.Stop.LaidErr
import Derived.Stop.LaidTwo
import Derived.Test.YtcefcglonooelaaGreatDoorTie
import Derived.Test.YtcefcglonooelaaGreatDoorCards
import Derived.SevenTiedAt
import Derived.JoinedOf
import Derived.ProofKit
import Derived.Test.YtcefcglonooelaaGreatDoorChecked
import Derived.WalkKit
import Derived.WalkSpells
import Derived.Handy
import Derived.Below
import Derived.Deep.QuietTactic
import Derived.BigQuiet
import Derived.OpenShut
import Derived.ShutString
import Derived.Lib.SmallJoins
import Derived.SliceStrings
import Derived.ChangeSlices
import Derived.Test.YtcefcglonooelaaGreatDoorB01
import Derived.Test.YtcefcglonooelaaGreatDoorB02
import Derived.Test.YtcefcglonooelaaGreatDoorB06
namespace Go.Proofs.YtcefcglonooelaaGreatDoor
open Go.ChangeShapes Go.WideShapes Go.RowKit

set_option linter.unusedVariables false


theorem Tryz.lEt : Tryz.prog.globalNamed "errors.errorType" = some 9 := by kernel_rfl

theorem Tryz.lRt : (Tryz.prog.cutTypes.find? (·.1 == "internal/reflectlite.rtype")).map (·.2) = some 186 := by kernel_rfl

theorem Tryz.lSize : Tryz.prog.types.size = 260 := by kernel_rfl

theorem Tryz.lOne : ((List.range 260).filter fun t => Tryz.prog.rowNamed t [101, 114, 114, 111, 114]) = [69] := by kernel_rfl

theorem Tryz.lRow : ∀ u, Tryz.prog.typeName? 3 u = some "*errors.errorString" → u = 228 := typeName_ptr_named (nm := "errors.errorString") (by kernel_rfl) (by kernel_rfl) (by decide)

theorem Tryz.lCells : Tryz.prog.cellsOf 248 = 1 := by kernel_rfl

theorem Tryz.lCellsS : Tryz.prog.cellsOf 9 = 1 := by kernel_rfl

theorem Tryz.lGT : ∀ i ∈ errVars, (Tryz.prog.globals[i]?).map (·.type) = some 69 := by
  intro i hi
  simp only [errVars, List.mem_cons, List.mem_nil_iff, or_false] at hi
  rcases hi with rfl | rfl | rfl | rfl | rfl | rfl | rfl | rfl | rfl <;> kernel_rfl

theorem Tryz.gerrWrongOp : Tryz.prog.globalNamed "loop.example/g00372/impl.errWrongOp" = some 1 := by kernel_rfl

theorem Tryz.gerrNoBook : Tryz.prog.globalNamed "loop.example/g00372/impl.errNoBook" = some 2 := by kernel_rfl

theorem Tryz.gerrBookThere : Tryz.prog.globalNamed "loop.example/g00372/impl.errBookThere" = some 3 := by kernel_rfl

theorem Tryz.gerrFenced : Tryz.prog.globalNamed "loop.example/g00372/impl.errFenced" = some 4 := by kernel_rfl

theorem Tryz.gerrFixed : Tryz.prog.globalNamed "loop.example/g00372/impl.errFixed" = some 5 := by kernel_rfl

theorem Tryz.gerrRange : Tryz.prog.globalNamed "loop.example/g00372/impl.errRange" = some 6 := by kernel_rfl

theorem Tryz.gerrManyBooks : Tryz.prog.globalNamed "loop.example/g00372/impl.errManyBooks" = some 7 := by kernel_rfl

theorem Tryz.gerrWorn : Tryz.prog.globalNamed "loop.example/g00372/impl.errWorn" = some 8 := by kernel_rfl

theorem Tryz.gerrNoPage : Tryz.prog.globalNamed "loop.example/g00372/impl.errNoPage" = some 0 := by kernel_rfl

def laidNine : List (String × DataW Unit) := [("loop.example/g00372/impl.errWrongOp", Rows.laid_loop_example_g00372_impl_errWrongOp), ("loop.example/g00372/impl.errNoBook", Rows.laid_loop_example_g00372_impl_errNoBook), ("loop.example/g00372/impl.errBookThere", Rows.laid_loop_example_g00372_impl_errBookThere), ("loop.example/g00372/impl.errFenced", Rows.laid_loop_example_g00372_impl_errFenced), ("loop.example/g00372/impl.errFixed", Rows.laid_loop_example_g00372_impl_errFixed), ("loop.example/g00372/impl.errRange", Rows.laid_loop_example_g00372_impl_errRange), ("loop.example/g00372/impl.errManyBooks", Rows.laid_loop_example_g00372_impl_errManyBooks), ("loop.example/g00372/impl.errWorn", Rows.laid_loop_example_g00372_impl_errWorn), ("loop.example/g00372/impl.errNoPage", Rows.laid_loop_example_g00372_impl_errNoPage)]

def laidLess : List (String × DataW Unit) := ("errors.errorType", Rows.laid_errors_errorType) :: laidNine

/-- Two listed errors: their cells, two pointers, whole blocks. -/
theorem two_laid {W : World} {n0 n1 : String} {t0 t1 : List UInt8} {g0 g1 : Nat} (h : laidMet Tryz.prog [(n0, .iface "*errors.errorString" (.ptr (.agg [.lit (.string t0)]))), (n1, .iface "*errors.errorString" (.ptr (.agg [.lit (.string t1)])))] W) (hg0 : Tryz.prog.globalNamed n0 = some g0) (ht0 : (Tryz.prog.globals[g0]?).map (·.type) = some 69) (hg1 : Tryz.prog.globalNamed n1 = some g1) (ht1 : (Tryz.prog.globals[g1]?).map (·.type) = some 69) :
    ∃ (a0 a1 : Addr) (c0 c1 : Array Value) (s0 s1 : TypeId), W.cell? ⟨g0, 0, none⟩ = some (.iface 228 (.pointer (some a0))) ∧ W.cell? ⟨g1, 0, none⟩ = some (.iface 228 (.pointer (some a1))) ∧ a0 ≠ a1 ∧ W.heap[a0.block]? = some (.cells c0 s0 (0, 0)) ∧ W.heap[a1.block]? = some (.cells c1 s1 (0, 0)) := by
  obtain ⟨a0, a1, s0, s1, c0, c1, u0, u1, hv0, hv1, -, -, -, -, -, -, hne, hb0, hb1⟩ := laid_sentinels2 h hg0 ht0 hg1 ht1 Tryz.underlying69 Tryz.lRow Tryz.underlying228 Tryz.underlying248 rfl rfl Tryz.underlying9 Tryz.lCells Tryz.lCellsS
  exact ⟨a0, a1, c0, c1, u0, u1, by simpa using World.var?_cell hg0 hv0 0, by simpa using World.var?_cell hg1 hv1 0, hne, hb0, hb1⟩

/-- The handle of the type 'error'. -/
theorem handle_laid {W : World} {l : List (String × DataW Unit)} (h : handlesMet Tryz.prog (("errors.errorType", Rows.laid_errors_errorType) :: l) W) : W.cell? ⟨9, 0, none⟩ = some (.iface 186 (.agg #[.pointer (some ⟨11, 69, none⟩)])) := by
  obtain ⟨name, u, ty, e1, e2, e3, e4, e5⟩ := h _ (List.mem_cons_self ..)
  have en : name = [101, 114, 114, 111, 114] := (Option.some.inj e1).symm
  subst en
  obtain rfl := Option.some.inj (Tryz.lRt.symm.trans e2)
  have hm : ty ∈ (List.range 260).filter fun t => Tryz.prog.rowNamed t [101, 114, 114, 111, 114] := List.mem_filter.2 ⟨List.mem_range.2 (by rw [← Tryz.lSize]; exact e3), e4⟩
  rw [Tryz.lOne] at hm
  obtain rfl := List.mem_singleton.1 hm
  have hh : typeHandle Tryz.prog 69 = .pointer (some ⟨11, 69, none⟩) := by kernel_rfl
  rw [hh] at e5
  simpa using World.var?_cell Tryz.lEt e5 0

/-- The address that a variable holds. -/
def adOf (W : World) (i : Nat) : Addr := match W.cell? ⟨i, 0, none⟩ with
  | some (.iface _ (.pointer (some a))) => a
  | _ => ⟨0, 0, none⟩

theorem adOf_eq {W : World} {i : Nat} {t : TypeId} {a : Addr} (h : W.cell? ⟨i, 0, none⟩ = some (.iface t (.pointer (some a)))) : adOf W i = a := by rw [adOf, h]

theorem pair_nerrNoBook {W : World} (h : laidMet Tryz.prog laidNine W) : ∃ (a0 a1 : Addr) (c0 c1 : Array Value) (s0 s1 : TypeId), W.cell? ⟨1, 0, none⟩ = some (.iface 228 (.pointer (some a0))) ∧ W.cell? ⟨2, 0, none⟩ = some (.iface 228 (.pointer (some a1))) ∧ a0 ≠ a1 ∧ W.heap[a0.block]? = some (.cells c0 s0 (0, 0)) ∧ W.heap[a1.block]? = some (.cells c1 s1 (0, 0)) := by
  have h2 := laidMet.filter (fun x => x.1 == "loop.example/g00372/impl.errWrongOp" || x.1 == "loop.example/g00372/impl.errNoBook") h
  have e : laidNine.filter (fun x => x.1 == "loop.example/g00372/impl.errWrongOp" || x.1 == "loop.example/g00372/impl.errNoBook") = [("loop.example/g00372/impl.errWrongOp", Rows.laid_loop_example_g00372_impl_errWrongOp), ("loop.example/g00372/impl.errNoBook", Rows.laid_loop_example_g00372_impl_errNoBook)] := by simp [laidNine]
  rw [e] at h2
  exact two_laid h2 Tryz.gerrWrongOp (Tryz.lGT _ (by decide)) Tryz.gerrNoBook (Tryz.lGT _ (by decide))

theorem pair_nerrBookThere {W : World} (h : laidMet Tryz.prog laidNine W) : ∃ (a0 a1 : Addr) (c0 c1 : Array Value) (s0 s1 : TypeId), W.cell? ⟨1, 0, none⟩ = some (.iface 228 (.pointer (some a0))) ∧ W.cell? ⟨3, 0, none⟩ = some (.iface 228 (.pointer (some a1))) ∧ a0 ≠ a1 ∧ W.heap[a0.block]? = some (.cells c0 s0 (0, 0)) ∧ W.heap[a1.block]? = some (.cells c1 s1 (0, 0)) := by
  have h2 := laidMet.filter (fun x => x.1 == "loop.example/g00372/impl.errWrongOp" || x.1 == "loop.example/g00372/impl.errBookThere") h
  have e : laidNine.filter (fun x => x.1 == "loop.example/g00372/impl.errWrongOp" || x.1 == "loop.example/g00372/impl.errBookThere") = [("loop.example/g00372/impl.errWrongOp", Rows.laid_loop_example_g00372_impl_errWrongOp), ("loop.example/g00372/impl.errBookThere", Rows.laid_loop_example_g00372_impl_errBookThere)] := by simp [laidNine]
  rw [e] at h2
  exact two_laid h2 Tryz.gerrWrongOp (Tryz.lGT _ (by decide)) Tryz.gerrBookThere (Tryz.lGT _ (by decide))

theorem pair_nerrFenced {W : World} (h : laidMet Tryz.prog laidNine W) : ∃ (a0 a1 : Addr) (c0 c1 : Array Value) (s0 s1 : TypeId), W.cell? ⟨1, 0, none⟩ = some (.iface 228 (.pointer (some a0))) ∧ W.cell? ⟨4, 0, none⟩ = some (.iface 228 (.pointer (some a1))) ∧ a0 ≠ a1 ∧ W.heap[a0.block]? = some (.cells c0 s0 (0, 0)) ∧ W.heap[a1.block]? = some (.cells c1 s1 (0, 0)) := by
  have h2 := laidMet.filter (fun x => x.1 == "loop.example/g00372/impl.errWrongOp" || x.1 == "loop.example/g00372/impl.errFenced") h
  have e : laidNine.filter (fun x => x.1 == "loop.example/g00372/impl.errWrongOp" || x.1 == "loop.example/g00372/impl.errFenced") = [("loop.example/g00372/impl.errWrongOp", Rows.laid_loop_example_g00372_impl_errWrongOp), ("loop.example/g00372/impl.errFenced", Rows.laid_loop_example_g00372_impl_errFenced)] := by simp [laidNine]
  rw [e] at h2
  exact two_laid h2 Tryz.gerrWrongOp (Tryz.lGT _ (by decide)) Tryz.gerrFenced (Tryz.lGT _ (by decide))

theorem pair_nerrFixed {W : World} (h : laidMet Tryz.prog laidNine W) : ∃ (a0 a1 : Addr) (c0 c1 : Array Value) (s0 s1 : TypeId), W.cell? ⟨1, 0, none⟩ = some (.iface 228 (.pointer (some a0))) ∧ W.cell? ⟨5, 0, none⟩ = some (.iface 228 (.pointer (some a1))) ∧ a0 ≠ a1 ∧ W.heap[a0.block]? = some (.cells c0 s0 (0, 0)) ∧ W.heap[a1.block]? = some (.cells c1 s1 (0, 0)) := by
  have h2 := laidMet.filter (fun x => x.1 == "loop.example/g00372/impl.errWrongOp" || x.1 == "loop.example/g00372/impl.errFixed") h
  have e : laidNine.filter (fun x => x.1 == "loop.example/g00372/impl.errWrongOp" || x.1 == "loop.example/g00372/impl.errFixed") = [("loop.example/g00372/impl.errWrongOp", Rows.laid_loop_example_g00372_impl_errWrongOp), ("loop.example/g00372/impl.errFixed", Rows.laid_loop_example_g00372_impl_errFixed)] := by simp [laidNine]
  rw [e] at h2
  exact two_laid h2 Tryz.gerrWrongOp (Tryz.lGT _ (by decide)) Tryz.gerrFixed (Tryz.lGT _ (by decide))

theorem pair_nerrRange {W : World} (h : laidMet Tryz.prog laidNine W) : ∃ (a0 a1 : Addr) (c0 c1 : Array Value) (s0 s1 : TypeId), W.cell? ⟨1, 0, none⟩ = some (.iface 228 (.pointer (some a0))) ∧ W.cell? ⟨6, 0, none⟩ = some (.iface 228 (.pointer (some a1))) ∧ a0 ≠ a1 ∧ W.heap[a0.block]? = some (.cells c0 s0 (0, 0)) ∧ W.heap[a1.block]? = some (.cells c1 s1 (0, 0)) := by
  have h2 := laidMet.filter (fun x => x.1 == "loop.example/g00372/impl.errWrongOp" || x.1 == "loop.example/g00372/impl.errRange") h
  have e : laidNine.filter (fun x => x.1 == "loop.example/g00372/impl.errWrongOp" || x.1 == "loop.example/g00372/impl.errRange") = [("loop.example/g00372/impl.errWrongOp", Rows.laid_loop_example_g00372_impl_errWrongOp), ("loop.example/g00372/impl.errRange", Rows.laid_loop_example_g00372_impl_errRange)] := by simp [laidNine]
  rw [e] at h2
  exact two_laid h2 Tryz.gerrWrongOp (Tryz.lGT _ (by decide)) Tryz.gerrRange (Tryz.lGT _ (by decide))

theorem pair_nerrManyBooks {W : World} (h : laidMet Tryz.prog laidNine W) : ∃ (a0 a1 : Addr) (c0 c1 : Array Value) (s0 s1 : TypeId), W.cell? ⟨1, 0, none⟩ = some (.iface 228 (.pointer (some a0))) ∧ W.cell? ⟨7, 0, none⟩ = some (.iface 228 (.pointer (some a1))) ∧ a0 ≠ a1 ∧ W.heap[a0.block]? = some (.cells c0 s0 (0, 0)) ∧ W.heap[a1.block]? = some (.cells c1 s1 (0, 0)) := by
  have h2 := laidMet.filter (fun x => x.1 == "loop.example/g00372/impl.errWrongOp" || x.1 == "loop.example/g00372/impl.errManyBooks") h
  have e : laidNine.filter (fun x => x.1 == "loop.example/g00372/impl.errWrongOp" || x.1 == "loop.example/g00372/impl.errManyBooks") = [("loop.example/g00372/impl.errWrongOp", Rows.laid_loop_example_g00372_impl_errWrongOp), ("loop.example/g00372/impl.errManyBooks", Rows.laid_loop_example_g00372_impl_errManyBooks)] := by simp [laidNine]
  rw [e] at h2
  exact two_laid h2 Tryz.gerrWrongOp (Tryz.lGT _ (by decide)) Tryz.gerrManyBooks (Tryz.lGT _ (by decide))

theorem pair_nerrWorn {W : World} (h : laidMet Tryz.prog laidNine W) : ∃ (a0 a1 : Addr) (c0 c1 : Array Value) (s0 s1 : TypeId), W.cell? ⟨1, 0, none⟩ = some (.iface 228 (.pointer (some a0))) ∧ W.cell? ⟨8, 0, none⟩ = some (.iface 228 (.pointer (some a1))) ∧ a0 ≠ a1 ∧ W.heap[a0.block]? = some (.cells c0 s0 (0, 0)) ∧ W.heap[a1.block]? = some (.cells c1 s1 (0, 0)) := by
  have h2 := laidMet.filter (fun x => x.1 == "loop.example/g00372/impl.errWrongOp" || x.1 == "loop.example/g00372/impl.errWorn") h
  have e : laidNine.filter (fun x => x.1 == "loop.example/g00372/impl.errWrongOp" || x.1 == "loop.example/g00372/impl.errWorn") = [("loop.example/g00372/impl.errWrongOp", Rows.laid_loop_example_g00372_impl_errWrongOp), ("loop.example/g00372/impl.errWorn", Rows.laid_loop_example_g00372_impl_errWorn)] := by simp [laidNine]
  rw [e] at h2
  exact two_laid h2 Tryz.gerrWrongOp (Tryz.lGT _ (by decide)) Tryz.gerrWorn (Tryz.lGT _ (by decide))

theorem pair_nerrNoPage {W : World} (h : laidMet Tryz.prog laidNine W) : ∃ (a0 a1 : Addr) (c0 c1 : Array Value) (s0 s1 : TypeId), W.cell? ⟨1, 0, none⟩ = some (.iface 228 (.pointer (some a0))) ∧ W.cell? ⟨0, 0, none⟩ = some (.iface 228 (.pointer (some a1))) ∧ a0 ≠ a1 ∧ W.heap[a0.block]? = some (.cells c0 s0 (0, 0)) ∧ W.heap[a1.block]? = some (.cells c1 s1 (0, 0)) := by
  have h2 := laidMet.filter (fun x => x.1 == "loop.example/g00372/impl.errWrongOp" || x.1 == "loop.example/g00372/impl.errNoPage") h
  have e : laidNine.filter (fun x => x.1 == "loop.example/g00372/impl.errWrongOp" || x.1 == "loop.example/g00372/impl.errNoPage") = [("loop.example/g00372/impl.errWrongOp", Rows.laid_loop_example_g00372_impl_errWrongOp), ("loop.example/g00372/impl.errNoPage", Rows.laid_loop_example_g00372_impl_errNoPage)] := by simp [laidNine]
  rw [e] at h2
  exact two_laid h2 Tryz.gerrWrongOp (Tryz.lGT _ (by decide)) Tryz.gerrNoPage (Tryz.lGT _ (by decide))

theorem vars_nine {W : World} (h : laidMetH Tryz.prog laidLess W) : Vars W (adOf W) := by
  have h' : laidMet Tryz.prog laidNine W ∧ handlesMet Tryz.prog [("errors.errorType", Rows.laid_errors_errorType)] W := h
  have het := handle_laid h'.2
  obtain ⟨x0, aerrNoBook, cerrWrongOp, cerrNoBook, terrWrongOp, terrNoBook, kerrWrongOp, kerrNoBook, nerrNoBook, berrWrongOp, berrNoBook⟩ := pair_nerrNoBook h'.1
  obtain ⟨x0, aerrBookThere, cerrWrongOp, cerrBookThere, terrWrongOp, terrBookThere, kerrWrongOp, kerrBookThere, nerrBookThere, berrWrongOp, berrBookThere⟩ := pair_nerrBookThere h'.1
  obtain ⟨x0, aerrFenced, cerrWrongOp, cerrFenced, terrWrongOp, terrFenced, kerrWrongOp, kerrFenced, nerrFenced, berrWrongOp, berrFenced⟩ := pair_nerrFenced h'.1
  obtain ⟨x0, aerrFixed, cerrWrongOp, cerrFixed, terrWrongOp, terrFixed, kerrWrongOp, kerrFixed, nerrFixed, berrWrongOp, berrFixed⟩ := pair_nerrFixed h'.1
  obtain ⟨x0, aerrRange, cerrWrongOp, cerrRange, terrWrongOp, terrRange, kerrWrongOp, kerrRange, nerrRange, berrWrongOp, berrRange⟩ := pair_nerrRange h'.1
  obtain ⟨x0, aerrManyBooks, cerrWrongOp, cerrManyBooks, terrWrongOp, terrManyBooks, kerrWrongOp, kerrManyBooks, nerrManyBooks, berrWrongOp, berrManyBooks⟩ := pair_nerrManyBooks h'.1
  obtain ⟨x0, aerrWorn, cerrWrongOp, cerrWorn, terrWrongOp, terrWorn, kerrWrongOp, kerrWorn, nerrWorn, berrWrongOp, berrWorn⟩ := pair_nerrWorn h'.1
  obtain ⟨x0, aerrNoPage, cerrWrongOp, cerrNoPage, terrWrongOp, terrNoPage, kerrWrongOp, kerrNoPage, nerrNoPage, berrWrongOp, berrNoPage⟩ := pair_nerrNoPage h'.1
  refine ⟨?_, het, ?_⟩
  · intro i hi
    simp only [errVars, List.mem_cons, List.mem_nil_iff, or_false] at hi
    rcases hi with rfl | rfl | rfl | rfl | rfl | rfl | rfl | rfl | rfl
    · rw [adOf_eq kerrWrongOp]; exact kerrWrongOp
    · rw [adOf_eq kerrNoBook]; exact kerrNoBook
    · rw [adOf_eq kerrBookThere]; exact kerrBookThere
    · rw [adOf_eq kerrFenced]; exact kerrFenced
    · rw [adOf_eq kerrFixed]; exact kerrFixed
    · rw [adOf_eq kerrRange]; exact kerrRange
    · rw [adOf_eq kerrManyBooks]; exact kerrManyBooks
    · rw [adOf_eq kerrWorn]; exact kerrWorn
    · rw [adOf_eq kerrNoPage]; exact kerrNoPage
  · intro i hi
    simp only [errVars, List.mem_cons, List.mem_nil_iff, or_false] at hi
    rcases hi with rfl | rfl | rfl | rfl | rfl | rfl | rfl | rfl | rfl
    · exact ⟨cerrWrongOp, terrWrongOp, by rw [adOf_eq kerrWrongOp]; exact berrWrongOp⟩
    · exact ⟨cerrNoBook, terrNoBook, by rw [adOf_eq kerrNoBook]; exact berrNoBook⟩
    · exact ⟨cerrBookThere, terrBookThere, by rw [adOf_eq kerrBookThere]; exact berrBookThere⟩
    · exact ⟨cerrFenced, terrFenced, by rw [adOf_eq kerrFenced]; exact berrFenced⟩
    · exact ⟨cerrFixed, terrFixed, by rw [adOf_eq kerrFixed]; exact berrFixed⟩
    · exact ⟨cerrRange, terrRange, by rw [adOf_eq kerrRange]; exact berrRange⟩
    · exact ⟨cerrManyBooks, terrManyBooks, by rw [adOf_eq kerrManyBooks]; exact berrManyBooks⟩
    · exact ⟨cerrWorn, terrWorn, by rw [adOf_eq kerrWorn]; exact berrWorn⟩
    · exact ⟨cerrNoPage, terrNoPage, by rw [adOf_eq kerrNoPage]; exact berrNoPage⟩

/-! ### A world that meets them -/
abbrev xerrWrongOp : ByteArray := { data := #[116, 104, 101, 32, 111, 112, 32, 105, 115, 32, 110, 111, 116, 32, 114, 105, 103, 104, 116] }

abbrev xerrNoBook : ByteArray := { data := #[116, 104, 101, 114, 101, 32, 105, 115, 32, 110, 111, 32, 115, 117, 99, 104, 32, 98, 111, 111, 107] }

abbrev xerrBookThere : ByteArray := { data := #[116, 104, 101, 114, 101, 32, 105, 115, 32, 115, 117, 99, 104, 32, 97, 32, 98, 111, 111, 107, 32, 97, 108, 114, 101, 97, 100, 121] }

abbrev xerrFenced : ByteArray := { data := #[116, 104, 101, 32, 101, 112, 111, 99, 104, 32, 105, 115, 32, 98, 101, 108, 111, 119, 32, 116, 104, 101, 32, 98, 111, 111, 107, 39, 115] }

abbrev xerrFixed : ByteArray := { data := #[116, 104, 101, 32, 98, 111, 111, 107, 32, 105, 115, 32, 102, 105, 120, 101, 100] }

abbrev xerrRange : ByteArray := { data := #[116, 104, 101, 32, 112, 108, 97, 99, 101, 32, 105, 115, 32, 110, 111, 116, 32, 98, 101, 108, 111, 119, 32, 116, 104, 101, 32, 98, 111, 111, 107, 39, 115, 32, 115, 105, 122, 101] }

abbrev xerrManyBooks : ByteArray := { data := #[116, 104, 101, 114, 101, 32, 105, 115, 32, 110, 111, 32, 114, 111, 111, 109, 32, 102, 111, 114, 32, 111, 110, 101, 32, 109, 111, 114, 101, 32, 98, 111, 111, 107] }

abbrev xerrWorn : ByteArray := { data := #[116, 104, 101, 32, 98, 111, 111, 107, 39, 115, 32, 101, 112, 111, 99, 104, 32, 105, 115, 32, 116, 104, 101, 32, 108, 97, 115, 116, 32, 111, 110, 101] }

abbrev xerrNoPage : ByteArray := { data := #[116, 104, 101, 114, 101, 32, 105, 115, 32, 110, 111, 32, 112, 97, 103, 101, 32, 116, 111, 32, 115, 112, 97, 114, 101] }

noncomputable def low : Nat := (World.holding Tryz.prog default ⟨#[], #[], []⟩).heap.size

noncomputable def laidWorld (os : Os) : World :=
  let w0 := World.holding Tryz.prog os ⟨#[.cells #[.string xerrWrongOp] 248, .cells #[.string xerrNoBook] 248, .cells #[.string xerrBookThere] 248, .cells #[.string xerrFenced] 248, .cells #[.string xerrFixed] 248, .cells #[.string xerrRange] 248, .cells #[.string xerrManyBooks] 248, .cells #[.string xerrWorn] 248, .cells #[.string xerrNoPage] 248], #[], []⟩
  { w0 with heap := (((((((((w0.heap.modify 1 fun
      | .cells _ t frozen => .cells #[.iface 228 (.pointer (some ⟨low + 0, 0, none⟩))] t frozen
      | o => o).modify 2 fun
      | .cells _ t frozen => .cells #[.iface 228 (.pointer (some ⟨low + 1, 0, none⟩))] t frozen
      | o => o).modify 3 fun
      | .cells _ t frozen => .cells #[.iface 228 (.pointer (some ⟨low + 2, 0, none⟩))] t frozen
      | o => o).modify 4 fun
      | .cells _ t frozen => .cells #[.iface 228 (.pointer (some ⟨low + 3, 0, none⟩))] t frozen
      | o => o).modify 5 fun
      | .cells _ t frozen => .cells #[.iface 228 (.pointer (some ⟨low + 4, 0, none⟩))] t frozen
      | o => o).modify 6 fun
      | .cells _ t frozen => .cells #[.iface 228 (.pointer (some ⟨low + 5, 0, none⟩))] t frozen
      | o => o).modify 7 fun
      | .cells _ t frozen => .cells #[.iface 228 (.pointer (some ⟨low + 6, 0, none⟩))] t frozen
      | o => o).modify 8 fun
      | .cells _ t frozen => .cells #[.iface 228 (.pointer (some ⟨low + 7, 0, none⟩))] t frozen
      | o => o).modify 0 fun
      | .cells _ t frozen => .cells #[.iface 228 (.pointer (some ⟨low + 8, 0, none⟩))] t frozen
      | o => o).modify 9 fun
      | .cells _ t frozen => .cells #[.iface 186 (.agg #[.pointer (some ⟨11, 69, none⟩)])] t frozen
      | o => o }

set_option maxRecDepth 100000 in
theorem laid_nine (os : Os) (args : Array Value) : laidMetH Tryz.prog laidLess ((laidWorld os).forCall (fun _ _ => 0) ⟨#[], args, []⟩).memory :=
  laidMetH_of_parts (show laidMet Tryz.prog laidNine _ from laidMet_of_run (ps := [.cell 1 0, .cell (low + 0) 0, .cell 2 0, .cell (low + 1) 0, .cell 3 0, .cell (low + 2) 0, .cell 4 0, .cell (low + 3) 0, .cell 5 0, .cell (low + 4) 0, .cell 6 0, .cell (low + 5) 0, .cell 7 0, .cell (low + 6) 0, .cell 8 0, .cell (low + 7) 0, .cell 0 0, .cell (low + 8) 0]) 8 (by kernel_rfl) (by kernel_rfl) (by kernel_rfl)) (by kernel_rfl)
end Go.Proofs.YtcefcglonooelaaGreatDoor

namespace Go.Proofs.YtcefcglonooelaaGreatDoor.fnFenced
open Go

set_option linter.unusedVariables false


theorem both {a b : Bool} (h : a = true) (k : b = true) : (a && b) = true := by rw [h, k]; rfl

theorem hfn : Tryz.prog.funcNamed Rows.fnFencedRow.func = some 5 := by kernel_rfl

set_option maxRecDepth 100000 in
set_option maxHeartbeats 12800000 in
theorem closed : joinedFacts Tryz.prog 5 Tryz.f5 Rows.fnFencedSpec Rows.fnFencedRow = true := by
  unfold joinedFacts
  refine both (both (both (both (both (both (both (both (both (both (both (both (both (both (both (both (both (both (both (both (both (both (both (both (both (both (both (both (both (both (both ?_ ?_) ?_) ?_) ?_) ?_) ?_) ?_) ?_) ?_) ?_) ?_) ?_) ?_) ?_) ?_) ?_) ?_) ?_) ?_) ?_) ?_) ?_) ?_) ?_) ?_) ?_) ?_) ?_) ?_) ?_) ?_
  all_goals as_aux_lemma => kernel_rfl

theorem hinst : Tryz.f5.isInstance Tryz.prog Rows.fnFencedRow.origin Rows.fnFencedRow.targs := of_decide_eq_true (by kernel_rfl)

theorem hwrap : Tryz.f5.isWrapper Tryz.prog Rows.fnFencedRow.wrapper Rows.fnFencedRow.mainSum := by unfold Func.isWrapper; first | (rw [if_pos (by decide +kernel)]; kernel_rfl) | (rw [if_neg (by decide +kernel)]; exact ⟨rfl, rfl⟩)

theorem byText : Rows.fnFencedRow.wfByText (OpenSpec.ofChange Rows.fnFencedSpec) = true := by kernel_rfl

theorem mainIs : Tryz.prog.mainIs = some (true, "c1202ad587a82d4a6b2824aa68a774fbcede363e1cfa9649eab5822d3dd22308".toList) := by kernel_rfl

theorem looks : true = Tryz.prog.looks [] := by kernel_rfl

theorem goes : false = Rows.fnFencedRow.goesBy Tryz.prog := by kernel_rfl

theorem stand22 : Tryz.prog.wantsStandIn 22 = false := by kernel_rfl
end Go.Proofs.YtcefcglonooelaaGreatDoor.fnFenced

namespace Go.Proofs.YtcefcglonooelaaGreatDoor
open Go.RowKit

set_option linter.unusedVariables false

set_option maxRecDepth 100000


set_option maxHeartbeats 400000 in
theorem byteEnd (c : Nat) (x : Option Addr) (len cap : Nat) (i : Nat) (h : Int) (w : World) (hl : len ≤ maxLen)
    (c0 : w.cell? ⟨c, 0, none⟩ = some (.slice x len cap)) (c1 : w.cell? ⟨c, 1, none⟩ = some (.int .i64 i)) (c2 : w.cell? ⟨c, 2, none⟩ = some (.int .i64 h))
    (f2 : w.frozen? ⟨c, 2, none⟩ = false) (hi : ¬ i < len) :
    Calls Tryz.prog 72 #[.pointer (some ⟨c, 0, none⟩)] w fun e w' => ∃ (y h' : Int) (n m : Nat), e = .returned (.int .i64 y) ∧ (0 ≤ y ∧ y ≤ 255) ∧ w' = ((w.setCell ⟨c, 2, none⟩ (.int .i64 h')).drewN n).drewN m := by
  unfold maxLen at hl
  have hx : ∀ n, bits .and .i64 n 255 = n % 256 := and255
  go_enter Tryz.func72, Tryz.ntmps72
  go_wp2
  go_quiet (fail)
  go_wp2
  go_quiet (fail)
  go_wp2
  go_ret
  exact ⟨_, _, _, _, rfl, ⟨by omega, by omega⟩, rfl⟩

set_option maxHeartbeats 400000 in
theorem byteMore (c b off : Nat) (len cap : Nat) (i : Nat) (h z : Int) (w : World) (hl : len ≤ maxLen)
    (c0 : w.cell? ⟨c, 0, none⟩ = some (.slice (some ⟨b, off, none⟩) len cap)) (c1 : w.cell? ⟨c, 1, none⟩ = some (.int .i64 i)) (c2 : w.cell? ⟨c, 2, none⟩ = some (.int .i64 h))
    (f1 : w.frozen? ⟨c, 1, none⟩ = false) (f2 : w.frozen? ⟨c, 2, none⟩ = false) (hi : i < len) (hb : b < c) (cz : w.cell? ⟨b, off + i, none⟩ = some (.int .u8 z)) (z0 : 0 ≤ z) (z1 : z ≤ 255) :
    Calls Tryz.prog 72 #[.pointer (some ⟨c, 0, none⟩)] w fun e w' => ∃ (y h' : Int) (n : Nat), e = .returned (.int .i64 y) ∧ (0 ≤ y ∧ y ≤ 255) ∧ w' = ((w.setCell ⟨c, 2, none⟩ (.int .i64 h')).drewN n).setCell ⟨c, 1, none⟩ (.int .i64 ((i : Int) + 1)) := by
  unfold maxLen at hl
  have hx : ∀ n, bits .and .i64 n 255 = n % 256 := and255
  have hne : ¬ c = b := by omega
  have hne' : ¬ b = c := by omega
  go_enter Tryz.func72, Tryz.ntmps72
  go_wp2
  go_quiet (fail)
  go_wp2
  go_quiet (fail)
  go_wp2
  go_quiet (fail)
  go_wp2
  go_ret
  exact ⟨_, _, _, rfl, ⟨by omega, by omega⟩, rfl⟩

theorem byte_any (c : Nat) (x : Option Addr) (len cap : Nat) (w : World) (hc : Cur w c x len cap) :
    Calls Tryz.prog 72 #[.pointer (some ⟨c, 0, none⟩)] w fun e w' => ∃ y : Int, e = .returned (.int .i64 y) ∧ (0 ≤ y ∧ y ≤ 255) ∧ Upto c w w' ∧ Cur w' c x len cap := by
  obtain ⟨i, h, hi, h1, h2⟩ := hc.ih
  by_cases hlt : i < len
  · obtain ⟨b, off, z, rfl, hb, hz, z0, z1⟩ := hc.src i hlt
    refine (byteMore c b off len cap i h z w hc.hm hc.b h1 h2 hc.f1 hc.f2 hlt hb hz z0 z1).mono ?_
    rintro e w' ⟨y, h', n, rfl, hy, rfl⟩
    have hu : Upto c w (((w.setCell ⟨c, 2, none⟩ (.int .i64 h')).drewN n).setCell ⟨c, 1, none⟩ (.int .i64 ((i : Int) + 1))) := (((Upto.refl c w).setCell _ (.inl rfl) _).drewN n).setCell _ (.inl rfl) _
    refine ⟨y, rfl, hy, hu, hc.step hu (i + 1) h' hlt ?_ ?_ ?_ ?_ ?_⟩
    · simp [go_sem, hc.b]
    · simp [go_sem, h1]
    · simp [go_sem, h2]
    · simp [go_sem, hc.f1]
    · simp [go_sem, hc.f2]
  · refine (byteEnd c x len cap i h w hc.hm hc.b h1 h2 hc.f2 hlt).mono ?_
    rintro e w' ⟨y, h', n, m, rfl, hy, rfl⟩
    have hu : Upto c w (((w.setCell ⟨c, 2, none⟩ (.int .i64 h')).drewN n).drewN m) := (((Upto.refl c w).setCell _ (.inl rfl) _).drewN n).drewN m
    refine ⟨y, rfl, hy, hu, hc.step hu i h' hi ?_ ?_ ?_ ?_ ?_⟩
    · simp [go_sem, hc.b]
    · simp [go_sem, h1]
    · simp [go_sem, h2]
    · simp [go_sem, hc.f1]
    · simp [go_sem, hc.f2]
end Go.Proofs.YtcefcglonooelaaGreatDoor

namespace Go.Proofs.YtcefcglonooelaaGreatDoor
open Go.RowKit

set_option linter.unusedVariables false

set_option maxRecDepth 100000


/-- The bytes of an argument, below block c. -/
def Src (w : World) (c : Nat) (x : Option Addr) (len : Nat) : Prop :=
  len ≤ maxLen ∧ ∀ j, j < len → ∃ b off z, x = some ⟨b, off, none⟩ ∧ b < c ∧ w.cell? ⟨b, off + j, none⟩ = some (.int .u8 z) ∧ 0 ≤ z ∧ z ≤ 255

theorem Src.below {w w' : World} {c : Nat} {x : Option Addr} {len : Nat} (h : Src w c x len) (k : Below c w w') : Src w' c x len :=
  ⟨h.1, fun j hj => by obtain ⟨b, off, z, e, hb, hz, r⟩ := h.2 j hj; exact ⟨b, off, z, e, hb, (k.cell (p := ⟨b, off + j, none⟩) hb).trans hz, r⟩⟩

theorem Src.mono {w : World} {c d : Nat} {x : Option Addr} {len : Nat} (h : Src w c x len) (k : c ≤ d) : Src w d x len :=
  ⟨h.1, fun j hj => by obtain ⟨b, off, z, e, hb, r⟩ := h.2 j hj; exact ⟨b, off, z, e, Nat.lt_of_lt_of_le hb k, r⟩⟩

theorem src_of {w : World} {a : Option Addr} {len cap : Nat} {zs : List Int} (h : (a = none ∧ len = 0 ∧ cap = 0 ∧ zs = []) ∨
    ∃ x, a = some x ∧ len ≤ cap ∧ cap ≤ maxLen ∧ zs.length = cap ∧ (∀ i, i < zs.length → w.cell? (x.add i) = some (.int .u8 (zs.getD i 0))) ∧ ∀ n ∈ zs, (Lit.int .u8 n).wf = true) : Src w w.heap.size a len := by
  rcases h with ⟨rfl, rfl, rfl, rfl⟩ | ⟨x, rfl, hl, hm, hz, hcell, hwz⟩
  · exact ⟨Nat.zero_le _, fun j hj => by omega⟩
  · refine ⟨Nat.le_trans hl hm, fun j hj => ?_⟩
    have hc := hcell j (by omega)
    obtain ⟨b, off, spot⟩ := x
    have hspot : spot = none := by simpa [Addr.add] using World.cell?_spot (hcell 0 (by omega))
    subst hspot
    have e : (⟨b, off, none⟩ : Addr).add j = ⟨b, off + j, none⟩ := by unfold Addr.add; split <;> simp_all
    rw [e] at hc
    have hb : b < w.heap.size := by
      rcases Nat.lt_or_ge b w.heap.size with q | q
      · exact q
      · simp [World.cell?, Array.getElem?_eq_none q] at hc
    have hw := hwz (zs.getD j 0) (by rw [List.getD_eq_getElem?_getD, List.getElem?_eq_getElem (by omega)]; exact List.getElem_mem _)
    have hx : 0 ≤ zs.getD j 0 ∧ zs.getD j 0 ≤ 255 := by simpa [Lit.wf, IntKind.min, IntKind.max, IntKind.signed, IntKind.bits] using hw
    exact ⟨b, off, _, rfl, hb, hc, hx.1, hx.2⟩

theorem Cur.new {w : World} {x : Option Addr} {len cap : Nat} (h : Src w w.heap.size x len) (q : Int) (t : TypeId) :
    Cur (w.alloc (.cells #[.slice x len cap, .int .i64 0, .int .i64 q] t)) w.heap.size x len cap := by
  have hb : Below w.heap.size w (w.alloc (.cells #[.slice x len cap, .int .i64 0, .int .i64 q] t)) := (Below.refl _ _).alloc (Nat.le_refl _) _
  refine ⟨by simp [go_sem], h.1, by simp [go_sem], ⟨0, q, Nat.zero_le _, by simp [go_sem], by simp [go_sem]⟩, by simp [go_sem], by simp [go_sem], fun j hj => ?_⟩
  obtain ⟨b, off, z, e, hb', hz, r⟩ := h.2 j hj
  exact ⟨b, off, z, e, hb', (hb.cell (p := ⟨b, off + j, none⟩) hb').trans hz, r⟩

set_option maxHeartbeats 400000 in
theorem new_any (x : Option Addr) (len cap : Nat) (w : World) (hs : Src w w.heap.size x len) :
    Calls Tryz.prog 32 #[.slice x len cap] w fun e w' => e = .returned (.pointer (some ⟨w.heap.size, 0, none⟩)) ∧ Below w.heap.size w w' ∧ Cur w' w.heap.size x len cap := by
  obtain ⟨hm, hsrc⟩ := hs
  have HS : Hid (∀ j, j < len → ∃ b off z, x = some ⟨b, off, none⟩ ∧ b < w.heap.size ∧ w.cell? ⟨b, off + j, none⟩ = some (.int .u8 z) ∧ 0 ≤ z ∧ z ≤ 255) := hsrc
  have HM : Hid (len ≤ maxLen) := hm
  clear hsrc
  unfold maxLen at hm
  go_enter Tryz.func32, Tryz.ntmps32
  go_wp2
  go_loop [3, 4] (fun h i => ∃ (k : Nat) (q : Int), k ≤ len ∧ i = .int .i64 k ∧ h = .int .i64 q) (fun _ i => len - (intOf i).toNat)
  case atStart => exact ⟨0, _, Nat.zero_le _, rfl, rfl⟩
  case round =>
    obtain ⟨k, q, hk, rfl, rfl⟩ := hrel
    by_cases hlt : k < len
    · obtain ⟨b, off, z, rfl, hb, hz, z0, z1⟩ := HS.out k hlt
      go_wp2
      go_round
      case rel => exact ⟨k + 1, _, by omega, by go_num, rfl⟩
      case measure => simp [intOf]; omega
    · go_wp2
      go_ret
      exact ⟨rfl, (Below.refl _ _).alloc (Nat.le_refl _) _, Cur.new ⟨HM.out, HS.out⟩ _ _⟩

set_option maxHeartbeats 400000 in
theorem below_any (c : Nat) (x : Option Addr) (len cap : Nat) (n : Int) (w : World) (hn : -9223372036854775808 ≤ n ∧ n ≤ 9223372036854775807) (hc : Cur w c x len cap) :
    Calls Tryz.prog 36 #[.pointer (some ⟨c, 0, none⟩), .int .i64 n] w fun e w' => ∃ y : Int, e = .returned (.int .i64 y) ∧ (0 ≤ y ∧ (0 < n → y < n) ∧ (n ≤ 0 → y = 0)) ∧ Upto c w w' ∧ Cur w' c x len cap := by
  by_cases h0 : n ≤ 0
  · go_enter Tryz.func36, Tryz.ntmps36
    go_wp2_with fail
    go_ret
    exact ⟨0, rfl, ⟨by omega, by omega, by omega⟩, Upto.refl _ _, hc⟩
  · have h1 : 0 < n := by omega
    have hz : (n == 0) = false := by simp; omega
    by_cases h2 : n ≤ 256
    · go_enter Tryz.func36, Tryz.ntmps36
      go_wp2_with fail
      refine (byte_any c x len cap _ hc).mono ?_
      rintro e w1 ⟨y, rfl, hy, u1, k1⟩
      go_wp2_with fail
      go_ret
      exact ⟨y % n, rfl, ⟨Int.emod_nonneg _ (by omega), fun _ => Int.emod_lt_of_pos _ h1, by omega⟩, u1, k1⟩
    · go_enter Tryz.func36, Tryz.ntmps36
      go_wp2_with fail
      refine (byte_any c x len cap _ hc).mono ?_
      rintro e w1 ⟨y1, rfl, hy1, u1, k1⟩
      go_wp2_with fail
      refine (byte_any c x len cap _ k1).mono ?_
      rintro e w2 ⟨y2, rfl, hy2, u2, k2⟩
      go_wp2_with fail
      refine (byte_any c x len cap _ k2).mono ?_
      rintro e w3 ⟨y3, rfl, hy3, u3, k3⟩
      go_wp2_with fail
      refine (byte_any c x len cap _ k3).mono ?_
      rintro e w4 ⟨y4, rfl, hy4, u4, k4⟩
      go_wp2_with fail
      go_ret
      exact ⟨(y1 * 16777216 + y2 * 65536 + y3 * 256 + y4) % n, rfl, ⟨Int.emod_nonneg _ (by omega), fun _ => Int.emod_lt_of_pos _ h1, by omega⟩, u1.trans (u2.trans (u3.trans u4)), k4⟩

theorem once_any (c : Nat) (x : Option Addr) (len cap : Nat) (n : Int) (w : World) (hn : -9223372036854775808 ≤ n ∧ n ≤ 9223372036854775807) (hc : Cur w c x len cap) :
    Calls Tryz.prog 41 #[.pointer (some ⟨c, 0, none⟩), .int .i64 n] w fun e w' => ∃ y : Bool, e = .returned (.bool y) ∧ Upto c w w' ∧ Cur w' c x len cap := by
  go_enter Tryz.func41, Tryz.ntmps41
  go_wp2_with fail
  refine (below_any c x len cap n _ hn hc).mono ?_
  rintro e w1 ⟨y, rfl, hy, u1, k1⟩
  go_wp2_with fail
  go_ret
  exact ⟨_, rfl, u1, k1⟩
end Go.Proofs.YtcefcglonooelaaGreatDoor

namespace Go.Proofs.YtcefcglonooelaaGreatDoor
open Go.ChangeShapes Go.WideShapes Go.ChangeAt Go.RowKit Go.Joins

set_option linter.unusedVariables false

set_option maxRecDepth 100000


theorem open_bytes {H : Type} {enc : TypeId × Value → H} {W : World} {base : Nat} {v : Value} {d : DataW H} {p : List MemPlace} (hv : Value.okWide Tryz.prog W .any base 22 v) (h : DataW.Trod enc Tryz.prog W 0 (fun _ => true) true 22 v d p) :
    ∃ (a : Option Addr) (len cap : Nat), v = .slice a len cap ∧ Src W W.heap.size a len := by
  obtain ⟨a, len, cap, rfl⟩ := okWide_slice Tryz.underlying22 hv
  obtain ⟨n, hn⟩ := h
  refine ⟨a, len, cap, rfl, ?_⟩
  rcases open_ints Tryz.underlying22 Tryz.underlying5 (by kernel_rfl) hn with ⟨hcs, _⟩ | ⟨x, l, c, zs, hcs, _, hl, hm, hz, _, hcell, hwz⟩
  · simp [Value.cells] at hcs
    obtain ⟨rfl, rfl, rfl⟩ := hcs
    exact src_of (zs := []) (.inl ⟨rfl, rfl, rfl, rfl⟩)
  · simp [Value.cells] at hcs
    obtain ⟨rfl, rfl, rfl⟩ := hcs
    exact src_of (zs := zs) (.inr ⟨_, rfl, hl, hm, by simpa using hz, hcell, hwz⟩)
end Go.Proofs.YtcefcglonooelaaGreatDoor

