import Derived.Test.YtmnhnhjefocicaaGreatDoorRows
import Derived.ChangeSame
import Derived.ChangeVars
import Derived.RowKit
import Derived.RowKitTokens
import Derived.LaidLaws
import Derived.LaidHandle
import Derived.LaidSub
import Derived.Stop.LaidErr
import Derived.Stop.LaidTwo
import Derived.Test.YtmnhnhjefocicaaGreatDoorTie
import Derived.Test.YtmnhnhjefocicaaGreatDoorCards
import Derived.SevenTiedAt
import Derived.JoinedOf
import Derived.ProofKit
import Derived.Laws.Bits128
import Derived.IntWalk
import Derived.Test.YtmnhnhjefocicaaGreatDoorChecked
import Derived.WalkKit
import Derived.WalkSpells
import Derived.Handy
import Derived.Below
import Derived.Deep.QuietTactic
import Derived.BigQuiet
import Derived.OpenShut
import Derived.ShutString
import Derived.Lib.SmallJoins
import Derived.SliceStrings
import Derived.ChangeSlices
import Derived.Deep.Slices
import Derived.Deep.Strs
import Derived.Test.YtmnhnhjefocicaaGreatDoorM01
import Derived.Test.YtmnhnhjefocicaaGreatDoorM03
import Derived.Test.YtmnhnhjefocicaaGreatDoorM04
import Derived.Test.YtmnhnhjefocicaaGreatDoorM05
import Derived.Test.YtmnhnhjefocicaaGreatDoorM08
namespace Go.Proofs.YtmnhnhjefocicaaGreatDoor
open Go.ChangeShapes Go.WideShapes Go.RowKit
set_option linter.unusedVariables false
theorem Tryz.lEt : Tryz.prog.globalNamed "errors.errorType" = some 10 := by kernel_rfl
theorem Tryz.lRt : (Tryz.prog.cutTypes.find? (·.1 == "internal/reflectlite.rtype")).map (·.2) = some 222 := by kernel_rfl
theorem Tryz.lSize : Tryz.prog.types.size = 336 := by kernel_rfl
theorem Tryz.lOne : ((List.range 336).filter fun t => Tryz.prog.rowNamed t [101,114,114,111,114]) = [78] := by kernel_rfl
theorem Tryz.lRow : ∀ u,Tryz.prog.typeName? 3 u = some "*errors.errorString" -> u = 304 := typeName_ptr_named (nm := "errors.errorString") (by kernel_rfl) (by kernel_rfl) (by decide)
theorem Tryz.lCells : Tryz.prog.cellsOf 324 = 1 := by kernel_rfl
theorem Tryz.lCellsS : Tryz.prog.cellsOf 9 = 1 := by kernel_rfl
theorem Tryz.lGT : ∀ i ∈ 0 :: errVars,(Tryz.prog.globals[i]?).map (·.type) = some 78 := by
  intro i hi;simp only [errVars,List.mem_cons,List.mem_nil_iff,or_false] at hi;rcases hi with rfl | rfl | rfl | rfl | rfl | rfl | rfl | rfl | rfl | rfl <;> kernel_rfl
theorem Tryz.gerrWrongShelf : Tryz.prog.globalNamed "loop.example/g00372/impl.errWrongShelf" = some 0 := by kernel_rfl
theorem Tryz.gerrWrongOp : Tryz.prog.globalNamed "loop.example/g00372/impl.errWrongOp" = some 2 := by kernel_rfl
theorem Tryz.gerrNoBook : Tryz.prog.globalNamed "loop.example/g00372/impl.errNoBook" = some 3 := by kernel_rfl
theorem Tryz.gerrBookThere : Tryz.prog.globalNamed "loop.example/g00372/impl.errBookThere" = some 4 := by kernel_rfl
theorem Tryz.gerrFenced : Tryz.prog.globalNamed "loop.example/g00372/impl.errFenced" = some 5 := by kernel_rfl
theorem Tryz.gerrFixed : Tryz.prog.globalNamed "loop.example/g00372/impl.errFixed" = some 6 := by kernel_rfl
theorem Tryz.gerrRange : Tryz.prog.globalNamed "loop.example/g00372/impl.errRange" = some 7 := by kernel_rfl
theorem Tryz.gerrManyBooks : Tryz.prog.globalNamed "loop.example/g00372/impl.errManyBooks" = some 8 := by kernel_rfl
theorem Tryz.gerrWorn : Tryz.prog.globalNamed "loop.example/g00372/impl.errWorn" = some 9 := by kernel_rfl
theorem Tryz.gerrNoPage : Tryz.prog.globalNamed "loop.example/g00372/impl.errNoPage" = some 1 := by kernel_rfl
def laidTen : List (String × DataW Unit) := [("loop.example/g00372/impl.errWrongShelf",Rows.laid_loop_example_g00372_impl_errWrongShelf),("loop.example/g00372/impl.errWrongOp",Rows.laid_loop_example_g00372_impl_errWrongOp),("loop.example/g00372/impl.errNoBook",Rows.laid_loop_example_g00372_impl_errNoBook),("loop.example/g00372/impl.errBookThere",Rows.laid_loop_example_g00372_impl_errBookThere),("loop.example/g00372/impl.errFenced",Rows.laid_loop_example_g00372_impl_errFenced),("loop.example/g00372/impl.errFixed",Rows.laid_loop_example_g00372_impl_errFixed),("loop.example/g00372/impl.errRange",Rows.laid_loop_example_g00372_impl_errRange),("loop.example/g00372/impl.errManyBooks",Rows.laid_loop_example_g00372_impl_errManyBooks),("loop.example/g00372/impl.errWorn",Rows.laid_loop_example_g00372_impl_errWorn),("loop.example/g00372/impl.errNoPage",Rows.laid_loop_example_g00372_impl_errNoPage)]
def laidAll : List (String × DataW Unit) := ("errors.errorType",Rows.laid_errors_errorType) :: laidTen
theorem two_laid {W : World} {n0 n1 : String} {t0 t1 : List UInt8} {g0 g1 : Nat} (h : laidMet Tryz.prog [(n0,.iface "*errors.errorString" (.ptr (.agg [.lit (.string t0)]))),(n1,.iface "*errors.errorString" (.ptr (.agg [.lit (.string t1)])))] W) (hg0 : Tryz.prog.globalNamed n0 = some g0) (ht0 : (Tryz.prog.globals[g0]?).map (·.type) = some 78) (hg1 : Tryz.prog.globalNamed n1 = some g1) (ht1 : (Tryz.prog.globals[g1]?).map (·.type) = some 78) :
    ∃ (a0 a1 : Addr) (c0 c1 : Array Value) (s0 s1 : TypeId),W.cell? ⟨g0,0,none⟩ = some (.iface 304 (.pointer (some a0))) /\ W.cell? ⟨g1,0,none⟩ = some (.iface 304 (.pointer (some a1))) /\ a0 ≠ a1 /\ W.heap[a0.block]? = some (.cells c0 s0 (0,0)) /\ W.heap[a1.block]? = some (.cells c1 s1 (0,0)) := by
  obtain ⟨a0,a1,s0,s1,c0,c1,u0,u1,hv0,hv1,-,-,-,-,-,-,hne,hb0,hb1⟩ := laid_sentinels2 h hg0 ht0 hg1 ht1 Tryz.underlying78 Tryz.lRow Tryz.underlying304 Tryz.underlying324 rfl rfl Tryz.underlying9 Tryz.lCells Tryz.lCellsS;exact ⟨a0,a1,c0,c1,u0,u1,by simpa using World.var?_cell hg0 hv0 0,by simpa using World.var?_cell hg1 hv1 0,hne,hb0,hb1⟩
theorem handle_laid {W : World} {l : List (String × DataW Unit)} (h : handlesMet Tryz.prog (("errors.errorType",Rows.laid_errors_errorType) :: l) W) : W.cell? ⟨10,0,none⟩ = some (.iface 222 (.agg #[.pointer (some ⟨12,78,none⟩)])) := by
  obtain ⟨name,u,ty,e1,e2,e3,e4,e5⟩ := h _ (List.mem_cons_self ..);have en : name = [101,114,114,111,114] := (Option.some.inj e1).symm;subst en;obtain rfl := Option.some.inj (Tryz.lRt.symm.trans e2);have hm : ty ∈ (List.range 336).filter fun t => Tryz.prog.rowNamed t [101,114,114,111,114] := List.mem_filter.2 ⟨List.mem_range.2 (by rw [<- Tryz.lSize];exact e3),e4⟩
  rw [Tryz.lOne] at hm;obtain rfl := List.mem_singleton.1 hm;have hh : typeHandle Tryz.prog 78 = .pointer (some ⟨12,78,none⟩) := by kernel_rfl
  rw [hh] at e5
  simpa using World.var?_cell Tryz.lEt e5 0
def adOf (W : World) (i : Nat) : Addr := match W.cell? ⟨i,0,none⟩ with
  | some (.iface _ (.pointer (some a))) => a
  | _ => ⟨0,0,none⟩
theorem adOf_eq {W : World} {i : Nat} {t : TypeId} {a : Addr} (h : W.cell? ⟨i,0,none⟩ = some (.iface t (.pointer (some a)))) : adOf W i = a := by rw [adOf,h]
theorem pair_serrWrongOp {W : World} (h : laidMet Tryz.prog laidTen W) : ∃ (a0 a1 : Addr) (c0 c1 : Array Value) (s0 s1 : TypeId),W.cell? ⟨0,0,none⟩ = some (.iface 304 (.pointer (some a0))) /\ W.cell? ⟨2,0,none⟩ = some (.iface 304 (.pointer (some a1))) /\ a0 ≠ a1 /\ W.heap[a0.block]? = some (.cells c0 s0 (0,0)) /\ W.heap[a1.block]? = some (.cells c1 s1 (0,0)) := by
  have h2 := laidMet.filter (fun x => x.1 == "loop.example/g00372/impl.errWrongShelf" || x.1 == "loop.example/g00372/impl.errWrongOp") h;have e : laidTen.filter (fun x => x.1 == "loop.example/g00372/impl.errWrongShelf" || x.1 == "loop.example/g00372/impl.errWrongOp") = [("loop.example/g00372/impl.errWrongShelf",Rows.laid_loop_example_g00372_impl_errWrongShelf),("loop.example/g00372/impl.errWrongOp",Rows.laid_loop_example_g00372_impl_errWrongOp)] := by simp [laidTen]
  rw [e] at h2;exact two_laid h2 Tryz.gerrWrongShelf (Tryz.lGT _ (by decide)) Tryz.gerrWrongOp (Tryz.lGT _ (by decide))
theorem pair_serrNoBook {W : World} (h : laidMet Tryz.prog laidTen W) : ∃ (a0 a1 : Addr) (c0 c1 : Array Value) (s0 s1 : TypeId),W.cell? ⟨0,0,none⟩ = some (.iface 304 (.pointer (some a0))) /\ W.cell? ⟨3,0,none⟩ = some (.iface 304 (.pointer (some a1))) /\ a0 ≠ a1 /\ W.heap[a0.block]? = some (.cells c0 s0 (0,0)) /\ W.heap[a1.block]? = some (.cells c1 s1 (0,0)) := by
  have h2 := laidMet.filter (fun x => x.1 == "loop.example/g00372/impl.errWrongShelf" || x.1 == "loop.example/g00372/impl.errNoBook") h;have e : laidTen.filter (fun x => x.1 == "loop.example/g00372/impl.errWrongShelf" || x.1 == "loop.example/g00372/impl.errNoBook") = [("loop.example/g00372/impl.errWrongShelf",Rows.laid_loop_example_g00372_impl_errWrongShelf),("loop.example/g00372/impl.errNoBook",Rows.laid_loop_example_g00372_impl_errNoBook)] := by simp [laidTen]
  rw [e] at h2;exact two_laid h2 Tryz.gerrWrongShelf (Tryz.lGT _ (by decide)) Tryz.gerrNoBook (Tryz.lGT _ (by decide))
theorem pair_serrBookThere {W : World} (h : laidMet Tryz.prog laidTen W) : ∃ (a0 a1 : Addr) (c0 c1 : Array Value) (s0 s1 : TypeId),W.cell? ⟨0,0,none⟩ = some (.iface 304 (.pointer (some a0))) /\ W.cell? ⟨4,0,none⟩ = some (.iface 304 (.pointer (some a1))) /\ a0 ≠ a1 /\ W.heap[a0.block]? = some (.cells c0 s0 (0,0)) /\ W.heap[a1.block]? = some (.cells c1 s1 (0,0)) := by
  have h2 := laidMet.filter (fun x => x.1 == "loop.example/g00372/impl.errWrongShelf" || x.1 == "loop.example/g00372/impl.errBookThere") h;have e : laidTen.filter (fun x => x.1 == "loop.example/g00372/impl.errWrongShelf" || x.1 == "loop.example/g00372/impl.errBookThere") = [("loop.example/g00372/impl.errWrongShelf",Rows.laid_loop_example_g00372_impl_errWrongShelf),("loop.example/g00372/impl.errBookThere",Rows.laid_loop_example_g00372_impl_errBookThere)] := by simp [laidTen]
  rw [e] at h2;exact two_laid h2 Tryz.gerrWrongShelf (Tryz.lGT _ (by decide)) Tryz.gerrBookThere (Tryz.lGT _ (by decide))
theorem pair_serrFenced {W : World} (h : laidMet Tryz.prog laidTen W) : ∃ (a0 a1 : Addr) (c0 c1 : Array Value) (s0 s1 : TypeId),W.cell? ⟨0,0,none⟩ = some (.iface 304 (.pointer (some a0))) /\ W.cell? ⟨5,0,none⟩ = some (.iface 304 (.pointer (some a1))) /\ a0 ≠ a1 /\ W.heap[a0.block]? = some (.cells c0 s0 (0,0)) /\ W.heap[a1.block]? = some (.cells c1 s1 (0,0)) := by
  have h2 := laidMet.filter (fun x => x.1 == "loop.example/g00372/impl.errWrongShelf" || x.1 == "loop.example/g00372/impl.errFenced") h;have e : laidTen.filter (fun x => x.1 == "loop.example/g00372/impl.errWrongShelf" || x.1 == "loop.example/g00372/impl.errFenced") = [("loop.example/g00372/impl.errWrongShelf",Rows.laid_loop_example_g00372_impl_errWrongShelf),("loop.example/g00372/impl.errFenced",Rows.laid_loop_example_g00372_impl_errFenced)] := by simp [laidTen]
  rw [e] at h2;exact two_laid h2 Tryz.gerrWrongShelf (Tryz.lGT _ (by decide)) Tryz.gerrFenced (Tryz.lGT _ (by decide))
theorem pair_serrFixed {W : World} (h : laidMet Tryz.prog laidTen W) : ∃ (a0 a1 : Addr) (c0 c1 : Array Value) (s0 s1 : TypeId),W.cell? ⟨0,0,none⟩ = some (.iface 304 (.pointer (some a0))) /\ W.cell? ⟨6,0,none⟩ = some (.iface 304 (.pointer (some a1))) /\ a0 ≠ a1 /\ W.heap[a0.block]? = some (.cells c0 s0 (0,0)) /\ W.heap[a1.block]? = some (.cells c1 s1 (0,0)) := by
  have h2 := laidMet.filter (fun x => x.1 == "loop.example/g00372/impl.errWrongShelf" || x.1 == "loop.example/g00372/impl.errFixed") h;have e : laidTen.filter (fun x => x.1 == "loop.example/g00372/impl.errWrongShelf" || x.1 == "loop.example/g00372/impl.errFixed") = [("loop.example/g00372/impl.errWrongShelf",Rows.laid_loop_example_g00372_impl_errWrongShelf),("loop.example/g00372/impl.errFixed",Rows.laid_loop_example_g00372_impl_errFixed)] := by simp [laidTen]
  rw [e] at h2;exact two_laid h2 Tryz.gerrWrongShelf (Tryz.lGT _ (by decide)) Tryz.gerrFixed (Tryz.lGT _ (by decide))
theorem pair_serrRange {W : World} (h : laidMet Tryz.prog laidTen W) : ∃ (a0 a1 : Addr) (c0 c1 : Array Value) (s0 s1 : TypeId),W.cell? ⟨0,0,none⟩ = some (.iface 304 (.pointer (some a0))) /\ W.cell? ⟨7,0,none⟩ = some (.iface 304 (.pointer (some a1))) /\ a0 ≠ a1 /\ W.heap[a0.block]? = some (.cells c0 s0 (0,0)) /\ W.heap[a1.block]? = some (.cells c1 s1 (0,0)) := by
  have h2 := laidMet.filter (fun x => x.1 == "loop.example/g00372/impl.errWrongShelf" || x.1 == "loop.example/g00372/impl.errRange") h;have e : laidTen.filter (fun x => x.1 == "loop.example/g00372/impl.errWrongShelf" || x.1 == "loop.example/g00372/impl.errRange") = [("loop.example/g00372/impl.errWrongShelf",Rows.laid_loop_example_g00372_impl_errWrongShelf),("loop.example/g00372/impl.errRange",Rows.laid_loop_example_g00372_impl_errRange)] := by simp [laidTen]
  rw [e] at h2;exact two_laid h2 Tryz.gerrWrongShelf (Tryz.lGT _ (by decide)) Tryz.gerrRange (Tryz.lGT _ (by decide))
theorem pair_serrManyBooks {W : World} (h : laidMet Tryz.prog laidTen W) : ∃ (a0 a1 : Addr) (c0 c1 : Array Value) (s0 s1 : TypeId),W.cell? ⟨0,0,none⟩ = some (.iface 304 (.pointer (some a0))) /\ W.cell? ⟨8,0,none⟩ = some (.iface 304 (.pointer (some a1))) /\ a0 ≠ a1 /\ W.heap[a0.block]? = some (.cells c0 s0 (0,0)) /\ W.heap[a1.block]? = some (.cells c1 s1 (0,0)) := by
  have h2 := laidMet.filter (fun x => x.1 == "loop.example/g00372/impl.errWrongShelf" || x.1 == "loop.example/g00372/impl.errManyBooks") h;have e : laidTen.filter (fun x => x.1 == "loop.example/g00372/impl.errWrongShelf" || x.1 == "loop.example/g00372/impl.errManyBooks") = [("loop.example/g00372/impl.errWrongShelf",Rows.laid_loop_example_g00372_impl_errWrongShelf),("loop.example/g00372/impl.errManyBooks",Rows.laid_loop_example_g00372_impl_errManyBooks)] := by simp [laidTen]
  rw [e] at h2;exact two_laid h2 Tryz.gerrWrongShelf (Tryz.lGT _ (by decide)) Tryz.gerrManyBooks (Tryz.lGT _ (by decide))
theorem pair_serrWorn {W : World} (h : laidMet Tryz.prog laidTen W) : ∃ (a0 a1 : Addr) (c0 c1 : Array Value) (s0 s1 : TypeId),W.cell? ⟨0,0,none⟩ = some (.iface 304 (.pointer (some a0))) /\ W.cell? ⟨9,0,none⟩ = some (.iface 304 (.pointer (some a1))) /\ a0 ≠ a1 /\ W.heap[a0.block]? = some (.cells c0 s0 (0,0)) /\ W.heap[a1.block]? = some (.cells c1 s1 (0,0)) := by
  have h2 := laidMet.filter (fun x => x.1 == "loop.example/g00372/impl.errWrongShelf" || x.1 == "loop.example/g00372/impl.errWorn") h;have e : laidTen.filter (fun x => x.1 == "loop.example/g00372/impl.errWrongShelf" || x.1 == "loop.example/g00372/impl.errWorn") = [("loop.example/g00372/impl.errWrongShelf",Rows.laid_loop_example_g00372_impl_errWrongShelf),("loop.example/g00372/impl.errWorn",Rows.laid_loop_example_g00372_impl_errWorn)] := by simp [laidTen]
  rw [e] at h2;exact two_laid h2 Tryz.gerrWrongShelf (Tryz.lGT _ (by decide)) Tryz.gerrWorn (Tryz.lGT _ (by decide))
theorem pair_serrNoPage {W : World} (h : laidMet Tryz.prog laidTen W) : ∃ (a0 a1 : Addr) (c0 c1 : Array Value) (s0 s1 : TypeId),W.cell? ⟨0,0,none⟩ = some (.iface 304 (.pointer (some a0))) /\ W.cell? ⟨1,0,none⟩ = some (.iface 304 (.pointer (some a1))) /\ a0 ≠ a1 /\ W.heap[a0.block]? = some (.cells c0 s0 (0,0)) /\ W.heap[a1.block]? = some (.cells c1 s1 (0,0)) := by
  have h2 := laidMet.filter (fun x => x.1 == "loop.example/g00372/impl.errWrongShelf" || x.1 == "loop.example/g00372/impl.errNoPage") h;have e : laidTen.filter (fun x => x.1 == "loop.example/g00372/impl.errWrongShelf" || x.1 == "loop.example/g00372/impl.errNoPage") = [("loop.example/g00372/impl.errWrongShelf",Rows.laid_loop_example_g00372_impl_errWrongShelf),("loop.example/g00372/impl.errNoPage",Rows.laid_loop_example_g00372_impl_errNoPage)] := by simp [laidTen]
  rw [e] at h2;exact two_laid h2 Tryz.gerrWrongShelf (Tryz.lGT _ (by decide)) Tryz.gerrNoPage (Tryz.lGT _ (by decide))
theorem vars_ten {W : World} (h : laidMetH Tryz.prog laidAll W) : VarsS W (adOf W) := by
  have h' : laidMet Tryz.prog laidTen W /\ handlesMet Tryz.prog [("errors.errorType",Rows.laid_errors_errorType)] W := h;have het := handle_laid h'.2;obtain ⟨x0,aerrWrongOp,c0,cerrWrongOp,s0,terrWrongOp,k0,kerrWrongOp,nerrWrongOp,b0,berrWrongOp⟩ := pair_serrWrongOp h'.1;rw [<- adOf_eq k0,<- adOf_eq kerrWrongOp] at nerrWrongOp;clear b0;obtain ⟨x0,aerrNoBook,c0,cerrNoBook,s0,terrNoBook,k0,kerrNoBook,nerrNoBook,b0,berrNoBook⟩ := pair_serrNoBook h'.1;rw [<- adOf_eq k0,<- adOf_eq kerrNoBook] at nerrNoBook;clear b0;obtain ⟨x0,aerrBookThere,c0,cerrBookThere,s0,terrBookThere,k0,kerrBookThere,nerrBookThere,b0,berrBookThere⟩ := pair_serrBookThere h'.1;rw [<- adOf_eq k0,<- adOf_eq kerrBookThere] at nerrBookThere;clear b0;obtain ⟨x0,aerrFenced,c0,cerrFenced,s0,terrFenced,k0,kerrFenced,nerrFenced,b0,berrFenced⟩ := pair_serrFenced h'.1;rw [<- adOf_eq k0,<- adOf_eq kerrFenced] at nerrFenced;clear b0;obtain ⟨x0,aerrFixed,c0,cerrFixed,s0,terrFixed,k0,kerrFixed,nerrFixed,b0,berrFixed⟩ := pair_serrFixed h'.1;rw [<- adOf_eq k0,<- adOf_eq kerrFixed] at nerrFixed;clear b0;obtain ⟨x0,aerrRange,c0,cerrRange,s0,terrRange,k0,kerrRange,nerrRange,b0,berrRange⟩ := pair_serrRange h'.1;rw [<- adOf_eq k0,<- adOf_eq kerrRange] at nerrRange;clear b0;obtain ⟨x0,aerrManyBooks,c0,cerrManyBooks,s0,terrManyBooks,k0,kerrManyBooks,nerrManyBooks,b0,berrManyBooks⟩ := pair_serrManyBooks h'.1;rw [<- adOf_eq k0,<- adOf_eq kerrManyBooks] at nerrManyBooks;clear b0;obtain ⟨x0,aerrWorn,c0,cerrWorn,s0,terrWorn,k0,kerrWorn,nerrWorn,b0,berrWorn⟩ := pair_serrWorn h'.1;rw [<- adOf_eq k0,<- adOf_eq kerrWorn] at nerrWorn;clear b0;obtain ⟨x0,aerrNoPage,c0,cerrNoPage,s0,terrNoPage,k0,kerrNoPage,nerrNoPage,b0,berrNoPage⟩ := pair_serrNoPage h'.1;rw [<- adOf_eq k0,<- adOf_eq kerrNoPage] at nerrNoPage;refine ⟨⟨?_,het,?_⟩,by rw [adOf_eq k0];exact k0,?_,⟨c0,s0,by rw [adOf_eq k0];exact b0⟩⟩
  · intro i hi
    simp only [errVars,List.mem_cons,List.mem_nil_iff,or_false] at hi;rcases hi with rfl | rfl | rfl | rfl | rfl | rfl | rfl | rfl | rfl
    · rw [adOf_eq kerrWrongOp];exact kerrWrongOp
    · rw [adOf_eq kerrNoBook];exact kerrNoBook
    · rw [adOf_eq kerrBookThere];exact kerrBookThere
    · rw [adOf_eq kerrFenced];exact kerrFenced
    · rw [adOf_eq kerrFixed];exact kerrFixed
    · rw [adOf_eq kerrRange];exact kerrRange
    · rw [adOf_eq kerrManyBooks];exact kerrManyBooks
    · rw [adOf_eq kerrWorn];exact kerrWorn
    · rw [adOf_eq kerrNoPage];exact kerrNoPage
  · intro i hi
    simp only [errVars,List.mem_cons,List.mem_nil_iff,or_false] at hi;rcases hi with rfl | rfl | rfl | rfl | rfl | rfl | rfl | rfl | rfl
    · exact ⟨cerrWrongOp,terrWrongOp,by rw [adOf_eq kerrWrongOp];exact berrWrongOp⟩
    · exact ⟨cerrNoBook,terrNoBook,by rw [adOf_eq kerrNoBook];exact berrNoBook⟩
    · exact ⟨cerrBookThere,terrBookThere,by rw [adOf_eq kerrBookThere];exact berrBookThere⟩
    · exact ⟨cerrFenced,terrFenced,by rw [adOf_eq kerrFenced];exact berrFenced⟩
    · exact ⟨cerrFixed,terrFixed,by rw [adOf_eq kerrFixed];exact berrFixed⟩
    · exact ⟨cerrRange,terrRange,by rw [adOf_eq kerrRange];exact berrRange⟩
    · exact ⟨cerrManyBooks,terrManyBooks,by rw [adOf_eq kerrManyBooks];exact berrManyBooks⟩
    · exact ⟨cerrWorn,terrWorn,by rw [adOf_eq kerrWorn];exact berrWorn⟩
    · exact ⟨cerrNoPage,terrNoPage,by rw [adOf_eq kerrNoPage];exact berrNoPage⟩
  · intro i hi
    simp only [errVars,List.mem_cons,List.mem_nil_iff,or_false] at hi;rcases hi with rfl | rfl | rfl | rfl | rfl | rfl | rfl | rfl | rfl
    · exact fun e => nerrWrongOp e.symm
    · exact fun e => nerrNoBook e.symm
    · exact fun e => nerrBookThere e.symm
    · exact fun e => nerrFenced e.symm
    · exact fun e => nerrFixed e.symm
    · exact fun e => nerrRange e.symm
    · exact fun e => nerrManyBooks e.symm
    · exact fun e => nerrWorn e.symm
    · exact fun e => nerrNoPage e.symm
abbrev xerrWrongShelf : ByteArray := { data := #[116,104,101,32,115,104,101,108,102,32,105,115,32,110,111,116,32,114,105,103,104,116] }
abbrev xerrWrongOp : ByteArray := { data := #[116,104,101,32,111,112,32,105,115,32,110,111,116,32,114,105,103,104,116] }
abbrev xerrNoBook : ByteArray := { data := #[116,104,101,114,101,32,105,115,32,110,111,32,115,117,99,104,32,98,111,111,107] }
abbrev xerrBookThere : ByteArray := { data := #[116,104,101,114,101,32,105,115,32,115,117,99,104,32,97,32,98,111,111,107,32,97,108,114,101,97,100,121] }
abbrev xerrFenced : ByteArray := { data := #[116,104,101,32,101,112,111,99,104,32,105,115,32,98,101,108,111,119,32,116,104,101,32,98,111,111,107,39,115] }
abbrev xerrFixed : ByteArray := { data := #[116,104,101,32,98,111,111,107,32,105,115,32,102,105,120,101,100] }
abbrev xerrRange : ByteArray := { data := #[116,104,101,32,112,108,97,99,101,32,105,115,32,110,111,116,32,98,101,108,111,119,32,116,104,101,32,98,111,111,107,39,115,32,115,105,122,101] }
abbrev xerrManyBooks : ByteArray := { data := #[116,104,101,114,101,32,105,115,32,110,111,32,114,111,111,109,32,102,111,114,32,111,110,101,32,109,111,114,101,32,98,111,111,107] }
abbrev xerrWorn : ByteArray := { data := #[116,104,101,32,98,111,111,107,39,115,32,101,112,111,99,104,32,105,115,32,116,104,101,32,108,97,115,116,32,111,110,101] }
abbrev xerrNoPage : ByteArray := { data := #[116,104,101,114,101,32,105,115,32,110,111,32,112,97,103,101,32,116,111,32,115,112,97,114,101] }
noncomputable def low : Nat := (World.holding Tryz.prog default ⟨#[],#[],[]⟩).heap.size
noncomputable def laidWorld (os : Os) : World :=
  let w0 := World.holding Tryz.prog os ⟨#[.cells #[.string xerrWrongShelf] 324,.cells #[.string xerrWrongOp] 324,.cells #[.string xerrNoBook] 324,.cells #[.string xerrBookThere] 324,.cells #[.string xerrFenced] 324,.cells #[.string xerrFixed] 324,.cells #[.string xerrRange] 324,.cells #[.string xerrManyBooks] 324,.cells #[.string xerrWorn] 324,.cells #[.string xerrNoPage] 324],#[],[]⟩
  { w0 with heap := ((((((((((w0.heap.modify 0 fun
      | .cells _ t frozen => .cells #[.iface 304 (.pointer (some ⟨low + 0,0,none⟩))] t frozen
      | o => o).modify 2 fun
      | .cells _ t frozen => .cells #[.iface 304 (.pointer (some ⟨low + 1,0,none⟩))] t frozen
      | o => o).modify 3 fun
      | .cells _ t frozen => .cells #[.iface 304 (.pointer (some ⟨low + 2,0,none⟩))] t frozen
      | o => o).modify 4 fun
      | .cells _ t frozen => .cells #[.iface 304 (.pointer (some ⟨low + 3,0,none⟩))] t frozen
      | o => o).modify 5 fun
      | .cells _ t frozen => .cells #[.iface 304 (.pointer (some ⟨low + 4,0,none⟩))] t frozen
      | o => o).modify 6 fun
      | .cells _ t frozen => .cells #[.iface 304 (.pointer (some ⟨low + 5,0,none⟩))] t frozen
      | o => o).modify 7 fun
      | .cells _ t frozen => .cells #[.iface 304 (.pointer (some ⟨low + 6,0,none⟩))] t frozen
      | o => o).modify 8 fun
      | .cells _ t frozen => .cells #[.iface 304 (.pointer (some ⟨low + 7,0,none⟩))] t frozen
      | o => o).modify 9 fun
      | .cells _ t frozen => .cells #[.iface 304 (.pointer (some ⟨low + 8,0,none⟩))] t frozen
      | o => o).modify 1 fun
      | .cells _ t frozen => .cells #[.iface 304 (.pointer (some ⟨low + 9,0,none⟩))] t frozen
      | o => o).modify 10 fun
      | .cells _ t frozen => .cells #[.iface 222 (.agg #[.pointer (some ⟨12,78,none⟩)])] t frozen
      | o => o }
set_option maxRecDepth 100000 in
theorem laid_ten (os : Os) (args : Array Value) : laidMetH Tryz.prog laidAll ((laidWorld os).forCall (fun _ _ => 0) ⟨#[],args,[]⟩).memory :=
  laidMetH_of_parts (show laidMet Tryz.prog laidTen _ from laidMet_of_run (ps := [.cell 0 0,.cell (low + 0) 0,.cell 2 0,.cell (low + 1) 0,.cell 3 0,.cell (low + 2) 0,.cell 4 0,.cell (low + 3) 0,.cell 5 0,.cell (low + 4) 0,.cell 6 0,.cell (low + 5) 0,.cell 7 0,.cell (low + 6) 0,.cell 8 0,.cell (low + 7) 0,.cell 9 0,.cell (low + 8) 0,.cell 1 0,.cell (low + 9) 0]) 8 (by kernel_rfl) (by kernel_rfl) (by kernel_rfl)) (by kernel_rfl)
end Go.Proofs.YtmnhnhjefocicaaGreatDoor
namespace Go.Proofs.YtmnhnhjefocicaaGreatDoor.fnExactDid
open Go
set_option linter.unusedVariables false
theorem both {a b : Bool} (h : a = true) (k : b = true) : (a && b) = true := by rw [h,k];rfl
theorem hfn : Tryz.prog.funcNamed Rows.fnExactDidRow.func = some 6 := by kernel_rfl
set_option maxRecDepth 100000 in
set_option maxHeartbeats 12800000 in
theorem closed : joinedFacts Tryz.prog 6 Tryz.f6 Rows.fnExactDidSpec Rows.fnExactDidRow = true := by
  unfold joinedFacts;refine both (both (both (both (both (both (both (both (both (both (both (both (both (both (both (both (both (both (both (both (both (both (both (both (both (both (both (both (both (both (both ?_ ?_) ?_) ?_) ?_) ?_) ?_) ?_) ?_) ?_) ?_) ?_) ?_) ?_) ?_) ?_) ?_) ?_) ?_) ?_) ?_) ?_) ?_) ?_) ?_) ?_) ?_) ?_) ?_) ?_) ?_) ?_
  all_goals as_aux_lemma => kernel_rfl
theorem hinst : Tryz.f6.isInstance Tryz.prog Rows.fnExactDidRow.origin Rows.fnExactDidRow.targs := of_decide_eq_true (by kernel_rfl)
theorem hwrap : Tryz.f6.isWrapper Tryz.prog Rows.fnExactDidRow.wrapper Rows.fnExactDidRow.mainSum := by unfold Func.isWrapper;first | (rw [if_pos (by decide +kernel)];kernel_rfl) | (rw [if_neg (by decide +kernel)];exact ⟨rfl,rfl⟩)
theorem byText : Rows.fnExactDidRow.wfByText (OpenSpec.ofChange Rows.fnExactDidSpec) = true := by kernel_rfl
theorem mainIs : Tryz.prog.mainIs = some (true,"fbb5437293b861e008a33db5ba199a23dcadf5ef55dd8b25bde528d5c500072c".toList) := by kernel_rfl
theorem looks : true = Tryz.prog.looks [] := by kernel_rfl
theorem goes : false = Rows.fnExactDidRow.goesBy Tryz.prog := by kernel_rfl
theorem stand56 : Tryz.prog.wantsStandIn 56 = false := by kernel_rfl
theorem stand57 : Tryz.prog.wantsStandIn 57 = false := by kernel_rfl
end Go.Proofs.YtmnhnhjefocicaaGreatDoor.fnExactDid
namespace Go.Proofs.YtmnhnhjefocicaaGreatDoor
open Go.RowKit
set_option linter.unusedVariables false
set_option maxRecDepth 100000
def Src (w : World) (c : Nat) (x : Option Addr) (len : Nat) : Prop :=
  len <= maxLen /\ ∀ j,j < len -> ∃ b off z,x = some ⟨b,off,none⟩ /\ b < c /\ w.cell? ⟨b,off + j,none⟩ = some (.int .u8 z) /\ 0 <= z /\ z <= 255
theorem Src.below {w w' : World} {c : Nat} {x : Option Addr} {len : Nat} (h : Src w c x len) (k : Below c w w') : Src w' c x len :=
  ⟨h.1,fun j hj => by obtain ⟨b,off,z,e,hb,hz,r⟩ := h.2 j hj;exact ⟨b,off,z,e,hb,(k.cell (p := ⟨b,off + j,none⟩) hb).trans hz,r⟩⟩
theorem Src.mono {w : World} {c d : Nat} {x : Option Addr} {len : Nat} (h : Src w c x len) (k : c <= d) : Src w d x len :=
  ⟨h.1,fun j hj => by obtain ⟨b,off,z,e,hb,r⟩ := h.2 j hj;exact ⟨b,off,z,e,Nat.lt_of_lt_of_le hb k,r⟩⟩
theorem Cur.new {w : World} {x : Option Addr} {len cap : Nat} (h : Src w w.heap.size x len) (q : Int) (t : TypeId) :
    Cur (w.alloc (.cells #[.slice x len cap,.int .i64 0,.int .i64 q] t)) w.heap.size x len cap := by
  have hb : Below w.heap.size w (w.alloc (.cells #[.slice x len cap,.int .i64 0,.int .i64 q] t)) := (Below.refl _ _).alloc (Nat.le_refl _) _;refine ⟨by simp [go_sem],h.1,by simp [go_sem],⟨0,q,Nat.zero_le _,by simp [go_sem],by simp [go_sem]⟩,by simp [go_sem],by simp [go_sem],fun j hj => ?_⟩;obtain ⟨b,off,z,e,hb',hz,r⟩ := h.2 j hj;exact ⟨b,off,z,e,hb',(hb.cell (p := ⟨b,off + j,none⟩) hb').trans hz,r⟩
end Go.Proofs.YtmnhnhjefocicaaGreatDoor
namespace Go.Proofs.YtmnhnhjefocicaaGreatDoor
open Go.ChangeShapes Go.WideShapes Go.ChangeAt Go.RowKit Go.Joins
open Go.ChangeMaps (open_string)
set_option linter.unusedVariables false
set_option maxRecDepth 100000
theorem row_i64 {H : Type} {enc : TypeId × Value -> H} {W : World} {n : Nat} {v : Value} {y : DataW H × List MemPlace} (h : DataW.trod enc Tryz.prog W 0 (fun _ => true) true n 37 [v] = some y) :
    ∃ xs : List Int,Reads W.heap.size W v (xs.map (Value.int .i64)) /\ ∀ x ∈ xs,(Lit.int .i64 x).wf = true := by
  rcases open_ints Tryz.underlying37 Tryz.underlying2 (by kernel_rfl) h with ⟨hcs,_⟩ | ⟨x,len,cap,zs,hcs,_,hl,hm,hz,_,hcell,hwz⟩
  · simp at hcs
    subst hcs;exact ⟨[],⟨none,0,rfl,Nat.zero_le _,fun j u hj => absurd hj (by simp),Nat.le_refl _⟩,fun x hx => absurd hx (by simp)⟩
  · simp at hcs
    subst hcs;have hzz : zs.length = cap := by simpa using hz
    refine ⟨zs.take len,⟨some x,cap,by simp;omega,by simp;omega,fun j u hj => ?_,by simp;omega⟩,fun y hy => hwz y (List.mem_of_mem_take hy)⟩;have hjl : j < len := by have := (List.getElem?_eq_some_iff.1 hj).1;simp at this;omega
    have hc := hcell j (by omega);obtain ⟨b,off,spot⟩ := x;have hspot : spot = none := by simpa [Addr.add] using World.cell?_spot (hcell 0 (by omega))
    subst hspot;have e : (⟨b,off,none⟩ : Addr).add j = ⟨b,off + j,none⟩ := by unfold Addr.add;split <;> simp_all
    rw [e] at hc
    have hb : b < W.heap.size := by
      rcases Nat.lt_or_ge b W.heap.size with q | q
      · exact q
      · simp [World.cell?,Array.getElem?_eq_none q] at hc
    refine ⟨b,off,rfl,hb,?_⟩;rw [hc,<- hj,List.getElem?_map,List.getElem?_take_of_lt hjl,List.getD_eq_getElem?_getD,List.getElem?_eq_getElem (by omega)]
    rfl
end Go.Proofs.YtmnhnhjefocicaaGreatDoor
namespace Go.Proofs.YtmnhnhjefocicaaGreatDoor
open Go.ChangeShapes Go.WideShapes Go.ChangeAt Go.RowKit Go.Deep
set_option linter.unusedVariables false
set_option maxRecDepth 100000
theorem lit_i64 {a : Int} (h : (Lit.int .i64 a).wf = true) : -9223372036854775808 <= a /\ a <= 9223372036854775807 := by simpa [Lit.wf,IntKind.min,IntKind.max,IntKind.signed,IntKind.bits] using h
theorem row_runs {H : Type} {enc : TypeId × Value -> H} {W : World} {n : Nat} {v : Value} {y : DataW H × List MemPlace} (h : DataW.trod enc Tryz.prog W 0 (fun _ => true) true n 161 [v] = some y) :
    ∃ xs : List (Int × Int × Int),ReadsR 3 runC W.heap.size W v xs /\ FitRuns xs := by
  rcases open_slice Tryz.underlying161 h with ⟨hcs,_⟩ | ⟨a,len,cap,m,k,D,Pl,hcs,_,hl,hm,hmm,_,hx⟩
  · simp at hcs
    subst hcs;exact ⟨[],ReadsR.nil _ _ _ _,fun r hr => by cases hr⟩
  · simp at hcs
    subst hcs;have hlm : len <= m := by rw [hmm];split <;> omega
    have ce : Tryz.prog.cellsOf 252 = 3 := by kernel_rfl
    have c1 : Tryz.prog.cellsOf 2 = 1 := by kernel_rfl
    have each : ∀ i,i < len -> ∃ r : Int × Int × Int,(∀ j u,(runC r)[j]? = some u -> W.cell? (a.add (i * 3 + j)) = some u) /\ I64 r.1 /\ I64 r.2.1 /\ I64 r.2.2 := by
      intro i hi;obtain ⟨cs',h1,h2⟩ := hx i (by omega);rw [ce] at h1;obtain ⟨_,hlen,hcell⟩ := World.cells?_some h1;obtain ⟨y0,y1,y2,n',_,_,t0,t1,t2⟩ := trod_struct3 Tryz.underlying252 h2
      match cs',hlen with
      | [v0,v1,v2],_ =>
        simp [c1] at t0 t1 t2;obtain ⟨f,e0,_,z0⟩ := DataW.trod_int Tryz.underlying2 t0;obtain ⟨c,e1,_,z1⟩ := DataW.trod_int Tryz.underlying2 t1;obtain ⟨p,e2,_,z2⟩ := DataW.trod_int Tryz.underlying2 t2;simp at e0 e1 e2;subst e0 e1 e2;refine ⟨(f,c,p),fun j u hj => ?_,lit_i64 z0,lit_i64 z1,lit_i64 z2⟩;have hj3 : j < 3 := by have := (List.getElem?_eq_some_iff.1 hj).1;rwa [runC_len] at this
        have q := hcell j hj3;rw [add_add] at q;rw [q];exact hj
    obtain ⟨r,hr⟩ := choose_lt each
    have hfit : FitRuns ((List.range len).map r) := fun x hx => by
      obtain ⟨i,hi,rfl⟩ := List.mem_map.1 hx;exact (hr i (List.mem_range.1 hi)).2
    refine ⟨(List.range len).map r,⟨some a,cap,by simp,by simp;omega,fun i x hi => ?_,by simp;omega⟩,hfit⟩;have hil : i < len := by have := (List.getElem?_eq_some_iff.1 hi).1;simpa using this
    have ex : r i = x := by
      rw [List.getElem?_map,List.getElem?_range hil] at hi
      simpa using hi
    have h0 := (hr i hil).1;rw [ex] at h0;obtain ⟨b,off,spot⟩ := a;have hspot : spot = none := by simpa [Addr.add] using World.cell?_spot ((hr 0 (by omega)).1 0 _ rfl)
    subst hspot;have e : ∀ z,(⟨b,off,none⟩ : Addr).add z = ⟨b,off + z,none⟩ := fun z => by unfold Addr.add;split <;> simp_all
    have hb : b < W.heap.size := by
      have q := h0 0 _ rfl;rw [e] at q;rcases Nat.lt_or_ge b W.heap.size with g | g
      · exact g
      · simp [World.cell?,Array.getElem?_eq_none g] at q
    refine ⟨b,off,rfl,hb,fun j u hj => ?_⟩;have q := h0 j u hj;rw [e] at q;rw [Nat.add_assoc];exact q
end Go.Proofs.YtmnhnhjefocicaaGreatDoor
namespace Go.Proofs.YtmnhnhjefocicaaGreatDoor
open Go.ChangeShapes Go.WideShapes Go.ChangeAt Go.RowKit Go.Deep Go.Joins
set_option linter.unusedVariables false
set_option maxRecDepth 100000
theorem list5 {α : Type} {cs : List α} (h : cs.length = 5) : ∃ c0 c1 c2 c3 c4,cs = [c0,c1,c2,c3,c4] := by
  match cs,h with
  | [c0,c1,c2,c3,c4],_ => exact ⟨c0,c1,c2,c3,c4,rfl⟩
theorem book_cells {H : Type} {enc : TypeId × Value -> H} {W : World} {n : Nat} {cs : List Value} {y : DataW H × List MemPlace} (h : DataW.trod enc Tryz.prog W 0 (fun _ => true) true n 163 cs = some y) :
    ∃ b : Bk,cs = bookC b /\ ReadsR 3 runC W.heap.size W b.m b.rs /\ FitRuns b.rs /\ b.nm.size <= maxLen /\ I64 b.sz /\ I64 b.ep := by
  have ce : Tryz.prog.cellsOf 163 = 5 := by kernel_rfl
  have c1 : Tryz.prog.cellsOf 2 = 1 := by kernel_rfl
  have c2 : Tryz.prog.cellsOf 9 = 1 := by kernel_rfl
  have c3 : Tryz.prog.cellsOf 4 = 1 := by kernel_rfl
  have c4 : Tryz.prog.cellsOf 161 = 1 := by kernel_rfl
  obtain ⟨xs,m,_,-,hl,hlen,hf⟩ := DataW.trod_struct Tryz.underlying163 h;obtain ⟨v0,v1,v2,v3,v4,rfl⟩ := list5 (hl.trans ce);obtain ⟨y0,y1,y2,y3,y4,rfl⟩ := list5 (show xs.length = 5 from hlen);have t0 := hf 0 _ rfl;have t1 := hf 1 _ rfl;have t2 := hf 2 _ rfl;have t3 := hf 3 _ rfl;have t4 := hf 4 _ rfl;simp [c1,c2,c3,c4] at t0 t1 t2 t3 t4;obtain ⟨nm,e0,_,z0⟩ := DataW.trod_string Tryz.underlying9 t0;obtain ⟨sz,e1,_,z1⟩ := DataW.trod_int Tryz.underlying2 t1;obtain ⟨rs,r2,f2⟩ := row_runs t2;obtain ⟨fx,e3,_⟩ := DataW.trod_bool Tryz.underlying4 t3;obtain ⟨ep,e4,_,z4⟩ := DataW.trod_int Tryz.underlying2 t4;simp at e0 e1 e3 e4;subst e0 e1 e3 e4;exact ⟨⟨nm,sz,v2,rs,fx,ep⟩,rfl,r2,f2,z0,lit_i64 z1,lit_i64 z4⟩
end Go.Proofs.YtmnhnhjefocicaaGreatDoor
