import Derived.Test.YtfkkapdofjhgpaaGreatDoorRows
import Derived.ChangeSame
import Derived.ChangeVars
import Derived.RowKit
import Derived.RowKitTokens
import Derived.LaidLaws
import Derived.LaidHandle
import Derived.LaidSub
import Derived.Stop.LaidErr
import Derived.Stop.LaidTwo
import Derived.Test.YtfkkapdofjhgpaaGreatDoorTie
import Derived.Test.YtfkkapdofjhgpaaGreatDoorCards
import Derived.SevenTiedAt
import Derived.JoinedOf
import Derived.ProofKit
import Derived.Laws.Bits128
import Derived.IntWalk
import Derived.Test.YtfkkapdofjhgpaaGreatDoorChecked
import Derived.WalkKit
import Derived.WalkSpells
import Derived.Handy
import Derived.Below
import Derived.Deep.QuietTactic
import Derived.BigQuiet
import Derived.OpenShut
import Derived.ShutString
import Derived.Lib.SmallJoins
import Derived.SliceStrings
import Derived.ChangeSlices
import Derived.Test.YtfkkapdofjhgpaaGreatDoorM01
import Derived.Test.YtfkkapdofjhgpaaGreatDoorM05
import Derived.Test.YtfkkapdofjhgpaaGreatDoorM06
set_option maxHeartbeats 12800000
namespace Go.Proofs.YtfkkapdofjhgpaaGreatDoor
open Go.ChangeShapes Go.WideShapes Go.RowKit
set_option linter.unusedVariables false
theorem Tryz.lEt : Tryz.prog.globalNamed "errors.errorType" = some 10:=by kernel_rfl
theorem Tryz.lRt : (Tryz.prog.cutTypes.find? (·.1 == "internal/reflectlite.rtype")).map (·.2)=some 246:=by kernel_rfl
theorem Tryz.lSize : Tryz.prog.types.size=366:=by kernel_rfl
theorem Tryz.lOne : ((List.range 366).filter fun t=>Tryz.prog.rowNamed t [101,114,114,111,114]) = [185]:=by kernel_rfl
theorem Tryz.lRow : ∀ u,Tryz.prog.typeName? 3 u=some "*errors.errorString"->u=334:=typeName_ptr_named (nm:="errors.errorString") (by kernel_rfl) (by kernel_rfl) (by decide)
theorem Tryz.lCells : Tryz.prog.cellsOf 354=1:=by kernel_rfl
theorem Tryz.lCellsS : Tryz.prog.cellsOf 9=1:=by kernel_rfl
theorem Tryz.lGT : ∀ i ∈ 1 :: (zek ++ [0]),(Tryz.prog.globals[i]?).map (·.type)=some 185:=by
  intro i hi;simp only [zek,List.cons_append,List.nil_append,List.mem_cons,List.mem_nil_iff,or_false] at hi;rcases hi with rfl | rfl | rfl | rfl | rfl | rfl | rfl | rfl | rfl | rfl | rfl <;> kernel_rfl
theorem Tryz.gerrWrongShelf : Tryz.prog.globalNamed "loop.example/g00372/impl.errWrongShelf" = some 1:=by kernel_rfl
theorem Tryz.gerrWrongOp : Tryz.prog.globalNamed "loop.example/g00372/impl.errWrongOp" = some 2:=by kernel_rfl
theorem Tryz.gerrNoBook : Tryz.prog.globalNamed "loop.example/g00372/impl.errNoBook" = some 3:=by kernel_rfl
theorem Tryz.gerrBookThere : Tryz.prog.globalNamed "loop.example/g00372/impl.errBookThere" = some 4:=by kernel_rfl
theorem Tryz.gerrFenced : Tryz.prog.globalNamed "loop.example/g00372/impl.errFenced" = some 5:=by kernel_rfl
theorem Tryz.gerrFixed : Tryz.prog.globalNamed "loop.example/g00372/impl.errFixed" = some 6:=by kernel_rfl
theorem Tryz.gerrRange : Tryz.prog.globalNamed "loop.example/g00372/impl.errRange" = some 7:=by kernel_rfl
theorem Tryz.gerrManyBooks : Tryz.prog.globalNamed "loop.example/g00372/impl.errManyBooks" = some 8:=by kernel_rfl
theorem Tryz.gerrWorn : Tryz.prog.globalNamed "loop.example/g00372/impl.errWorn" = some 9:=by kernel_rfl
theorem Tryz.gerrNoPage : Tryz.prog.globalNamed "loop.example/g00372/impl.errNoPage" = some 11:=by kernel_rfl
theorem Tryz.gerrCannotBe : Tryz.prog.globalNamed "loop.example/g00372/impl.errCannotBe" = some 0:=by kernel_rfl
def laidTen : List (String × DataW Unit):=[("loop.example/g00372/impl.errWrongShelf",Rows.laid_loop_example_g00372_impl_errWrongShelf),("loop.example/g00372/impl.errWrongOp",Rows.laid_loop_example_g00372_impl_errWrongOp),("loop.example/g00372/impl.errNoBook",Rows.laid_loop_example_g00372_impl_errNoBook),("loop.example/g00372/impl.errBookThere",Rows.laid_loop_example_g00372_impl_errBookThere),("loop.example/g00372/impl.errFenced",Rows.laid_loop_example_g00372_impl_errFenced),("loop.example/g00372/impl.errFixed",Rows.laid_loop_example_g00372_impl_errFixed),("loop.example/g00372/impl.errRange",Rows.laid_loop_example_g00372_impl_errRange),("loop.example/g00372/impl.errManyBooks",Rows.laid_loop_example_g00372_impl_errManyBooks),("loop.example/g00372/impl.errWorn",Rows.laid_loop_example_g00372_impl_errWorn),("loop.example/g00372/impl.errNoPage",Rows.laid_loop_example_g00372_impl_errNoPage),("loop.example/g00372/impl.errCannotBe",Rows.laid_loop_example_g00372_impl_errCannotBe)]
def zhe : List (String × DataW Unit):=("errors.errorType",Rows.laid_errors_errorType) :: laidTen
theorem zdd {W : World} {n0 n1 : String} {t0 t1 : List UInt8} {g0 g1 : Nat} (h : laidMet Tryz.prog [(n0,.iface "*errors.errorString" (.ptr (.agg [.lit (.string t0)]))),(n1,.iface "*errors.errorString" (.ptr (.agg [.lit (.string t1)])))] W) (hg0 : Tryz.prog.globalNamed n0=some g0) (ht0 : (Tryz.prog.globals[g0]?).map (·.type)=some 185) (hg1 : Tryz.prog.globalNamed n1=some g1) (ht1 : (Tryz.prog.globals[g1]?).map (·.type)=some 185) :
    ∃ (a0 a1 : Addr) (c0 c1 : Array Value) (s0 s1 : TypeId),W.cell? ⟨g0,0,none⟩=some (.iface 334 (.pointer (some a0)))/\W.cell? ⟨g1,0,none⟩=some (.iface 334 (.pointer (some a1)))/\a0 ≠ a1/\W.heap[a0.block]? = some (.cells c0 s0 (0,0))/\W.heap[a1.block]? = some (.cells c1 s1 (0,0)):=by
  obtain ⟨a0,a1,s0,s1,c0,c1,u0,u1,hv0,hv1,-,-,-,-,-,-,hne,hb0,hb1⟩:=laid_sentinels2 h hg0 ht0 hg1 ht1 Tryz.underlying185 Tryz.lRow Tryz.underlying334 Tryz.underlying354 rfl rfl Tryz.underlying9 Tryz.lCells Tryz.lCellsS;exact ⟨a0,a1,c0,c1,u0,u1,by simpa using World.var?_cell hg0 hv0 0,by simpa using World.var?_cell hg1 hv1 0,hne,hb0,hb1⟩
theorem zp0 {W : World} {l : List (String × DataW Unit)} (h : handlesMet Tryz.prog (("errors.errorType",Rows.laid_errors_errorType) :: l) W) : W.cell? ⟨10,0,none⟩=some (.iface 246 (.agg #[.pointer (some ⟨13,185,none⟩)])):=by
  obtain ⟨name,u,ty,e1,e2,e3,e4,e5⟩:=h _ (List.mem_cons_self ..);have en : name = [101,114,114,111,114]:=(Option.some.inj e1).symm;subst en;obtain rfl:=Option.some.inj (Tryz.lRt.symm.trans e2);have hm : ty ∈ (List.range 366).filter fun t=>Tryz.prog.rowNamed t [101,114,114,111,114]:=List.mem_filter.2 ⟨List.mem_range.2 (by rw [<- Tryz.lSize];exact e3),e4⟩
  rw [Tryz.lOne] at hm;obtain rfl:=List.mem_singleton.1 hm;have hh : typeHandle Tryz.prog 185 = .pointer (some ⟨13,185,none⟩):=by kernel_rfl
  rw [hh] at e5
  simpa using World.var?_cell Tryz.lEt e5 0
def zv9 (W : World) (i : Nat) : Addr:=match W.cell? ⟨i,0,none⟩ with
  | some (.iface _ (.pointer (some a)))=>a
  | _=>⟨0,0,none⟩
theorem zb0 {W : World} {i : Nat} {t : TypeId} {a : Addr} (h : W.cell? ⟨i,0,none⟩=some (.iface t (.pointer (some a)))) : zv9 W i=a:=by rw [zv9,h]
theorem zj3 {W : World} (h : laidMet Tryz.prog laidTen W) : ∃ (a0 a1 : Addr) (c0 c1 : Array Value) (s0 s1 : TypeId),W.cell? ⟨1,0,none⟩=some (.iface 334 (.pointer (some a0)))/\W.cell? ⟨2,0,none⟩=some (.iface 334 (.pointer (some a1)))/\a0 ≠ a1/\W.heap[a0.block]? = some (.cells c0 s0 (0,0))/\W.heap[a1.block]? = some (.cells c1 s1 (0,0)):=by
  have h2:=laidMet.filter (fun x=>x.1 == "loop.example/g00372/impl.errWrongShelf" || x.1 == "loop.example/g00372/impl.errWrongOp") h;have e : laidTen.filter (fun x=>x.1 == "loop.example/g00372/impl.errWrongShelf" || x.1 == "loop.example/g00372/impl.errWrongOp") = [("loop.example/g00372/impl.errWrongShelf",Rows.laid_loop_example_g00372_impl_errWrongShelf),("loop.example/g00372/impl.errWrongOp",Rows.laid_loop_example_g00372_impl_errWrongOp)]:=by simp [laidTen]
  rw [e] at h2;exact zdd h2 Tryz.gerrWrongShelf (Tryz.lGT _ (by decide)) Tryz.gerrWrongOp (Tryz.lGT _ (by decide))
theorem zk0 {W : World} (h : laidMet Tryz.prog laidTen W) : ∃ (a0 a1 : Addr) (c0 c1 : Array Value) (s0 s1 : TypeId),W.cell? ⟨1,0,none⟩=some (.iface 334 (.pointer (some a0)))/\W.cell? ⟨3,0,none⟩=some (.iface 334 (.pointer (some a1)))/\a0 ≠ a1/\W.heap[a0.block]? = some (.cells c0 s0 (0,0))/\W.heap[a1.block]? = some (.cells c1 s1 (0,0)):=by
  have h2:=laidMet.filter (fun x=>x.1 == "loop.example/g00372/impl.errWrongShelf" || x.1 == "loop.example/g00372/impl.errNoBook") h;have e : laidTen.filter (fun x=>x.1 == "loop.example/g00372/impl.errWrongShelf" || x.1 == "loop.example/g00372/impl.errNoBook") = [("loop.example/g00372/impl.errWrongShelf",Rows.laid_loop_example_g00372_impl_errWrongShelf),("loop.example/g00372/impl.errNoBook",Rows.laid_loop_example_g00372_impl_errNoBook)]:=by simp [laidTen]
  rw [e] at h2;exact zdd h2 Tryz.gerrWrongShelf (Tryz.lGT _ (by decide)) Tryz.gerrNoBook (Tryz.lGT _ (by decide))
theorem zhx {W : World} (h : laidMet Tryz.prog laidTen W) : ∃ (a0 a1 : Addr) (c0 c1 : Array Value) (s0 s1 : TypeId),W.cell? ⟨1,0,none⟩=some (.iface 334 (.pointer (some a0)))/\W.cell? ⟨4,0,none⟩=some (.iface 334 (.pointer (some a1)))/\a0 ≠ a1/\W.heap[a0.block]? = some (.cells c0 s0 (0,0))/\W.heap[a1.block]? = some (.cells c1 s1 (0,0)):=by
  have h2:=laidMet.filter (fun x=>x.1 == "loop.example/g00372/impl.errWrongShelf" || x.1 == "loop.example/g00372/impl.errBookThere") h;have e : laidTen.filter (fun x=>x.1 == "loop.example/g00372/impl.errWrongShelf" || x.1 == "loop.example/g00372/impl.errBookThere") = [("loop.example/g00372/impl.errWrongShelf",Rows.laid_loop_example_g00372_impl_errWrongShelf),("loop.example/g00372/impl.errBookThere",Rows.laid_loop_example_g00372_impl_errBookThere)]:=by simp [laidTen]
  rw [e] at h2;exact zdd h2 Tryz.gerrWrongShelf (Tryz.lGT _ (by decide)) Tryz.gerrBookThere (Tryz.lGT _ (by decide))
theorem zk1 {W : World} (h : laidMet Tryz.prog laidTen W) : ∃ (a0 a1 : Addr) (c0 c1 : Array Value) (s0 s1 : TypeId),W.cell? ⟨1,0,none⟩=some (.iface 334 (.pointer (some a0)))/\W.cell? ⟨5,0,none⟩=some (.iface 334 (.pointer (some a1)))/\a0 ≠ a1/\W.heap[a0.block]? = some (.cells c0 s0 (0,0))/\W.heap[a1.block]? = some (.cells c1 s1 (0,0)):=by
  have h2:=laidMet.filter (fun x=>x.1 == "loop.example/g00372/impl.errWrongShelf" || x.1 == "loop.example/g00372/impl.errFenced") h;have e : laidTen.filter (fun x=>x.1 == "loop.example/g00372/impl.errWrongShelf" || x.1 == "loop.example/g00372/impl.errFenced") = [("loop.example/g00372/impl.errWrongShelf",Rows.laid_loop_example_g00372_impl_errWrongShelf),("loop.example/g00372/impl.errFenced",Rows.laid_loop_example_g00372_impl_errFenced)]:=by simp [laidTen]
  rw [e] at h2;exact zdd h2 Tryz.gerrWrongShelf (Tryz.lGT _ (by decide)) Tryz.gerrFenced (Tryz.lGT _ (by decide))
theorem zl0 {W : World} (h : laidMet Tryz.prog laidTen W) : ∃ (a0 a1 : Addr) (c0 c1 : Array Value) (s0 s1 : TypeId),W.cell? ⟨1,0,none⟩=some (.iface 334 (.pointer (some a0)))/\W.cell? ⟨6,0,none⟩=some (.iface 334 (.pointer (some a1)))/\a0 ≠ a1/\W.heap[a0.block]? = some (.cells c0 s0 (0,0))/\W.heap[a1.block]? = some (.cells c1 s1 (0,0)):=by
  have h2:=laidMet.filter (fun x=>x.1 == "loop.example/g00372/impl.errWrongShelf" || x.1 == "loop.example/g00372/impl.errFixed") h;have e : laidTen.filter (fun x=>x.1 == "loop.example/g00372/impl.errWrongShelf" || x.1 == "loop.example/g00372/impl.errFixed") = [("loop.example/g00372/impl.errWrongShelf",Rows.laid_loop_example_g00372_impl_errWrongShelf),("loop.example/g00372/impl.errFixed",Rows.laid_loop_example_g00372_impl_errFixed)]:=by simp [laidTen]
  rw [e] at h2;exact zdd h2 Tryz.gerrWrongShelf (Tryz.lGT _ (by decide)) Tryz.gerrFixed (Tryz.lGT _ (by decide))
theorem zl1 {W : World} (h : laidMet Tryz.prog laidTen W) : ∃ (a0 a1 : Addr) (c0 c1 : Array Value) (s0 s1 : TypeId),W.cell? ⟨1,0,none⟩=some (.iface 334 (.pointer (some a0)))/\W.cell? ⟨7,0,none⟩=some (.iface 334 (.pointer (some a1)))/\a0 ≠ a1/\W.heap[a0.block]? = some (.cells c0 s0 (0,0))/\W.heap[a1.block]? = some (.cells c1 s1 (0,0)):=by
  have h2:=laidMet.filter (fun x=>x.1 == "loop.example/g00372/impl.errWrongShelf" || x.1 == "loop.example/g00372/impl.errRange") h;have e : laidTen.filter (fun x=>x.1 == "loop.example/g00372/impl.errWrongShelf" || x.1 == "loop.example/g00372/impl.errRange") = [("loop.example/g00372/impl.errWrongShelf",Rows.laid_loop_example_g00372_impl_errWrongShelf),("loop.example/g00372/impl.errRange",Rows.laid_loop_example_g00372_impl_errRange)]:=by simp [laidTen]
  rw [e] at h2;exact zdd h2 Tryz.gerrWrongShelf (Tryz.lGT _ (by decide)) Tryz.gerrRange (Tryz.lGT _ (by decide))
theorem zhy {W : World} (h : laidMet Tryz.prog laidTen W) : ∃ (a0 a1 : Addr) (c0 c1 : Array Value) (s0 s1 : TypeId),W.cell? ⟨1,0,none⟩=some (.iface 334 (.pointer (some a0)))/\W.cell? ⟨8,0,none⟩=some (.iface 334 (.pointer (some a1)))/\a0 ≠ a1/\W.heap[a0.block]? = some (.cells c0 s0 (0,0))/\W.heap[a1.block]? = some (.cells c1 s1 (0,0)):=by
  have h2:=laidMet.filter (fun x=>x.1 == "loop.example/g00372/impl.errWrongShelf" || x.1 == "loop.example/g00372/impl.errManyBooks") h;have e : laidTen.filter (fun x=>x.1 == "loop.example/g00372/impl.errWrongShelf" || x.1 == "loop.example/g00372/impl.errManyBooks") = [("loop.example/g00372/impl.errWrongShelf",Rows.laid_loop_example_g00372_impl_errWrongShelf),("loop.example/g00372/impl.errManyBooks",Rows.laid_loop_example_g00372_impl_errManyBooks)]:=by simp [laidTen]
  rw [e] at h2;exact zdd h2 Tryz.gerrWrongShelf (Tryz.lGT _ (by decide)) Tryz.gerrManyBooks (Tryz.lGT _ (by decide))
theorem zmc {W : World} (h : laidMet Tryz.prog laidTen W) : ∃ (a0 a1 : Addr) (c0 c1 : Array Value) (s0 s1 : TypeId),W.cell? ⟨1,0,none⟩=some (.iface 334 (.pointer (some a0)))/\W.cell? ⟨9,0,none⟩=some (.iface 334 (.pointer (some a1)))/\a0 ≠ a1/\W.heap[a0.block]? = some (.cells c0 s0 (0,0))/\W.heap[a1.block]? = some (.cells c1 s1 (0,0)):=by
  have h2:=laidMet.filter (fun x=>x.1 == "loop.example/g00372/impl.errWrongShelf" || x.1 == "loop.example/g00372/impl.errWorn") h;have e : laidTen.filter (fun x=>x.1 == "loop.example/g00372/impl.errWrongShelf" || x.1 == "loop.example/g00372/impl.errWorn") = [("loop.example/g00372/impl.errWrongShelf",Rows.laid_loop_example_g00372_impl_errWrongShelf),("loop.example/g00372/impl.errWorn",Rows.laid_loop_example_g00372_impl_errWorn)]:=by simp [laidTen]
  rw [e] at h2;exact zdd h2 Tryz.gerrWrongShelf (Tryz.lGT _ (by decide)) Tryz.gerrWorn (Tryz.lGT _ (by decide))
theorem zk2 {W : World} (h : laidMet Tryz.prog laidTen W) : ∃ (a0 a1 : Addr) (c0 c1 : Array Value) (s0 s1 : TypeId),W.cell? ⟨1,0,none⟩=some (.iface 334 (.pointer (some a0)))/\W.cell? ⟨11,0,none⟩=some (.iface 334 (.pointer (some a1)))/\a0 ≠ a1/\W.heap[a0.block]? = some (.cells c0 s0 (0,0))/\W.heap[a1.block]? = some (.cells c1 s1 (0,0)):=by
  have h2:=laidMet.filter (fun x=>x.1 == "loop.example/g00372/impl.errWrongShelf" || x.1 == "loop.example/g00372/impl.errNoPage") h;have e : laidTen.filter (fun x=>x.1 == "loop.example/g00372/impl.errWrongShelf" || x.1 == "loop.example/g00372/impl.errNoPage") = [("loop.example/g00372/impl.errWrongShelf",Rows.laid_loop_example_g00372_impl_errWrongShelf),("loop.example/g00372/impl.errNoPage",Rows.laid_loop_example_g00372_impl_errNoPage)]:=by simp [laidTen]
  rw [e] at h2;exact zdd h2 Tryz.gerrWrongShelf (Tryz.lGT _ (by decide)) Tryz.gerrNoPage (Tryz.lGT _ (by decide))
theorem zie {W : World} (h : laidMet Tryz.prog laidTen W) : ∃ (a0 a1 : Addr) (c0 c1 : Array Value) (s0 s1 : TypeId),W.cell? ⟨1,0,none⟩=some (.iface 334 (.pointer (some a0)))/\W.cell? ⟨0,0,none⟩=some (.iface 334 (.pointer (some a1)))/\a0 ≠ a1/\W.heap[a0.block]? = some (.cells c0 s0 (0,0))/\W.heap[a1.block]? = some (.cells c1 s1 (0,0)):=by
  have h2:=laidMet.filter (fun x=>x.1 == "loop.example/g00372/impl.errWrongShelf" || x.1 == "loop.example/g00372/impl.errCannotBe") h;have e : laidTen.filter (fun x=>x.1 == "loop.example/g00372/impl.errWrongShelf" || x.1 == "loop.example/g00372/impl.errCannotBe") = [("loop.example/g00372/impl.errWrongShelf",Rows.laid_loop_example_g00372_impl_errWrongShelf),("loop.example/g00372/impl.errCannotBe",Rows.laid_loop_example_g00372_impl_errCannotBe)]:=by simp [laidTen]
  rw [e] at h2;exact zdd h2 Tryz.gerrWrongShelf (Tryz.lGT _ (by decide)) Tryz.gerrCannotBe (Tryz.lGT _ (by decide))
theorem zva {W : World} (h : laidMetH Tryz.prog zhe W) : VarsS W (zv9 W):=by
  have h' : laidMet Tryz.prog laidTen W/\handlesMet Tryz.prog [("errors.errorType",Rows.laid_errors_errorType)] W:=h;have het:=zp0 h'.2;obtain ⟨x0,aerrWrongOp,c0,cerrWrongOp,s0,terrWrongOp,k0,kerrWrongOp,nerrWrongOp,b0,berrWrongOp⟩:=zj3 h'.1;rw [<- zb0 k0,<- zb0 kerrWrongOp] at nerrWrongOp;clear b0;obtain ⟨x0,aerrNoBook,c0,cerrNoBook,s0,terrNoBook,k0,kerrNoBook,nerrNoBook,b0,berrNoBook⟩:=zk0 h'.1;rw [<- zb0 k0,<- zb0 kerrNoBook] at nerrNoBook;clear b0;obtain ⟨x0,aerrBookThere,c0,cerrBookThere,s0,terrBookThere,k0,kerrBookThere,nerrBookThere,b0,berrBookThere⟩:=zhx h'.1;rw [<- zb0 k0,<- zb0 kerrBookThere] at nerrBookThere;clear b0;obtain ⟨x0,aerrFenced,c0,cerrFenced,s0,terrFenced,k0,kerrFenced,nerrFenced,b0,berrFenced⟩:=zk1 h'.1;rw [<- zb0 k0,<- zb0 kerrFenced] at nerrFenced;clear b0;obtain ⟨x0,aerrFixed,c0,cerrFixed,s0,terrFixed,k0,kerrFixed,nerrFixed,b0,berrFixed⟩:=zl0 h'.1;rw [<- zb0 k0,<- zb0 kerrFixed] at nerrFixed;clear b0;obtain ⟨x0,aerrRange,c0,cerrRange,s0,terrRange,k0,kerrRange,nerrRange,b0,berrRange⟩:=zl1 h'.1;rw [<- zb0 k0,<- zb0 kerrRange] at nerrRange;clear b0;obtain ⟨x0,aerrManyBooks,c0,cerrManyBooks,s0,terrManyBooks,k0,kerrManyBooks,nerrManyBooks,b0,berrManyBooks⟩:=zhy h'.1;rw [<- zb0 k0,<- zb0 kerrManyBooks] at nerrManyBooks;clear b0;obtain ⟨x0,aerrWorn,c0,cerrWorn,s0,terrWorn,k0,kerrWorn,nerrWorn,b0,berrWorn⟩:=zmc h'.1;rw [<- zb0 k0,<- zb0 kerrWorn] at nerrWorn;clear b0;obtain ⟨x0,aerrNoPage,c0,cerrNoPage,s0,terrNoPage,k0,kerrNoPage,nerrNoPage,b0,berrNoPage⟩:=zk2 h'.1;rw [<- zb0 k0,<- zb0 kerrNoPage] at nerrNoPage;refine ⟨⟨?_,het,?_⟩,by rw [zb0 k0];exact k0,?_,⟨c0,s0,by rw [zb0 k0];exact b0⟩⟩
  · intro i hi
    simp only [zek,List.mem_cons,List.mem_nil_iff,or_false] at hi;rcases hi with rfl | rfl | rfl | rfl | rfl | rfl | rfl | rfl | rfl
    · rw [zb0 kerrWrongOp];exact kerrWrongOp
    · rw [zb0 kerrNoBook];exact kerrNoBook
    · rw [zb0 kerrBookThere];exact kerrBookThere
    · rw [zb0 kerrFenced];exact kerrFenced
    · rw [zb0 kerrFixed];exact kerrFixed
    · rw [zb0 kerrRange];exact kerrRange
    · rw [zb0 kerrManyBooks];exact kerrManyBooks
    · rw [zb0 kerrWorn];exact kerrWorn
    · rw [zb0 kerrNoPage];exact kerrNoPage
  · intro i hi
    simp only [zek,List.mem_cons,List.mem_nil_iff,or_false] at hi;rcases hi with rfl | rfl | rfl | rfl | rfl | rfl | rfl | rfl | rfl
    · exact ⟨cerrWrongOp,terrWrongOp,by rw [zb0 kerrWrongOp];exact berrWrongOp⟩
    · exact ⟨cerrNoBook,terrNoBook,by rw [zb0 kerrNoBook];exact berrNoBook⟩
    · exact ⟨cerrBookThere,terrBookThere,by rw [zb0 kerrBookThere];exact berrBookThere⟩
    · exact ⟨cerrFenced,terrFenced,by rw [zb0 kerrFenced];exact berrFenced⟩
    · exact ⟨cerrFixed,terrFixed,by rw [zb0 kerrFixed];exact berrFixed⟩
    · exact ⟨cerrRange,terrRange,by rw [zb0 kerrRange];exact berrRange⟩
    · exact ⟨cerrManyBooks,terrManyBooks,by rw [zb0 kerrManyBooks];exact berrManyBooks⟩
    · exact ⟨cerrWorn,terrWorn,by rw [zb0 kerrWorn];exact berrWorn⟩
    · exact ⟨cerrNoPage,terrNoPage,by rw [zb0 kerrNoPage];exact berrNoPage⟩
  · intro i hi
    simp only [zek,List.mem_cons,List.mem_nil_iff,or_false] at hi;rcases hi with rfl | rfl | rfl | rfl | rfl | rfl | rfl | rfl | rfl
    · exact fun e=>nerrWrongOp e.symm
    · exact fun e=>nerrNoBook e.symm
    · exact fun e=>nerrBookThere e.symm
    · exact fun e=>nerrFenced e.symm
    · exact fun e=>nerrFixed e.symm
    · exact fun e=>nerrRange e.symm
    · exact fun e=>nerrManyBooks e.symm
    · exact fun e=>nerrWorn e.symm
    · exact fun e=>nerrNoPage e.symm
theorem zvb {W : World} (h : laidMetH Tryz.prog zhe W) : VarB W (zv9 W 0):=by
  have h' : laidMet Tryz.prog laidTen W/\handlesMet Tryz.prog [("errors.errorType",Rows.laid_errors_errorType)] W:=h;obtain ⟨x0,a,c0,c,s0,t,k0,k,n,b0,b⟩:=zie h'.1;rw [VarB,zb0 k];exact k
abbrev zl2 : ByteArray:={ data:=#[116,104,101,32,115,104,101,108,102,32,105,115,32,110,111,116,32,114,105,103,104,116] }
abbrev zp1 : ByteArray:={ data:=#[116,104,101,32,111,112,32,105,115,32,110,111,116,32,114,105,103,104,116] }
abbrev zr1 : ByteArray:={ data:=#[116,104,101,114,101,32,105,115,32,110,111,32,115,117,99,104,32,98,111,111,107] }
abbrev zmd : ByteArray:={ data:=#[116,104,101,114,101,32,105,115,32,115,117,99,104,32,97,32,98,111,111,107,32,97,108,114,101,97,100,121] }
abbrev zr2 : ByteArray:={ data:=#[116,104,101,32,101,112,111,99,104,32,105,115,32,98,101,108,111,119,32,116,104,101,32,98,111,111,107,39,115] }
abbrev zsz : ByteArray:={ data:=#[116,104,101,32,98,111,111,107,32,105,115,32,102,105,120,101,100] }
abbrev zt0 : ByteArray:={ data:=#[116,104,101,32,112,108,97,99,101,32,105,115,32,110,111,116,32,98,101,108,111,119,32,116,104,101,32,98,111,111,107,39,115,32,115,105,122,101] }
abbrev zme : ByteArray:={ data:=#[116,104,101,114,101,32,105,115,32,110,111,32,114,111,111,109,32,102,111,114,32,111,110,101,32,109,111,114,101,32,98,111,111,107] }
abbrev zvc : ByteArray:={ data:=#[116,104,101,32,98,111,111,107,39,115,32,101,112,111,99,104,32,105,115,32,116,104,101,32,108,97,115,116,32,111,110,101] }
abbrev zr3 : ByteArray:={ data:=#[116,104,101,114,101,32,105,115,32,110,111,32,112,97,103,101,32,116,111,32,115,112,97,114,101] }
abbrev znz : ByteArray:={ data:=#[110,111,32,104,111,117,115,101,32,99,97,110,32,98,101,32,115,111] }
noncomputable def low : Nat:=(World.holding Tryz.prog default ⟨#[],#[],[]⟩).heap.size
noncomputable def zna (os : Os) : World :=
  let w0:=World.holding Tryz.prog os ⟨#[.cells #[.string zl2] 354,.cells #[.string zp1] 354,.cells #[.string zr1] 354,.cells #[.string zmd] 354,.cells #[.string zr2] 354,.cells #[.string zsz] 354,.cells #[.string zt0] 354,.cells #[.string zme] 354,.cells #[.string zvc] 354,.cells #[.string zr3] 354,.cells #[.string znz] 354],#[],[]⟩
  { w0 with heap:=(((((((((((w0.heap.modify 1 fun
      | .cells _ t frozen=>.cells #[.iface 334 (.pointer (some ⟨low+0,0,none⟩))] t frozen
      | o=>o).modify 2 fun
      | .cells _ t frozen=>.cells #[.iface 334 (.pointer (some ⟨low+1,0,none⟩))] t frozen
      | o=>o).modify 3 fun
      | .cells _ t frozen=>.cells #[.iface 334 (.pointer (some ⟨low+2,0,none⟩))] t frozen
      | o=>o).modify 4 fun
      | .cells _ t frozen=>.cells #[.iface 334 (.pointer (some ⟨low+3,0,none⟩))] t frozen
      | o=>o).modify 5 fun
      | .cells _ t frozen=>.cells #[.iface 334 (.pointer (some ⟨low+4,0,none⟩))] t frozen
      | o=>o).modify 6 fun
      | .cells _ t frozen=>.cells #[.iface 334 (.pointer (some ⟨low+5,0,none⟩))] t frozen
      | o=>o).modify 7 fun
      | .cells _ t frozen=>.cells #[.iface 334 (.pointer (some ⟨low+6,0,none⟩))] t frozen
      | o=>o).modify 8 fun
      | .cells _ t frozen=>.cells #[.iface 334 (.pointer (some ⟨low+7,0,none⟩))] t frozen
      | o=>o).modify 9 fun
      | .cells _ t frozen=>.cells #[.iface 334 (.pointer (some ⟨low+8,0,none⟩))] t frozen
      | o=>o).modify 11 fun
      | .cells _ t frozen=>.cells #[.iface 334 (.pointer (some ⟨low+9,0,none⟩))] t frozen
      | o=>o).modify 0 fun
      | .cells _ t frozen=>.cells #[.iface 334 (.pointer (some ⟨low+10,0,none⟩))] t frozen
      | o=>o).modify 10 fun
      | .cells _ t frozen=>.cells #[.iface 246 (.agg #[.pointer (some ⟨13,185,none⟩)])] t frozen
      | o=>o }
set_option maxRecDepth 100000 in
theorem zvd (os : Os) (args : Array Value) : laidMetH Tryz.prog zhe ((zna os).forCall (fun _ _=>0) ⟨#[],args,[]⟩).memory :=
  laidMetH_of_parts (show laidMet Tryz.prog laidTen _ from laidMet_of_run (ps:=[.cell 1 0,.cell (low+0) 0,.cell 2 0,.cell (low+1) 0,.cell 3 0,.cell (low+2) 0,.cell 4 0,.cell (low+3) 0,.cell 5 0,.cell (low+4) 0,.cell 6 0,.cell (low+5) 0,.cell 7 0,.cell (low+6) 0,.cell 8 0,.cell (low+7) 0,.cell 9 0,.cell (low+8) 0,.cell 11 0,.cell (low+9) 0,.cell 0 0,.cell (low+10) 0]) 8 (by kernel_rfl) (by kernel_rfl) (by kernel_rfl)) (by kernel_rfl)
end Go.Proofs.YtfkkapdofjhgpaaGreatDoor
namespace Go.Proofs.YtfkkapdofjhgpaaGreatDoor.fnExactReplayed
open Go
set_option linter.unusedVariables false
theorem zdl {a b : Bool} (h : a=true) (k : b=true) : (a && b)=true:=by rw [h,k];rfl
theorem hfn : Tryz.prog.funcNamed Rows.fnExactReplayedRow.func=some 5:=by kernel_rfl
set_option maxRecDepth 100000 in
theorem zyn : joinedFacts Tryz.prog 5 Tryz.f5 Rows.fnExactReplayedSpec Rows.fnExactReplayedRow=true:=by
  unfold joinedFacts;refine zdl (zdl (zdl (zdl (zdl (zdl (zdl (zdl (zdl (zdl (zdl (zdl (zdl (zdl (zdl (zdl (zdl (zdl (zdl (zdl (zdl (zdl (zdl (zdl (zdl (zdl (zdl (zdl (zdl (zdl (zdl ?_ ?_) ?_) ?_) ?_) ?_) ?_) ?_) ?_) ?_) ?_) ?_) ?_) ?_) ?_) ?_) ?_) ?_) ?_) ?_) ?_) ?_) ?_) ?_) ?_) ?_) ?_) ?_) ?_) ?_) ?_) ?_
  all_goals as_aux_lemma=>kernel_rfl
theorem zyz : Tryz.f5.isInstance Tryz.prog Rows.fnExactReplayedRow.origin Rows.fnExactReplayedRow.targs:=of_decide_eq_true (by kernel_rfl)
theorem zz0 : Tryz.f5.isWrapper Tryz.prog Rows.fnExactReplayedRow.wrapper Rows.fnExactReplayedRow.mainSum:=by unfold Func.isWrapper;first | (rw [if_pos (by decide +kernel)];kernel_rfl) | (rw [if_neg (by decide +kernel)];exact ⟨rfl,rfl⟩)
theorem zyo : Rows.fnExactReplayedRow.wfByText (OpenSpec.ofChange Rows.fnExactReplayedSpec)=true:=by kernel_rfl
theorem mainIs : Tryz.prog.mainIs=some (true,"2e225b0ab374328a243553b41226e329ef3e3b142b6c54e00fa2f42a0364bee5".toList):=by kernel_rfl
theorem looks : true=Tryz.prog.looks []:=by kernel_rfl
theorem zz1 : false=Rows.fnExactReplayedRow.goesBy Tryz.prog:=by kernel_rfl
theorem zyp : Tryz.prog.wantsStandIn 2=false:=by kernel_rfl
theorem zx5 : Tryz.prog.wantsStandIn 67=false:=by kernel_rfl
end Go.Proofs.YtfkkapdofjhgpaaGreatDoor.fnExactReplayed
namespace Go.Proofs.YtfkkapdofjhgpaaGreatDoor
open Go.RowKit
set_option linter.unusedVariables false
set_option maxRecDepth 100000
def Src (w : World) (c : Nat) (x : Option Addr) (len : Nat) : Prop :=
  len<=maxLen/\∀ j,j < len->∃ b off z,x=some ⟨b,off,none⟩/\b < c/\w.cell? ⟨b,off+j,none⟩=some (.int .u8 z)/\0<=z/\z<=255
theorem Src.below {w w' : World} {c : Nat} {x : Option Addr} {len : Nat} (h : Src w c x len) (k : Below c w w') : Src w' c x len :=
  ⟨h.1,fun j hj=>by obtain ⟨b,off,z,e,hb,hz,r⟩:=h.2 j hj;exact ⟨b,off,z,e,hb,(k.cell (p:=⟨b,off+j,none⟩) hb).trans hz,r⟩⟩
theorem Src.mono {w : World} {c d : Nat} {x : Option Addr} {len : Nat} (h : Src w c x len) (k : c<=d) : Src w d x len :=
  ⟨h.1,fun j hj=>by obtain ⟨b,off,z,e,hb,r⟩:=h.2 j hj;exact ⟨b,off,z,e,Nat.lt_of_lt_of_le hb k,r⟩⟩
theorem Cur.new {w : World} {x : Option Addr} {len cap : Nat} (h : Src w w.heap.size x len) (q : Int) (t : TypeId) :
    Cur (w.alloc (.cells #[.slice x len cap,.int .i64 0,.int .i64 q] t)) w.heap.size x len cap:=by
  have hb : Below w.heap.size w (w.alloc (.cells #[.slice x len cap,.int .i64 0,.int .i64 q] t)):=(Below.refl _ _).alloc (Nat.le_refl _) _;refine ⟨by simp [go_sem],h.1,by simp [go_sem],⟨0,q,Nat.zero_le _,by simp [go_sem],by simp [go_sem]⟩,by simp [go_sem],by simp [go_sem],fun j hj=>?_⟩;obtain ⟨b,off,z,e,hb',hz,r⟩:=h.2 j hj;exact ⟨b,off,z,e,hb',(hb.cell (p:=⟨b,off+j,none⟩) hb').trans hz,r⟩
end Go.Proofs.YtfkkapdofjhgpaaGreatDoor
namespace Go.Proofs.YtfkkapdofjhgpaaGreatDoor
open Go.ChangeShapes Go.WideShapes Go.ChangeAt Go.RowKit Go.Joins
open Go.ChangeMaps (open_string)
set_option linter.unusedVariables false
set_option maxRecDepth 100000
theorem zve {H : Type} {enc : TypeId × Value->H} {W : World} {base : Nat} {v : Value} {d : DataW H} {p : List MemPlace} (hv : Value.okWide Tryz.prog W .any base 2 v) (h : DataW.Trod enc Tryz.prog W 0 (fun _=>true) true 2 v d p) :
    ∃ a : Int,v = .int .i64 a/\(Lit.int .i64 a).wf=true:=by
  obtain ⟨a,rfl,_,_,w⟩:=open_int Tryz.underlying2 hv h;exact ⟨a,rfl,w⟩
end Go.Proofs.YtfkkapdofjhgpaaGreatDoor
namespace Go.Proofs.YtfkkapdofjhgpaaGreatDoor
open Go.RowKit
set_option linter.unusedVariables false
set_option maxRecDepth 100000
theorem znb (nm : ByteArray) (sz : Int) (fx : Bool) (ep : Int) (k : Nat) : (⟨nm,sz,[],fx,ep⟩ : Pb).cnt (k : Int)=0:=by
  show (((List.replicate 16 (-1 : Int)).count (k : Int) : Nat) : Int)=0
  rw [List.count_replicate,if_neg (by rw [beq_iff_eq];omega)]
  rfl
theorem zf9 {s : Sf} (h : ShInv s) (i : Nat) (hi : i < s.bs.length) (k : Nat) (h1 : s.cs.length<=k) (h2 : k < 24) : s.bs[i].cnt (k : Int)=0:=by
  have:=zj2 s.bs i hi (k : Int);have:=zku s.bs[i] (k : Int);have:=h.out k h1 h2
  omega
theorem ShInv.put {s : Sf} (h : ShInv s) (i : Nat) (hi : i < s.bs.length) (b : Pb) (hok : b.ok=true) (hn : b.nm=s.bs[i].nm) (cs ps : List Int) (hc : Cells s.cs.length cs ps)
    (hcnt : ∀ k,k < s.cs.length->cs.getD k 0=s.cs.getD k 0 - s.bs[i].cnt (k : Int)+b.cnt (k : Int)) (hout : ∀ k,s.cs.length<=k->k < 24->b.cnt (k : Int)=0) : ShInv ⟨cs,ps,s.bs.set i b⟩:=by
  have hl:=hc.c;refine ⟨by simp only;rw [hl];exact h.n1,by simp only;rw [hl];exact hc,by simpa using h.few,fun x hx=>?_,?_,fun k hk=>?_,fun k hk hk2=>?_⟩
  · rcases List.mem_or_eq_of_mem_set hx with hx | rfl
    · exact h.oks x hx
    · exact hok
  · simp only
    rw [List.map_set,hn]
    have : (s.bs.map Pb.nm).set i s.bs[i].nm=s.bs.map Pb.nm:=by
      have e : s.bs[i].nm=(s.bs.map Pb.nm)[i]'(by simpa using hi):=by simp
      rw [e,List.set_getElem_self]
    rw [this];exact h.srt
  · simp only at hk ⊢
    rw [hl] at hk;rw [hcnt k hk,zkv s.bs i hi,h.cnt k hk]
  · simp only at hk ⊢
    rw [hl] at hk;rw [zkv s.bs i hi,h.out k hk hk2,zf9 h i hi k hk hk2,hout k hk hk2]
    rfl
theorem ShInv.insert {s : Sf} (h : ShInv s) (b : Pb) (hok : b.ok=true) (hn : findP s.bs b.nm < 0) (hf : s.bs.length < 6) (cs : List Int) (hc : Cells s.cs.length cs s.ps)
    (hcnt : ∀ k,k < s.cs.length->cs.getD k 0=s.cs.getD k 0+b.cnt (k : Int)) (hout : ∀ k,s.cs.length<=k->k < 24->b.cnt (k : Int)=0) : ShInv ⟨cs,s.ps,insertP s.bs b⟩:=by
  have hl:=hc.c
  have hlen : (insertP s.bs b).length=s.bs.length+1:=by
    unfold insertP;simp only [List.length_append,List.length_take,List.length_drop,List.length_cons,List.length_nil]
    omega
  refine ⟨by simp only;rw [hl];exact h.n1,by simp only;rw [hl];exact hc,by simp only;omega,fun x hx=>?_,?_,fun k hk=>?_,fun k hk hk2=>?_⟩
  · simp only [insertP,List.mem_append,List.mem_singleton] at hx
    rcases hx with (hx | rfl) | hx
    · exact h.oks x (List.mem_of_mem_take hx)
    · exact hok
    · exact h.oks x (List.mem_of_mem_drop hx)
  · exact zma s.bs b h.srt (fun x hx=>zoy s.bs b.nm hn x hx)
  · simp only at hk ⊢
    rw [hl] at hk;rw [hcnt k hk,insertP,cntAll_insert,h.cnt k hk]
  · simp only at hk ⊢
    rw [hl] at hk;rw [insertP,cntAll_insert,h.out k hk hk2,hout k hk hk2]
    rfl
theorem ShInv.erase {s : Sf} (h : ShInv s) (i : Nat) (hi : i < s.bs.length) (cs ps : List Int) (hc : Cells s.cs.length cs ps)
    (hcnt : ∀ k,k < s.cs.length->cs.getD k 0=s.cs.getD k 0 - s.bs[i].cnt (k : Int)) : ShInv ⟨cs,ps,s.bs.take i ++ s.bs.drop (i+1)⟩:=by
  have hl:=hc.c
  have hsub : (s.bs.take i ++ s.bs.drop (i+1)).Sublist s.bs:=by
    have e:=List.take_append_drop i s.bs
    have d : (s.bs.drop (i+1)).Sublist (s.bs.drop i):=by
      rw [List.drop_eq_getElem_cons hi];exact List.sublist_cons_self _ _
    have:=(List.Sublist.refl (s.bs.take i)).append d
    rwa [e] at this
  refine ⟨by simp only;rw [hl];exact h.n1,by simp only;rw [hl];exact hc,Nat.le_trans hsub.length_le h.few,fun x hx=>h.oks x (hsub.subset hx),h.srt.sublist (hsub.map _),fun k hk=>?_,fun k hk hk2=>?_⟩
  · simp only at hk ⊢
    rw [hl] at hk;rw [hcnt k hk,zic s.bs i hi,h.cnt k hk]
  · simp only at hk ⊢
    rw [hl] at hk;rw [zic s.bs i hi,h.out k hk hk2,zf9 h i hi k hk hk2]
    rfl
theorem zgq (l : List Int) (hl : l.length=16) (n : Nat) (hn : n<=16) : cutAt l n=l.take n ++ List.replicate (16 - n) (-1):=by
  apply List.ext_getElem?
  intro j;unfold cutAt;by_cases hj : j < 16
  · rw [List.getElem?_map,List.getElem?_range hj]
    by_cases h : j < n
    · rw [List.getElem?_append_left (by simp;omega),List.getElem?_take_of_lt h,List.getElem?_eq_getElem (by omega)]
      simp only [Option.map_some];rw [if_pos (by omega),ze9 l j (by omega)]
    · rw [List.getElem?_append_right (by simp;omega),List.getElem?_replicate,if_pos (by simp;omega)]
      simp only [Option.map_some];rw [if_neg (by omega)]
  · rw [List.getElem?_eq_none (by simp;omega),List.getElem?_eq_none (by simp;omega)]
theorem zjp (l : List Int) (hl : l.length=16) (n : Nat) (hn : n<=16) (k : Nat) : ((cutAt l n).count (k : Int) : Int)=(l.count (k : Int) : Int) - ((l.drop n).count (k : Int) : Int):=by
  have e : l.count (k : Int)=(l.take n).count (k : Int)+(l.drop n).count (k : Int):=by rw [<- List.count_append,List.take_append_drop]
  rw [zgq l hl n hn,List.count_append,List.count_replicate,if_neg (by rw [beq_iff_eq];omega)]
  omega
theorem zer (l : List Int) (j : Nat) (hj : j < l.length) (v : Int) (k : Nat) : ((l.set j v).count (k : Int) : Int)=(l.count (k : Int) : Int) - (if l.getD j 0=(k : Int) then 1 else 0)+(if v=(k : Int) then 1 else 0):=by
  rw [List.count_set hj,ze9 l j hj];by_cases h1 : l[j]=(k : Int)
  · have hp : 1<=l.count (k : Int):=by
      have : (k : Int) ∈ l:=by rw [<- h1];exact List.getElem_mem hj
      exact List.count_pos_iff.2 this
    rw [if_pos h1,if_pos (by rw [beq_iff_eq];exact h1)];by_cases h2 : v=(k : Int)
    · rw [if_pos h2,if_pos (by rw [beq_iff_eq];exact h2)];omega
    · rw [if_neg h2,if_neg (by rw [beq_iff_eq];exact h2)];omega
  · rw [if_neg h1,if_neg (by rw [beq_iff_eq];exact h1)]
    by_cases h2 : v=(k : Int)
    · rw [if_pos h2,if_pos (by rw [beq_iff_eq];exact h2)];omega
    · rw [if_neg h2,if_neg (by rw [beq_iff_eq];exact h2)];omega
theorem zj4 (rs : List (Int × Int × Int)) (hm : mapOk rs=true) (n : Nat) (hn : n<=16) : mapOk (mapOf (cutAt (za7 rs) n))=true/\za7 (mapOf (cutAt (za7 rs) n))=cutAt (za7 rs) n/\zdr (mapOf (cutAt (za7 rs) n)) n=true:=by
  have hr:=zgm rs hm n;have h:=zks (cutAt (za7 rs) n) (cutAt_length _ _) hr;exact ⟨h.1,h.2,zsc _ (cutAt_length _ _) hr n hn (fun j h1 h2=>by rw [zfq _ _ j h2,if_neg (by omega)];omega)⟩
theorem znc (b : Pb) (hb : b.ok=true) (j : Nat) (hj : (j : Int) < b.sz) (v : Int) (hv : -1<=v/\v<=23) : mapOk (mapOf ((za7 b.rs).set j v))=true/\za7 (mapOf ((za7 b.rs).set j v))=(za7 b.rs).set j v/\zdr (mapOf ((za7 b.rs).set j v)) b.sz=true:=by
  obtain ⟨-,hs,-,hm,he⟩:=zaw hb;have hr:=zn7 b.rs hm j (by omega) v hv;have hl : ((za7 b.rs).set j v).length=16:=by rw [List.length_set,zac]
  have h:=zks _ hl hr;obtain ⟨z,hz⟩:=Int.eq_ofNat_of_zero_le (show 0<=b.sz by omega);refine ⟨h.1,h.2,?_⟩;rw [hz]
  exact zsc _ hl hr z (by omega) (fun i h1 h2=>by
    rw [zg4 _ _ _ _ (by rw [zac];omega),if_neg (by omega),zx2 b.rs b.sz hm he i h2 (by omega)]
    omega)
theorem zvf {s : Sf} (h : ShInv s) (i : Nat) (hi : i < s.bs.length) (n : Nat) (hn : n<=16) : Cells s.cs.length (cutBook s i n).cs (cutBook s i n).ps/\∀ k,k < s.cs.length->(cutBook s i n).cs.getD k 0=s.cs.getD k 0 - (((za7 s.bs[i].rs).drop n).count (k : Int) : Int):=by
  unfold cutBook;rw [zbz s.bs i hi];simp only;refine zkw _ h.cells (fun p hp=>?_) (fun k hk=>?_)
  · by_cases h0 : 0<=p
    · exact (h.page i hi p (List.mem_of_mem_drop hp) h0).1
    · omega
  · have h1:=zhc h i hi k hk
    unfold Pb.cnt at h1;have h2:=(List.drop_sublist n (za7 s.bs[i].rs)).count_le (k : Int)
    omega
theorem Cells.same {n : Nat} {cs ps : List Int} (h : Cells n cs ps) (p : Nat) (hp : p < n) (v : Int) (hv : 0<=v/\v<=999) (hc : cs.getD p 0 ≠ 0) : Cells n cs (ps.set p v) :=
  ⟨h.c,by simpa using h.p,fun k hk=>by
    rw [zd2 ps p k v (by rw [h.p];exact hp)];have:=h.val k hk;by_cases e : p=k
    · subst e;rw [if_pos rfl];exact ⟨hv.1,hv.2,fun q=>absurd q hc⟩
    · rw [if_neg e];exact this⟩
theorem Cells.took {n : Nat} {cs ps : List Int} (h : Cells n cs ps) (v : Int) (hv : 0<=v/\v<=999) (hf : zaf cs < cs.length) : Cells n (tookC cs) (tookP cs ps v)/\∀ k,k < n->(tookC cs).getD k 0=cs.getD k 0+(if tookAt cs=(k : Int) then 1 else 0):=by
  have hc:=h.c;have h0:=zei cs hf;unfold tookC tookP tookAt;rw [if_pos hf,if_pos hf,if_pos hf];have g : ∀ k,(cs.set (zaf cs) 1).getD k 0=if zaf cs=k then 1 else cs.getD k 0:=fun k=>zd2 cs _ k _ hf
  refine ⟨⟨by simpa using hc,by simpa using h.p,fun k hk=>?_⟩,fun k hk=>?_⟩
  · rw [g,zd2 ps _ k v (by rw [h.p];omega)]
    have:=h.val k hk;by_cases e : zaf cs=k
    · rw [if_pos e,if_pos e];exact ⟨hv.1,hv.2,fun q=>by omega⟩
    · rw [if_neg e,if_neg e];exact this
  · rw [g]
    by_cases e : zaf cs=k
    · subst e;rw [if_pos rfl,if_pos rfl];omega
    · rw [if_neg e,if_neg (by omega)];omega
end Go.Proofs.YtfkkapdofjhgpaaGreatDoor
