import Derived.Test.YtcefcglonooelaaGreatDoorRows
import Derived.ChangeSame
import Derived.ChangeVars
import Derived.RowKit
import Derived.RowKitTokens
import Derived.LaidLaws
import Derived.LaidHandle
import Derived.LaidSub
import Derived.Stop.LaidErr
import Derived.Stop.LaidTwo
import Derived.Test.YtcefcglonooelaaGreatDoorTie
import Derived.Test.YtcefcglonooelaaGreatDoorCards
import Derived.SevenTiedAt
import Derived.JoinedOf
import Derived.ProofKit
import Derived.Test.YtcefcglonooelaaGreatDoorChecked
import Derived.WalkKit
import Derived.WalkSpells
import Derived.Handy
import Derived.Below
import Derived.Deep.QuietTactic
import Derived.BigQuiet
import Derived.Test.YtcefcglonooelaaGreatDoorA01
import Derived.Test.YtcefcglonooelaaGreatDoorA02
import Derived.Test.YtcefcglonooelaaGreatDoorA06
namespace Go.Proofs.YtcefcglonooelaaGreatDoor
open Go.RowKit
set_option linter.unusedVariables false
set_option maxRecDepth 100000
def errVars : List Nat := [1,2,3,4,5,6,7,8,0]
structure Vars (w : World) (ad : Nat -> Addr) : Prop where
  cell : ∀ i ∈ errVars,w.cell? ⟨i,0,none⟩ = some (.iface 228 (.pointer (some (ad i))))
  et : w.cell? ⟨9,0,none⟩ = some (.iface 186 (.agg #[.pointer (some ⟨11,69,none⟩)]))
  blk : ∀ i ∈ errVars,∃ c t,w.heap[(ad i).block]? = some (.cells c t (0,0))
theorem cell_lt {w : World} {a : Addr} {v : Value} (h : w.cell? a = some v) : a.block < w.heap.size := by
  rcases Nat.lt_or_ge a.block w.heap.size with q | q
  · exact q
  · simp [World.cell?,Array.getElem?_eq_none q] at h
theorem Vars.below {w w' : World} {ad : Nat -> Addr} (h : Vars w ad) (k : Below w.heap.size w w') : Vars w' ad :=
  ⟨fun i hi => (k.cell (p := ⟨i,0,none⟩) (cell_lt (h.cell i hi))).trans (h.cell i hi),(k.cell (p := ⟨9,0,none⟩) (cell_lt h.et)).trans h.et,fun i hi => by
    obtain ⟨c,t,hb⟩ := h.blk i hi
    exact ⟨c,t,(k.block _ (heap_lt hb)).trans hb⟩⟩
def varOf (c : Int) : Nat := if c = 1 then 1 else if c = 2 then 2 else if c = 3 then 3 else if c = 4 then 4 else if c = 5 then 5 else if c = 6 then 6 else if c = 7 then 7 else if c = 8 then 8 else if c = 9 then 0 else 0
def refErr (ad : Nat -> Addr) (c : Int) : Value := if c = 0 then .nilIface else .iface 106 (.agg #[.int .i64 c,.iface 228 (.pointer (some (ad (varOf c))))])
def kMakes (k : Int) : Bool := decide (k = 1) || kOther k
def kInside (k : Int) : Bool := decide (k = 2) || decide (k = 3) || decide (k = 7)
theorem makes_any (k : Int) (hk : 1 <= k /\ k <= 9) (w : World) :
    Calls Tryz.prog 114 #[.int .i64 k] w fun e w' => e = .returned (.bool (kMakes k)) /\ w' = w := by
  have h : k = 1 \/ k = 2 \/ k = 3 \/ k = 4 \/ k = 5 \/ k = 6 \/ k = 7 \/ k = 8 \/ k = 9 := by omega
  rcases h with rfl | rfl | rfl | rfl | rfl | rfl | rfl | rfl | rfl
  all_goals
    go_enter Tryz.func114,Tryz.ntmps114
    go_wp2
    go_ret;exact ⟨rfl,rfl⟩
theorem heedsEpoch_any (k : Int) (hk : 1 <= k /\ k <= 9) (w : World) :
    Calls Tryz.prog 116 #[.int .i64 k] w fun e w' => e = .returned (.bool (kEpoch k)) /\ w' = w := by
  have h : k = 1 \/ k = 2 \/ k = 3 \/ k = 4 \/ k = 5 \/ k = 6 \/ k = 7 \/ k = 8 \/ k = 9 := by omega
  rcases h with rfl | rfl | rfl | rfl | rfl | rfl | rfl | rfl | rfl
  all_goals
    go_enter Tryz.func116,Tryz.ntmps116
    go_wp2
    go_ret;exact ⟨rfl,rfl⟩
theorem changesInside_any (k : Int) (hk : 1 <= k /\ k <= 9) (w : World) :
    Calls Tryz.prog 117 #[.int .i64 k] w fun e w' => e = .returned (.bool (kInside k)) /\ w' = w := by
  have h : k = 1 \/ k = 2 \/ k = 3 \/ k = 4 \/ k = 5 \/ k = 6 \/ k = 7 \/ k = 8 \/ k = 9 := by omega
  rcases h with rfl | rfl | rfl | rfl | rfl | rfl | rfl | rfl | rfl
  all_goals
    go_enter Tryz.func117,Tryz.ntmps117
    go_wp2
    go_ret;exact ⟨rfl,rfl⟩
theorem asksPlace_any (k : Int) (hk : 1 <= k /\ k <= 9) (w : World) :
    Calls Tryz.prog 118 #[.int .i64 k] w fun e w' => e = .returned (.bool (kAt k)) /\ w' = w := by
  have h : k = 1 \/ k = 2 \/ k = 3 \/ k = 4 \/ k = 5 \/ k = 6 \/ k = 7 \/ k = 8 \/ k = 9 := by omega
  rcases h with rfl | rfl | rfl | rfl | rfl | rfl | rfl | rfl | rfl
  all_goals
    go_enter Tryz.func118,Tryz.ntmps118
    go_wp2
    go_ret;exact ⟨rfl,rfl⟩
theorem madeName_make (nm ot : ByteArray) (at_ va ep : Int) (w : World) :
    Calls Tryz.prog 115 #[.agg #[.int .i64 1,.string nm,.string ot,.int .i64 at_,.int .i64 va,.int .i64 ep]] w fun e w' => e = .returned (.string nm) /\ Below w.heap.size w w' := by
  go_enter Tryz.func115,Tryz.ntmps115
  go_wp2
  go_ret;exact ⟨rfl,bw_alloc (Below.refl _ _)⟩
theorem madeName_other (k : Int) (hk : k = 4 \/ k = 5) (nm ot : ByteArray) (at_ va ep : Int) (w : World) :
    Calls Tryz.prog 115 #[.agg #[.int .i64 k,.string nm,.string ot,.int .i64 at_,.int .i64 va,.int .i64 ep]] w fun e w' => e = .returned (.string ot) /\ Below w.heap.size w w' := by
  rcases hk with rfl | rfl
  all_goals
    go_enter Tryz.func115,Tryz.ntmps115
    go_wp2
    go_ret;exact ⟨rfl,bw_alloc (Below.refl _ _)⟩
def bkAt (bks : List Bk) (at_ : Int) : Bk := if at_ < 0 then zeroBk else bks.getD at_.toNat zeroBk
theorem bkAt_no {bks : List Bk} {at_ : Int} (h : at_ < 0) : bkAt bks at_ = zeroBk := by rw [bkAt,if_pos h]
theorem bkAt_yes {bks : List Bk} {i : Nat} (h : i < bks.length) : bkAt bks (i : Int) = bks[i] := by
  rw [bkAt,if_neg (by omega),Int.toNat_natCast,List.getD_eq_getElem?_getD,List.getElem?_eq_getElem h];rfl
set_option maxHeartbeats 1600000 in
theorem bookAt_any (vb : Value) (bks : List Bk) (at_ : Int) (w : World) (hat : at_ < bks.length) (hms : ∀ b ∈ bks,∃ o k cap,b.m = .slice o k cap) (r : ReadsR 5 bookC w.heap.size w vb bks) :
    Calls Tryz.prog 112 #[vb,.int .i64 at_] w fun e w' => e = .returned (.agg (bookC (bkAt bks at_)).toArray) /\ Below w.heap.size w w' := by
  obtain ⟨o,cap,rfl,hm,hc,-⟩ := r;have HC : Hid _ := five_cells hc;obtain ⟨W0,hW0,k0,d0,z0⟩ := box1 w #[.string ByteArray.empty,.int .i64 0,.slice none 0 0,.bool false,.int .i64 0] 87;unfold maxLen at hm;have HW0 : Hid (W0 = _) := hW0;obtain ⟨p0,p1,p2,p3,p4⟩ := c5 k0;obtain ⟨f0,f1,f2,f3,f4⟩ := o5 k0;clear hc;by_cases h0 : at_ < 0
  · rw [bkAt_no h0]
    go_enter Tryz.func112,Tryz.ntmps112
    go_wp2_with fail
    refine bodyPost_ret (v := .agg (bookC zeroBk).toArray) ?_ rfl ⟨rfl,bw_alloc (Below.refl _ _)⟩;simp [results,Tryz.results112,go_sem,bookC,zeroBk]
    rfl
  · obtain ⟨i,rfl⟩ := Int.eq_ofNat_of_zero_le (show 0 <= at_ by omega)
    have hi : i < bks.length := by omega
    rw [bkAt_yes hi];obtain ⟨g,off,rfl,hg,a0,a1,a2,a3,a4⟩ := HC.out i hi;obtain ⟨o',k',c',hm'⟩ := hms bks[i] (List.getElem_mem hi);generalize bks[i] = x at *;obtain ⟨xn,xs,xm,xr,xf,xe⟩ := x;simp only at a0 a1 a2 a3 a4 hm';subst hm';have hne : ¬ g = w.heap.size := by omega
    go_enter Tryz.func112,Tryz.ntmps112
    go_wp2_with fail
    refine bodyPost_ret (v := .agg (bookC ⟨xn,xs,.slice o' k' c',xr,xf,xe⟩).toArray) ?_ rfl ⟨rfl,bw_alloc (Below.refl _ _)⟩;simp [results,Tryz.results112,go_sem,bookC]
set_option maxHeartbeats 1600000 in
theorem codeOf_any (c : Int) (i : Nat) (w : World) (ad : Nat -> Addr) (hv : Vars w ad) :
    Calls Tryz.prog 39 #[.iface 106 (.agg #[.int .i64 c,.iface 228 (.pointer (some (ad i)))])] w fun e w' => e = .returned (.int .i64 c) /\ Below w.heap.size w w' := by
  obtain ⟨W0,hW0,k0,d0,z0⟩ := box1 w #[.int .i64 0,.nilIface] 106;have HW0 : Hid (W0 = _) := hW0;have hv0 := hv.below d0;clear hW0 z0
  go_enter Tryz.func39,Tryz.ntmps39
  go_wp2_with fail
  rw [<- HW0.out];clear HW0;refine (as_ref c _ (ad i) w.heap.size _ _ _ hv0.et k0).mono ?_;rintro e w1 ⟨rfl,k1,u1⟩;have q0 := at_cell k1 0;have b1 : Below w.heap.size w w1 := d0.trans (u1.toBelow d0.size (Nat.le_refl _));clear k1 u1 k0 d0
  go_wp2_with fail
  go_ret;exact ⟨rfl,b1⟩
end Go.Proofs.YtcefcglonooelaaGreatDoor
namespace Go.Proofs.YtcefcglonooelaaGreatDoor
open Go.ChangeShapes Go.WideShapes Go.RowKit
set_option linter.unusedVariables false
theorem Tryz.lEt : Tryz.prog.globalNamed "errors.errorType" = some 9 := by kernel_rfl
theorem Tryz.lRt : (Tryz.prog.cutTypes.find? (·.1 == "internal/reflectlite.rtype")).map (·.2) = some 186 := by kernel_rfl
theorem Tryz.lSize : Tryz.prog.types.size = 260 := by kernel_rfl
theorem Tryz.lOne : ((List.range 260).filter fun t => Tryz.prog.rowNamed t [101,114,114,111,114]) = [69] := by kernel_rfl
theorem Tryz.lRow : ∀ u,Tryz.prog.typeName? 3 u = some "*errors.errorString" -> u = 228 := typeName_ptr_named (nm := "errors.errorString") (by kernel_rfl) (by kernel_rfl) (by decide)
theorem Tryz.lCells : Tryz.prog.cellsOf 248 = 1 := by kernel_rfl
theorem Tryz.lCellsS : Tryz.prog.cellsOf 9 = 1 := by kernel_rfl
theorem Tryz.lGT : ∀ i ∈ errVars,(Tryz.prog.globals[i]?).map (·.type) = some 69 := by
  intro i hi;simp only [errVars,List.mem_cons,List.mem_nil_iff,or_false] at hi;rcases hi with rfl | rfl | rfl | rfl | rfl | rfl | rfl | rfl | rfl <;> kernel_rfl
theorem Tryz.gerrWrongOp : Tryz.prog.globalNamed "loop.example/g00372/impl.errWrongOp" = some 1 := by kernel_rfl
theorem Tryz.gerrNoBook : Tryz.prog.globalNamed "loop.example/g00372/impl.errNoBook" = some 2 := by kernel_rfl
theorem Tryz.gerrBookThere : Tryz.prog.globalNamed "loop.example/g00372/impl.errBookThere" = some 3 := by kernel_rfl
theorem Tryz.gerrFenced : Tryz.prog.globalNamed "loop.example/g00372/impl.errFenced" = some 4 := by kernel_rfl
theorem Tryz.gerrFixed : Tryz.prog.globalNamed "loop.example/g00372/impl.errFixed" = some 5 := by kernel_rfl
theorem Tryz.gerrRange : Tryz.prog.globalNamed "loop.example/g00372/impl.errRange" = some 6 := by kernel_rfl
theorem Tryz.gerrManyBooks : Tryz.prog.globalNamed "loop.example/g00372/impl.errManyBooks" = some 7 := by kernel_rfl
theorem Tryz.gerrWorn : Tryz.prog.globalNamed "loop.example/g00372/impl.errWorn" = some 8 := by kernel_rfl
theorem Tryz.gerrNoPage : Tryz.prog.globalNamed "loop.example/g00372/impl.errNoPage" = some 0 := by kernel_rfl
def laidNine : List (String × DataW Unit) := [("loop.example/g00372/impl.errWrongOp",Rows.laid_loop_example_g00372_impl_errWrongOp),("loop.example/g00372/impl.errNoBook",Rows.laid_loop_example_g00372_impl_errNoBook),("loop.example/g00372/impl.errBookThere",Rows.laid_loop_example_g00372_impl_errBookThere),("loop.example/g00372/impl.errFenced",Rows.laid_loop_example_g00372_impl_errFenced),("loop.example/g00372/impl.errFixed",Rows.laid_loop_example_g00372_impl_errFixed),("loop.example/g00372/impl.errRange",Rows.laid_loop_example_g00372_impl_errRange),("loop.example/g00372/impl.errManyBooks",Rows.laid_loop_example_g00372_impl_errManyBooks),("loop.example/g00372/impl.errWorn",Rows.laid_loop_example_g00372_impl_errWorn),("loop.example/g00372/impl.errNoPage",Rows.laid_loop_example_g00372_impl_errNoPage)]
def laidLess : List (String × DataW Unit) := ("errors.errorType",Rows.laid_errors_errorType) :: laidNine
theorem two_laid {W : World} {n0 n1 : String} {t0 t1 : List UInt8} {g0 g1 : Nat} (h : laidMet Tryz.prog [(n0,.iface "*errors.errorString" (.ptr (.agg [.lit (.string t0)]))),(n1,.iface "*errors.errorString" (.ptr (.agg [.lit (.string t1)])))] W) (hg0 : Tryz.prog.globalNamed n0 = some g0) (ht0 : (Tryz.prog.globals[g0]?).map (·.type) = some 69) (hg1 : Tryz.prog.globalNamed n1 = some g1) (ht1 : (Tryz.prog.globals[g1]?).map (·.type) = some 69) :
    ∃ (a0 a1 : Addr) (c0 c1 : Array Value) (s0 s1 : TypeId),W.cell? ⟨g0,0,none⟩ = some (.iface 228 (.pointer (some a0))) /\ W.cell? ⟨g1,0,none⟩ = some (.iface 228 (.pointer (some a1))) /\ a0 ≠ a1 /\ W.heap[a0.block]? = some (.cells c0 s0 (0,0)) /\ W.heap[a1.block]? = some (.cells c1 s1 (0,0)) := by
  obtain ⟨a0,a1,s0,s1,c0,c1,u0,u1,hv0,hv1,-,-,-,-,-,-,hne,hb0,hb1⟩ := laid_sentinels2 h hg0 ht0 hg1 ht1 Tryz.underlying69 Tryz.lRow Tryz.underlying228 Tryz.underlying248 rfl rfl Tryz.underlying9 Tryz.lCells Tryz.lCellsS;exact ⟨a0,a1,c0,c1,u0,u1,by simpa using World.var?_cell hg0 hv0 0,by simpa using World.var?_cell hg1 hv1 0,hne,hb0,hb1⟩
theorem handle_laid {W : World} {l : List (String × DataW Unit)} (h : handlesMet Tryz.prog (("errors.errorType",Rows.laid_errors_errorType) :: l) W) : W.cell? ⟨9,0,none⟩ = some (.iface 186 (.agg #[.pointer (some ⟨11,69,none⟩)])) := by
  obtain ⟨name,u,ty,e1,e2,e3,e4,e5⟩ := h _ (List.mem_cons_self ..);have en : name = [101,114,114,111,114] := (Option.some.inj e1).symm;subst en;obtain rfl := Option.some.inj (Tryz.lRt.symm.trans e2);have hm : ty ∈ (List.range 260).filter fun t => Tryz.prog.rowNamed t [101,114,114,111,114] := List.mem_filter.2 ⟨List.mem_range.2 (by rw [<- Tryz.lSize];exact e3),e4⟩
  rw [Tryz.lOne] at hm;obtain rfl := List.mem_singleton.1 hm;have hh : typeHandle Tryz.prog 69 = .pointer (some ⟨11,69,none⟩) := by kernel_rfl
  rw [hh] at e5
  simpa using World.var?_cell Tryz.lEt e5 0
def adOf (W : World) (i : Nat) : Addr := match W.cell? ⟨i,0,none⟩ with
  | some (.iface _ (.pointer (some a))) => a
  | _ => ⟨0,0,none⟩
theorem adOf_eq {W : World} {i : Nat} {t : TypeId} {a : Addr} (h : W.cell? ⟨i,0,none⟩ = some (.iface t (.pointer (some a)))) : adOf W i = a := by rw [adOf,h]
theorem pair_nerrNoBook {W : World} (h : laidMet Tryz.prog laidNine W) : ∃ (a0 a1 : Addr) (c0 c1 : Array Value) (s0 s1 : TypeId),W.cell? ⟨1,0,none⟩ = some (.iface 228 (.pointer (some a0))) /\ W.cell? ⟨2,0,none⟩ = some (.iface 228 (.pointer (some a1))) /\ a0 ≠ a1 /\ W.heap[a0.block]? = some (.cells c0 s0 (0,0)) /\ W.heap[a1.block]? = some (.cells c1 s1 (0,0)) := by
  have h2 := laidMet.filter (fun x => x.1 == "loop.example/g00372/impl.errWrongOp" || x.1 == "loop.example/g00372/impl.errNoBook") h;have e : laidNine.filter (fun x => x.1 == "loop.example/g00372/impl.errWrongOp" || x.1 == "loop.example/g00372/impl.errNoBook") = [("loop.example/g00372/impl.errWrongOp",Rows.laid_loop_example_g00372_impl_errWrongOp),("loop.example/g00372/impl.errNoBook",Rows.laid_loop_example_g00372_impl_errNoBook)] := by simp [laidNine]
  rw [e] at h2;exact two_laid h2 Tryz.gerrWrongOp (Tryz.lGT _ (by decide)) Tryz.gerrNoBook (Tryz.lGT _ (by decide))
theorem pair_nerrBookThere {W : World} (h : laidMet Tryz.prog laidNine W) : ∃ (a0 a1 : Addr) (c0 c1 : Array Value) (s0 s1 : TypeId),W.cell? ⟨1,0,none⟩ = some (.iface 228 (.pointer (some a0))) /\ W.cell? ⟨3,0,none⟩ = some (.iface 228 (.pointer (some a1))) /\ a0 ≠ a1 /\ W.heap[a0.block]? = some (.cells c0 s0 (0,0)) /\ W.heap[a1.block]? = some (.cells c1 s1 (0,0)) := by
  have h2 := laidMet.filter (fun x => x.1 == "loop.example/g00372/impl.errWrongOp" || x.1 == "loop.example/g00372/impl.errBookThere") h;have e : laidNine.filter (fun x => x.1 == "loop.example/g00372/impl.errWrongOp" || x.1 == "loop.example/g00372/impl.errBookThere") = [("loop.example/g00372/impl.errWrongOp",Rows.laid_loop_example_g00372_impl_errWrongOp),("loop.example/g00372/impl.errBookThere",Rows.laid_loop_example_g00372_impl_errBookThere)] := by simp [laidNine]
  rw [e] at h2;exact two_laid h2 Tryz.gerrWrongOp (Tryz.lGT _ (by decide)) Tryz.gerrBookThere (Tryz.lGT _ (by decide))
theorem pair_nerrFenced {W : World} (h : laidMet Tryz.prog laidNine W) : ∃ (a0 a1 : Addr) (c0 c1 : Array Value) (s0 s1 : TypeId),W.cell? ⟨1,0,none⟩ = some (.iface 228 (.pointer (some a0))) /\ W.cell? ⟨4,0,none⟩ = some (.iface 228 (.pointer (some a1))) /\ a0 ≠ a1 /\ W.heap[a0.block]? = some (.cells c0 s0 (0,0)) /\ W.heap[a1.block]? = some (.cells c1 s1 (0,0)) := by
  have h2 := laidMet.filter (fun x => x.1 == "loop.example/g00372/impl.errWrongOp" || x.1 == "loop.example/g00372/impl.errFenced") h;have e : laidNine.filter (fun x => x.1 == "loop.example/g00372/impl.errWrongOp" || x.1 == "loop.example/g00372/impl.errFenced") = [("loop.example/g00372/impl.errWrongOp",Rows.laid_loop_example_g00372_impl_errWrongOp),("loop.example/g00372/impl.errFenced",Rows.laid_loop_example_g00372_impl_errFenced)] := by simp [laidNine]
  rw [e] at h2;exact two_laid h2 Tryz.gerrWrongOp (Tryz.lGT _ (by decide)) Tryz.gerrFenced (Tryz.lGT _ (by decide))
theorem pair_nerrFixed {W : World} (h : laidMet Tryz.prog laidNine W) : ∃ (a0 a1 : Addr) (c0 c1 : Array Value) (s0 s1 : TypeId),W.cell? ⟨1,0,none⟩ = some (.iface 228 (.pointer (some a0))) /\ W.cell? ⟨5,0,none⟩ = some (.iface 228 (.pointer (some a1))) /\ a0 ≠ a1 /\ W.heap[a0.block]? = some (.cells c0 s0 (0,0)) /\ W.heap[a1.block]? = some (.cells c1 s1 (0,0)) := by
  have h2 := laidMet.filter (fun x => x.1 == "loop.example/g00372/impl.errWrongOp" || x.1 == "loop.example/g00372/impl.errFixed") h;have e : laidNine.filter (fun x => x.1 == "loop.example/g00372/impl.errWrongOp" || x.1 == "loop.example/g00372/impl.errFixed") = [("loop.example/g00372/impl.errWrongOp",Rows.laid_loop_example_g00372_impl_errWrongOp),("loop.example/g00372/impl.errFixed",Rows.laid_loop_example_g00372_impl_errFixed)] := by simp [laidNine]
  rw [e] at h2;exact two_laid h2 Tryz.gerrWrongOp (Tryz.lGT _ (by decide)) Tryz.gerrFixed (Tryz.lGT _ (by decide))
theorem pair_nerrRange {W : World} (h : laidMet Tryz.prog laidNine W) : ∃ (a0 a1 : Addr) (c0 c1 : Array Value) (s0 s1 : TypeId),W.cell? ⟨1,0,none⟩ = some (.iface 228 (.pointer (some a0))) /\ W.cell? ⟨6,0,none⟩ = some (.iface 228 (.pointer (some a1))) /\ a0 ≠ a1 /\ W.heap[a0.block]? = some (.cells c0 s0 (0,0)) /\ W.heap[a1.block]? = some (.cells c1 s1 (0,0)) := by
  have h2 := laidMet.filter (fun x => x.1 == "loop.example/g00372/impl.errWrongOp" || x.1 == "loop.example/g00372/impl.errRange") h;have e : laidNine.filter (fun x => x.1 == "loop.example/g00372/impl.errWrongOp" || x.1 == "loop.example/g00372/impl.errRange") = [("loop.example/g00372/impl.errWrongOp",Rows.laid_loop_example_g00372_impl_errWrongOp),("loop.example/g00372/impl.errRange",Rows.laid_loop_example_g00372_impl_errRange)] := by simp [laidNine]
  rw [e] at h2;exact two_laid h2 Tryz.gerrWrongOp (Tryz.lGT _ (by decide)) Tryz.gerrRange (Tryz.lGT _ (by decide))
theorem pair_nerrManyBooks {W : World} (h : laidMet Tryz.prog laidNine W) : ∃ (a0 a1 : Addr) (c0 c1 : Array Value) (s0 s1 : TypeId),W.cell? ⟨1,0,none⟩ = some (.iface 228 (.pointer (some a0))) /\ W.cell? ⟨7,0,none⟩ = some (.iface 228 (.pointer (some a1))) /\ a0 ≠ a1 /\ W.heap[a0.block]? = some (.cells c0 s0 (0,0)) /\ W.heap[a1.block]? = some (.cells c1 s1 (0,0)) := by
  have h2 := laidMet.filter (fun x => x.1 == "loop.example/g00372/impl.errWrongOp" || x.1 == "loop.example/g00372/impl.errManyBooks") h;have e : laidNine.filter (fun x => x.1 == "loop.example/g00372/impl.errWrongOp" || x.1 == "loop.example/g00372/impl.errManyBooks") = [("loop.example/g00372/impl.errWrongOp",Rows.laid_loop_example_g00372_impl_errWrongOp),("loop.example/g00372/impl.errManyBooks",Rows.laid_loop_example_g00372_impl_errManyBooks)] := by simp [laidNine]
  rw [e] at h2;exact two_laid h2 Tryz.gerrWrongOp (Tryz.lGT _ (by decide)) Tryz.gerrManyBooks (Tryz.lGT _ (by decide))
theorem pair_nerrWorn {W : World} (h : laidMet Tryz.prog laidNine W) : ∃ (a0 a1 : Addr) (c0 c1 : Array Value) (s0 s1 : TypeId),W.cell? ⟨1,0,none⟩ = some (.iface 228 (.pointer (some a0))) /\ W.cell? ⟨8,0,none⟩ = some (.iface 228 (.pointer (some a1))) /\ a0 ≠ a1 /\ W.heap[a0.block]? = some (.cells c0 s0 (0,0)) /\ W.heap[a1.block]? = some (.cells c1 s1 (0,0)) := by
  have h2 := laidMet.filter (fun x => x.1 == "loop.example/g00372/impl.errWrongOp" || x.1 == "loop.example/g00372/impl.errWorn") h;have e : laidNine.filter (fun x => x.1 == "loop.example/g00372/impl.errWrongOp" || x.1 == "loop.example/g00372/impl.errWorn") = [("loop.example/g00372/impl.errWrongOp",Rows.laid_loop_example_g00372_impl_errWrongOp),("loop.example/g00372/impl.errWorn",Rows.laid_loop_example_g00372_impl_errWorn)] := by simp [laidNine]
  rw [e] at h2;exact two_laid h2 Tryz.gerrWrongOp (Tryz.lGT _ (by decide)) Tryz.gerrWorn (Tryz.lGT _ (by decide))
theorem pair_nerrNoPage {W : World} (h : laidMet Tryz.prog laidNine W) : ∃ (a0 a1 : Addr) (c0 c1 : Array Value) (s0 s1 : TypeId),W.cell? ⟨1,0,none⟩ = some (.iface 228 (.pointer (some a0))) /\ W.cell? ⟨0,0,none⟩ = some (.iface 228 (.pointer (some a1))) /\ a0 ≠ a1 /\ W.heap[a0.block]? = some (.cells c0 s0 (0,0)) /\ W.heap[a1.block]? = some (.cells c1 s1 (0,0)) := by
  have h2 := laidMet.filter (fun x => x.1 == "loop.example/g00372/impl.errWrongOp" || x.1 == "loop.example/g00372/impl.errNoPage") h;have e : laidNine.filter (fun x => x.1 == "loop.example/g00372/impl.errWrongOp" || x.1 == "loop.example/g00372/impl.errNoPage") = [("loop.example/g00372/impl.errWrongOp",Rows.laid_loop_example_g00372_impl_errWrongOp),("loop.example/g00372/impl.errNoPage",Rows.laid_loop_example_g00372_impl_errNoPage)] := by simp [laidNine]
  rw [e] at h2;exact two_laid h2 Tryz.gerrWrongOp (Tryz.lGT _ (by decide)) Tryz.gerrNoPage (Tryz.lGT _ (by decide))
theorem vars_nine {W : World} (h : laidMetH Tryz.prog laidLess W) : Vars W (adOf W) := by
  have h' : laidMet Tryz.prog laidNine W /\ handlesMet Tryz.prog [("errors.errorType",Rows.laid_errors_errorType)] W := h;have het := handle_laid h'.2;obtain ⟨x0,aerrNoBook,cerrWrongOp,cerrNoBook,terrWrongOp,terrNoBook,kerrWrongOp,kerrNoBook,nerrNoBook,berrWrongOp,berrNoBook⟩ := pair_nerrNoBook h'.1;obtain ⟨x0,aerrBookThere,cerrWrongOp,cerrBookThere,terrWrongOp,terrBookThere,kerrWrongOp,kerrBookThere,nerrBookThere,berrWrongOp,berrBookThere⟩ := pair_nerrBookThere h'.1;obtain ⟨x0,aerrFenced,cerrWrongOp,cerrFenced,terrWrongOp,terrFenced,kerrWrongOp,kerrFenced,nerrFenced,berrWrongOp,berrFenced⟩ := pair_nerrFenced h'.1;obtain ⟨x0,aerrFixed,cerrWrongOp,cerrFixed,terrWrongOp,terrFixed,kerrWrongOp,kerrFixed,nerrFixed,berrWrongOp,berrFixed⟩ := pair_nerrFixed h'.1;obtain ⟨x0,aerrRange,cerrWrongOp,cerrRange,terrWrongOp,terrRange,kerrWrongOp,kerrRange,nerrRange,berrWrongOp,berrRange⟩ := pair_nerrRange h'.1;obtain ⟨x0,aerrManyBooks,cerrWrongOp,cerrManyBooks,terrWrongOp,terrManyBooks,kerrWrongOp,kerrManyBooks,nerrManyBooks,berrWrongOp,berrManyBooks⟩ := pair_nerrManyBooks h'.1;obtain ⟨x0,aerrWorn,cerrWrongOp,cerrWorn,terrWrongOp,terrWorn,kerrWrongOp,kerrWorn,nerrWorn,berrWrongOp,berrWorn⟩ := pair_nerrWorn h'.1;obtain ⟨x0,aerrNoPage,cerrWrongOp,cerrNoPage,terrWrongOp,terrNoPage,kerrWrongOp,kerrNoPage,nerrNoPage,berrWrongOp,berrNoPage⟩ := pair_nerrNoPage h'.1;refine ⟨?_,het,?_⟩
  · intro i hi
    simp only [errVars,List.mem_cons,List.mem_nil_iff,or_false] at hi;rcases hi with rfl | rfl | rfl | rfl | rfl | rfl | rfl | rfl | rfl
    · rw [adOf_eq kerrWrongOp];exact kerrWrongOp
    · rw [adOf_eq kerrNoBook];exact kerrNoBook
    · rw [adOf_eq kerrBookThere];exact kerrBookThere
    · rw [adOf_eq kerrFenced];exact kerrFenced
    · rw [adOf_eq kerrFixed];exact kerrFixed
    · rw [adOf_eq kerrRange];exact kerrRange
    · rw [adOf_eq kerrManyBooks];exact kerrManyBooks
    · rw [adOf_eq kerrWorn];exact kerrWorn
    · rw [adOf_eq kerrNoPage];exact kerrNoPage
  · intro i hi
    simp only [errVars,List.mem_cons,List.mem_nil_iff,or_false] at hi;rcases hi with rfl | rfl | rfl | rfl | rfl | rfl | rfl | rfl | rfl
    · exact ⟨cerrWrongOp,terrWrongOp,by rw [adOf_eq kerrWrongOp];exact berrWrongOp⟩
    · exact ⟨cerrNoBook,terrNoBook,by rw [adOf_eq kerrNoBook];exact berrNoBook⟩
    · exact ⟨cerrBookThere,terrBookThere,by rw [adOf_eq kerrBookThere];exact berrBookThere⟩
    · exact ⟨cerrFenced,terrFenced,by rw [adOf_eq kerrFenced];exact berrFenced⟩
    · exact ⟨cerrFixed,terrFixed,by rw [adOf_eq kerrFixed];exact berrFixed⟩
    · exact ⟨cerrRange,terrRange,by rw [adOf_eq kerrRange];exact berrRange⟩
    · exact ⟨cerrManyBooks,terrManyBooks,by rw [adOf_eq kerrManyBooks];exact berrManyBooks⟩
    · exact ⟨cerrWorn,terrWorn,by rw [adOf_eq kerrWorn];exact berrWorn⟩
    · exact ⟨cerrNoPage,terrNoPage,by rw [adOf_eq kerrNoPage];exact berrNoPage⟩
abbrev xerrWrongOp : ByteArray := { data := #[116,104,101,32,111,112,32,105,115,32,110,111,116,32,114,105,103,104,116] }
abbrev xerrNoBook : ByteArray := { data := #[116,104,101,114,101,32,105,115,32,110,111,32,115,117,99,104,32,98,111,111,107] }
abbrev xerrBookThere : ByteArray := { data := #[116,104,101,114,101,32,105,115,32,115,117,99,104,32,97,32,98,111,111,107,32,97,108,114,101,97,100,121] }
abbrev xerrFenced : ByteArray := { data := #[116,104,101,32,101,112,111,99,104,32,105,115,32,98,101,108,111,119,32,116,104,101,32,98,111,111,107,39,115] }
abbrev xerrFixed : ByteArray := { data := #[116,104,101,32,98,111,111,107,32,105,115,32,102,105,120,101,100] }
abbrev xerrRange : ByteArray := { data := #[116,104,101,32,112,108,97,99,101,32,105,115,32,110,111,116,32,98,101,108,111,119,32,116,104,101,32,98,111,111,107,39,115,32,115,105,122,101] }
abbrev xerrManyBooks : ByteArray := { data := #[116,104,101,114,101,32,105,115,32,110,111,32,114,111,111,109,32,102,111,114,32,111,110,101,32,109,111,114,101,32,98,111,111,107] }
abbrev xerrWorn : ByteArray := { data := #[116,104,101,32,98,111,111,107,39,115,32,101,112,111,99,104,32,105,115,32,116,104,101,32,108,97,115,116,32,111,110,101] }
abbrev xerrNoPage : ByteArray := { data := #[116,104,101,114,101,32,105,115,32,110,111,32,112,97,103,101,32,116,111,32,115,112,97,114,101] }
noncomputable def low : Nat := (World.holding Tryz.prog default ⟨#[],#[],[]⟩).heap.size
noncomputable def laidWorld (os : Os) : World :=
  let w0 := World.holding Tryz.prog os ⟨#[.cells #[.string xerrWrongOp] 248,.cells #[.string xerrNoBook] 248,.cells #[.string xerrBookThere] 248,.cells #[.string xerrFenced] 248,.cells #[.string xerrFixed] 248,.cells #[.string xerrRange] 248,.cells #[.string xerrManyBooks] 248,.cells #[.string xerrWorn] 248,.cells #[.string xerrNoPage] 248],#[],[]⟩
  { w0 with heap := (((((((((w0.heap.modify 1 fun
      | .cells _ t frozen => .cells #[.iface 228 (.pointer (some ⟨low + 0,0,none⟩))] t frozen
      | o => o).modify 2 fun
      | .cells _ t frozen => .cells #[.iface 228 (.pointer (some ⟨low + 1,0,none⟩))] t frozen
      | o => o).modify 3 fun
      | .cells _ t frozen => .cells #[.iface 228 (.pointer (some ⟨low + 2,0,none⟩))] t frozen
      | o => o).modify 4 fun
      | .cells _ t frozen => .cells #[.iface 228 (.pointer (some ⟨low + 3,0,none⟩))] t frozen
      | o => o).modify 5 fun
      | .cells _ t frozen => .cells #[.iface 228 (.pointer (some ⟨low + 4,0,none⟩))] t frozen
      | o => o).modify 6 fun
      | .cells _ t frozen => .cells #[.iface 228 (.pointer (some ⟨low + 5,0,none⟩))] t frozen
      | o => o).modify 7 fun
      | .cells _ t frozen => .cells #[.iface 228 (.pointer (some ⟨low + 6,0,none⟩))] t frozen
      | o => o).modify 8 fun
      | .cells _ t frozen => .cells #[.iface 228 (.pointer (some ⟨low + 7,0,none⟩))] t frozen
      | o => o).modify 0 fun
      | .cells _ t frozen => .cells #[.iface 228 (.pointer (some ⟨low + 8,0,none⟩))] t frozen
      | o => o).modify 9 fun
      | .cells _ t frozen => .cells #[.iface 186 (.agg #[.pointer (some ⟨11,69,none⟩)])] t frozen
      | o => o }
set_option maxRecDepth 100000 in
theorem laid_nine (os : Os) (args : Array Value) : laidMetH Tryz.prog laidLess ((laidWorld os).forCall (fun _ _ => 0) ⟨#[],args,[]⟩).memory :=
  laidMetH_of_parts (show laidMet Tryz.prog laidNine _ from laidMet_of_run (ps := [.cell 1 0,.cell (low + 0) 0,.cell 2 0,.cell (low + 1) 0,.cell 3 0,.cell (low + 2) 0,.cell 4 0,.cell (low + 3) 0,.cell 5 0,.cell (low + 4) 0,.cell 6 0,.cell (low + 5) 0,.cell 7 0,.cell (low + 6) 0,.cell 8 0,.cell (low + 7) 0,.cell 0 0,.cell (low + 8) 0]) 8 (by kernel_rfl) (by kernel_rfl) (by kernel_rfl)) (by kernel_rfl)
end Go.Proofs.YtcefcglonooelaaGreatDoor
namespace Go.Proofs.YtcefcglonooelaaGreatDoor.fnAsPlain
open Go
set_option linter.unusedVariables false
theorem both {a b : Bool} (h : a = true) (k : b = true) : (a && b) = true := by rw [h,k];rfl
theorem hfn : Tryz.prog.funcNamed Rows.fnAsPlainRow.func = some 4 := by kernel_rfl
set_option maxRecDepth 100000 in
set_option maxHeartbeats 12800000 in
theorem closed : joinedFacts Tryz.prog 4 Tryz.f4 Rows.fnAsPlainSpec Rows.fnAsPlainRow = true := by
  unfold joinedFacts;refine both (both (both (both (both (both (both (both (both (both (both (both (both (both (both (both (both (both (both (both (both (both (both (both (both (both (both (both (both (both (both ?_ ?_) ?_) ?_) ?_) ?_) ?_) ?_) ?_) ?_) ?_) ?_) ?_) ?_) ?_) ?_) ?_) ?_) ?_) ?_) ?_) ?_) ?_) ?_) ?_) ?_) ?_) ?_) ?_) ?_) ?_) ?_
  all_goals as_aux_lemma => kernel_rfl
theorem hinst : Tryz.f4.isInstance Tryz.prog Rows.fnAsPlainRow.origin Rows.fnAsPlainRow.targs := of_decide_eq_true (by kernel_rfl)
theorem hwrap : Tryz.f4.isWrapper Tryz.prog Rows.fnAsPlainRow.wrapper Rows.fnAsPlainRow.mainSum := by unfold Func.isWrapper;first | (rw [if_pos (by decide +kernel)];kernel_rfl) | (rw [if_neg (by decide +kernel)];exact ⟨rfl,rfl⟩)
theorem byText : Rows.fnAsPlainRow.wfByText (OpenSpec.ofChange Rows.fnAsPlainSpec) = true := by kernel_rfl
theorem mainIs : Tryz.prog.mainIs = some (true,"c1202ad587a82d4a6b2824aa68a774fbcede363e1cfa9649eab5822d3dd22308".toList) := by kernel_rfl
theorem looks : true = Tryz.prog.looks [] := by kernel_rfl
theorem goes : false = Rows.fnAsPlainRow.goesBy Tryz.prog := by kernel_rfl
theorem stand22 : Tryz.prog.wantsStandIn 22 = false := by kernel_rfl
end Go.Proofs.YtcefcglonooelaaGreatDoor.fnAsPlain
namespace Go.Proofs.YtcefcglonooelaaGreatDoor
open Go.RowKit
set_option linter.unusedVariables false
set_option maxRecDepth 100000
set_option maxHeartbeats 400000 in
theorem byteEnd (c : Nat) (x : Option Addr) (len cap : Nat) (i : Nat) (h : Int) (w : World) (hl : len <= maxLen)
    (c0 : w.cell? ⟨c,0,none⟩ = some (.slice x len cap)) (c1 : w.cell? ⟨c,1,none⟩ = some (.int .i64 i)) (c2 : w.cell? ⟨c,2,none⟩ = some (.int .i64 h))
    (f2 : w.frozen? ⟨c,2,none⟩ = false) (hi : ¬ i < len) :
    Calls Tryz.prog 72 #[.pointer (some ⟨c,0,none⟩)] w fun e w' => ∃ (y h' : Int) (n m : Nat),e = .returned (.int .i64 y) /\ (0 <= y /\ y <= 255) /\ w' = ((w.setCell ⟨c,2,none⟩ (.int .i64 h')).drewN n).drewN m := by
  unfold maxLen at hl;have hx : ∀ n,bits .and .i64 n 255 = n % 256 := and255
  go_enter Tryz.func72,Tryz.ntmps72
  go_wp2
  go_quiet (fail)
  go_wp2
  go_quiet (fail)
  go_wp2
  go_ret;exact ⟨_,_,_,_,rfl,⟨by omega,by omega⟩,rfl⟩
set_option maxHeartbeats 400000 in
theorem byteMore (c b off : Nat) (len cap : Nat) (i : Nat) (h z : Int) (w : World) (hl : len <= maxLen)
    (c0 : w.cell? ⟨c,0,none⟩ = some (.slice (some ⟨b,off,none⟩) len cap)) (c1 : w.cell? ⟨c,1,none⟩ = some (.int .i64 i)) (c2 : w.cell? ⟨c,2,none⟩ = some (.int .i64 h))
    (f1 : w.frozen? ⟨c,1,none⟩ = false) (f2 : w.frozen? ⟨c,2,none⟩ = false) (hi : i < len) (hb : b < c) (cz : w.cell? ⟨b,off + i,none⟩ = some (.int .u8 z)) (z0 : 0 <= z) (z1 : z <= 255) :
    Calls Tryz.prog 72 #[.pointer (some ⟨c,0,none⟩)] w fun e w' => ∃ (y h' : Int) (n : Nat),e = .returned (.int .i64 y) /\ (0 <= y /\ y <= 255) /\ w' = ((w.setCell ⟨c,2,none⟩ (.int .i64 h')).drewN n).setCell ⟨c,1,none⟩ (.int .i64 ((i : Int) + 1)) := by
  unfold maxLen at hl;have hx : ∀ n,bits .and .i64 n 255 = n % 256 := and255;have hne : ¬ c = b := by omega
  have hne' : ¬ b = c := by omega
  go_enter Tryz.func72,Tryz.ntmps72
  go_wp2
  go_quiet (fail)
  go_wp2
  go_quiet (fail)
  go_wp2
  go_quiet (fail)
  go_wp2
  go_ret;exact ⟨_,_,_,rfl,⟨by omega,by omega⟩,rfl⟩
theorem byte_any (c : Nat) (x : Option Addr) (len cap : Nat) (w : World) (hc : Cur w c x len cap) :
    Calls Tryz.prog 72 #[.pointer (some ⟨c,0,none⟩)] w fun e w' => ∃ y : Int,e = .returned (.int .i64 y) /\ (0 <= y /\ y <= 255) /\ Upto c w w' /\ Cur w' c x len cap := by
  obtain ⟨i,h,hi,h1,h2⟩ := hc.ih;by_cases hlt : i < len
  · obtain ⟨b,off,z,rfl,hb,hz,z0,z1⟩ := hc.src i hlt
    refine (byteMore c b off len cap i h z w hc.hm hc.b h1 h2 hc.f1 hc.f2 hlt hb hz z0 z1).mono ?_;rintro e w' ⟨y,h',n,rfl,hy,rfl⟩;have hu : Upto c w (((w.setCell ⟨c,2,none⟩ (.int .i64 h')).drewN n).setCell ⟨c,1,none⟩ (.int .i64 ((i : Int) + 1))) := (((Upto.refl c w).setCell _ (.inl rfl) _).drewN n).setCell _ (.inl rfl) _;refine ⟨y,rfl,hy,hu,hc.step hu (i + 1) h' hlt ?_ ?_ ?_ ?_ ?_⟩
    · simp [go_sem,hc.b]
    · simp [go_sem,h1]
    · simp [go_sem,h2]
    · simp [go_sem,hc.f1]
    · simp [go_sem,hc.f2]
  · refine (byteEnd c x len cap i h w hc.hm hc.b h1 h2 hc.f2 hlt).mono ?_
    rintro e w' ⟨y,h',n,m,rfl,hy,rfl⟩;have hu : Upto c w (((w.setCell ⟨c,2,none⟩ (.int .i64 h')).drewN n).drewN m) := (((Upto.refl c w).setCell _ (.inl rfl) _).drewN n).drewN m;refine ⟨y,rfl,hy,hu,hc.step hu i h' hi ?_ ?_ ?_ ?_ ?_⟩
    · simp [go_sem,hc.b]
    · simp [go_sem,h1]
    · simp [go_sem,h2]
    · simp [go_sem,hc.f1]
    · simp [go_sem,hc.f2]
end Go.Proofs.YtcefcglonooelaaGreatDoor
