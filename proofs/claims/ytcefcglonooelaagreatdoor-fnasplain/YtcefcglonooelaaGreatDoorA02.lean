import Derived.LaidEql
import Derived.Stop.Asserts
import Derived.RowKitTokens
import Derived.RangeFuncBox
import Derived.Deep.WholeRow
import Derived.Laws.MakeOwn
import Derived.Test.YtcefcglonooelaaGreatDoorChecked
import Derived.WalkKit
import Derived.WalkSpells
import Derived.Laws.Bits128
import Derived.IntWalk
import Derived.Handy
import Derived.Laws.IdiomStrings
import Derived.Test.YtcefcglonooelaaGreatDoorA01
namespace Go.Proofs.YtcefcglonooelaaGreatDoor
open Go.RowKit Go.Extern.Stop Go.Stop Go.Extern
set_option linter.unusedVariables false
set_option maxRecDepth 100000
theorem Tryz.asValueP (t : Addr) (w : World) : (callFunc 120 #[.iface 109 (.pointer (some t))]).run Tryz.prog w = .ok (.value (.agg #[.pointer (some ⟨11,109,none⟩),.pointer (some ⟨w.heap.size,0,none⟩),.int .u64 150])) (w.alloc (.cells #[.pointer (some t)] 109)) := by kernel_rfl
theorem Tryz.asValueS (c y : Value) (hc : c.oneCell' = true) (hy : y.oneCell' = true) (w : World) : (callFunc 120 #[.iface 106 (.agg #[c,y])]).run Tryz.prog w = .ok (.value (.agg #[.pointer (some ⟨11,106,none⟩),.pointer (some ⟨w.heap.size,0,none⟩),.int .u64 153])) (w.alloc (.cells #[c,y] 106)) := by kernel_rfl
theorem Tryz.asTypeP (a : Addr) (w : World) : (callFunc 121 #[.agg #[.pointer (some ⟨11,109,none⟩),.pointer (some a),.int .u64 150]]).run Tryz.prog w = .ok (.value (.iface 186 (.agg #[.pointer (some ⟨11,109,none⟩)]))) w := by kernel_rfl
theorem Tryz.methodKind (h : Value) (w : World) : (Go.method 360 186 (.agg #[h]) "Kind").run Tryz.prog w = .ok (196,h) w := by kernel_rfl
theorem Tryz.methodElem (h : Value) (w : World) : (Go.method 360 186 (.agg #[h]) "Elem").run Tryz.prog w = .ok (210,.agg #[h]) w := by kernel_rfl
theorem Tryz.methodImplements (h : Value) (w : World) : (Go.method 360 186 (.agg #[h]) "Implements").run Tryz.prog w = .ok (211,.agg #[h]) w := by kernel_rfl
theorem Tryz.methodAssignableTo (h : Value) (w : World) : (Go.method 360 186 (.agg #[h]) "AssignableTo").run Tryz.prog w = .ok (208,.agg #[h]) w := by kernel_rfl
theorem Tryz.kindP (w : World) : (callFunc 196 #[.pointer (some ⟨11,109,none⟩)]).run Tryz.prog w = .ok (.value (.int .u8 22)) w := by kernel_rfl
theorem Tryz.kindS (w : World) : (callFunc 196 #[.pointer (some ⟨11,106,none⟩)]).run Tryz.prog w = .ok (.value (.int .u8 25)) w := by kernel_rfl
theorem Tryz.elemP (w : World) : (callFunc 210 #[.agg #[.pointer (some ⟨11,109,none⟩)]]).run Tryz.prog w = .ok (.value (.iface 186 (.agg #[.pointer (some ⟨11,106,none⟩)]))) w := by kernel_rfl
theorem Tryz.implementsS (w : World) : (callFunc 211 #[.agg #[.pointer (some ⟨11,106,none⟩)],.iface 186 (.agg #[.pointer (some ⟨11,69,none⟩)])]).run Tryz.prog w = .ok (.value (.bool true)) w := by kernel_rfl
theorem Tryz.typeOfS (v : Value) (w : World) : (callFunc 151 #[.iface 106 v]).run Tryz.prog w = .ok (.value (.iface 186 (.agg #[.pointer (some ⟨11,106,none⟩)]))) w := by kernel_rfl
theorem Tryz.assignableS (w : World) : (callFunc 208 #[.agg #[.pointer (some ⟨11,106,none⟩)],.iface 186 (.agg #[.pointer (some ⟨11,106,none⟩)])]).run Tryz.prog w = .ok (.value (.bool true)) w := by kernel_rfl
theorem rlm (z : Sem Value) (f : TypeId -> Addr -> Nat -> Nat -> Sem Value) (v : Value) :
    ReflectliteValue.method z f #[v] = (do match <- ReflectliteValue.parts v with | none => z | some (t,a,fl) => f t a fl (fl % 32)) := rfl
theorem Tryz.partsP (a : Addr) (w : World) : (ReflectliteValue.parts (.agg #[.pointer (some ⟨11,109,none⟩),.pointer (some a),.int .u64 150])).run Tryz.prog w = .ok (some (109,a,150)) w := by kernel_rfl
theorem Tryz.isNilP (a p : Addr) (W : World) (ha : W.cell? a = some (.pointer (some p))) :
    (callFunc 122 #[.agg #[.pointer (some ⟨11,109,none⟩),.pointer (some a),.int .u64 150]]).run Tryz.prog W = .ok (.value (.bool false)) W := by
  rw [@run_callFunc_extern Tryz.prog 122 _ (ReflectliteValue.method (ReflectliteValue.valueError "reflectlite.Value.IsNil" 0) ReflectliteValue.isNil) Tryz.func122 (by kernel_rfl) (by kernel_rfl) (by kernel_rfl) (by kernel_rfl),rlm];simp only [Sem.run_bind,Tryz.partsP,Result.andThen];simp [ReflectliteValue.isNil,loadVar,isAgg,underlying,Tryz.underlying109,ha,Result.andThen]
theorem Tryz.elemOfP (w : World) : (Rtype.elem? 109).run Tryz.prog w = .ok (some 106) w := by kernel_rfl
theorem Tryz.mkS (p : Addr) (w : World) : (ReflectliteValue.mk 106 p ReflectliteValue.flagAddr).run Tryz.prog w = .ok (.agg #[.pointer (some ⟨11,106,none⟩),.pointer (some p),.int .u64 409]) w := by kernel_rfl
theorem Tryz.elemVP (a p : Addr) (W : World) (ha : W.cell? a = some (.pointer (some p))) :
    (callFunc 152 #[.agg #[.pointer (some ⟨11,109,none⟩),.pointer (some a),.int .u64 150]]).run Tryz.prog W = .ok (.value (.agg #[.pointer (some ⟨11,106,none⟩),.pointer (some p),.int .u64 409])) W := by
  rw [@run_callFunc_extern Tryz.prog 152 _ (ReflectliteValue.method (ReflectliteValue.valueError "reflectlite.Value.Elem" 0) ReflectliteValue.elem) Tryz.func152 (by kernel_rfl) (by kernel_rfl) (by kernel_rfl) (by kernel_rfl),rlm];simp only [Sem.run_bind,Tryz.partsP,Result.andThen];simp [ReflectliteValue.elem,loadVar,isAgg,underlying,Tryz.underlying109,ha,Result.andThen,Tryz.elemOfP,Tryz.mkS]
end Go.Proofs.YtcefcglonooelaaGreatDoor
namespace Go.Proofs.YtcefcglonooelaaGreatDoor
open Go.RowKit
set_option linter.unusedVariables false
set_option maxRecDepth 100000
theorem wpList_load_arr {P : Program} {w : World} {ops : Array Oper} {rest : List Oper} {o : Oper} {a : Act} {Q : Exit -> Act -> World -> Prop} (hgd : o.guard = none) (p : Operand) (t : TypeId) (ho : o.op = .load t p)
    (g : Nat) (hp : a.eval p = .pointer (some ⟨g,0,none⟩)) (cs : Array Value) (ty : TypeId) (fr : Nat × Nat) (hg : w.heap[g]? = some (.cells cs ty fr)) (d : TypeDesc) (hu : P.underlying t = some d)
    (hd : (match d with | .struct _ | .array _ _ => true | _ => false) = true) (hi : (P.info? t).map (·.size) = some cs.size)
    (h : wpList P ops Q rest (a.put o.dst (.agg cs)) w) : wpList P ops Q (o :: rest) a w :=
  wpList_plain hgd fun K hK => by
    have hKK := hK _ _ h;have hr := run_loadVar_row (P := P) w g ty t cs fr d hg hu hd hi;unfold Oper.wp execOp;simp only [ho,hp,Instr.loadAt,Instr.sureAddr,Sem.run_bind,Sem.run_pure,Result.andThen_ok,hr];exact hKK
theorem wpList_store_arr {P : Program} {w : World} {ops : Array Oper} {rest : List Oper} {o : Oper} {a : Act} {Q : Exit -> Act -> World -> Prop} (hgd : o.guard = none) (p x : Operand) (t : TypeId) (ho : o.op = .store t p x)
    (g : Nat) (hp : a.eval p = .pointer (some ⟨g,0,none⟩)) (cs : Array Value) (hx : a.eval x = .agg cs) (old : Array Value) (ty : TypeId) (hg : w.heap[g]? = some (.cells old ty (0,0)))
    (hi : (P.info? t).map (·.size) = some cs.size) (hs : old.size = cs.size) (h1 : cs.all (·.oneCell') = true)
    (h : wpList P ops Q rest (a.put o.dst undef) (w.setRow g cs)) : wpList P ops Q (o :: rest) a w :=
  wpList_plain hgd fun K hK => by
    have hKK := hK _ _ h;have hr := run_storeVar_row (P := P) w g ty t old cs hg hi hs h1;unfold Oper.wp execOp;simp only [ho,hp,hx,Instr.storeAt,Instr.sureAddr,Sem.run_bind,Sem.run_pure,Result.andThen_ok,hr];exact hKK
theorem setRow_row {w : World} {g : Nat} {old cs : Array Value} {ty : TypeId} {fr : Nat × Nat} (hg : w.heap[g]? = some (.cells old ty fr)) : (w.setRow g cs).heap[g]? = some (.cells cs ty fr) := by
  simp only [World.setRow,Array.getElem?_modify,hg,if_true]
  rfl
theorem setRow_below {w : World} {g B : Nat} {cs : Array Value} (h : B <= g) : Below B w (w.setRow g cs) := by
  refine ⟨rfl,rfl,rfl,by simp [World.setRow],fun k hk => ?_⟩;simp only [World.setRow,Array.getElem?_modify];rw [if_neg (by omega)]
theorem own_cells {w : World} {base g n : Nat} {e : TypeId} {xs : List Value} (h : w.ownsRow base e 1 (.slice (some ⟨g,0,none⟩) n n) n xs) : ∃ cur : Array Value,w.heap[g]? = some (.cells cur e (0,0)) /\ cur.toList = xs := by
  rcases h.2 with ⟨h',_⟩ | ⟨g',cap',cur,h',_,hg,_,_,hs,ht⟩
  · simp at h'
  · simp only [Value.slice.injEq,Option.some.injEq,Addr.mk.injEq,and_true,true_and] at h'
    obtain ⟨rfl,rfl⟩ := h';refine ⟨cur,hg,?_⟩;rw [<- ht,List.take_of_length_le];rw [Array.length_toList,hs];exact Nat.le_refl _
theorem one_cells (xs : List Int) (c : Array Value) (h : c.toList = xs.map (Value.int .i64)) : c.all (·.oneCell') = true := by
  rw [Array.all_eq_true_iff_forall_mem];intro u hu;have : u ∈ c.toList := by simpa using hu
  rw [h] at this;obtain ⟨x,_,rfl⟩ := List.mem_map.1 this
  rfl
end Go.Proofs.YtcefcglonooelaaGreatDoor
namespace Go.Proofs.YtcefcglonooelaaGreatDoor
open Go.RowKit Go.Extern.Stop Go.Stop Go.Extern
set_option linter.unusedVariables false
set_option maxRecDepth 100000
theorem rls (v x : Value) : ReflectliteValue.set #[v,x] = (do
    let (some (dst,a,fl),some (src,b,_)) := (<- ReflectliteValue.parts v,<- ReflectliteValue.parts x)
      | unsupported (.noEntry "extern/(internal/reflectlite.Value).Set.zeroValue")
    if fl / ReflectliteValue.flagAddr % 2 == 0 then unsupported (.noEntry "extern/(internal/reflectlite.Value).Set.unaddressable")
    let val <- loadVar src b
    if <- Rtype.directlyAssignable dst src then storeVar dst a val
    else if <- Rtype.implements dst src then
      if (<- Rtype.kind src) == 20 then
        match val with
        | .nilIface => unsupported (.noEntry "extern/reflectlite: a nil value of one interface type handed on as a value of another")
        | _ => storeVar dst a val
      else storeVar dst a (.iface src val)
    else panicString ("reflectlite.Set: value of type " ++ (<- Rtype.spelt src) ++ " is not assignable to type " ++ (<- Rtype.spelt dst))
    pure (.tuple #[])) := rfl
theorem Tryz.partsSa (a : Addr) (w : World) : (ReflectliteValue.parts (.agg #[.pointer (some ⟨11,106,none⟩),.pointer (some a),.int .u64 409])).run Tryz.prog w = .ok (some (106,a,409)) w := by kernel_rfl
theorem Tryz.partsS (a : Addr) (w : World) : (ReflectliteValue.parts (.agg #[.pointer (some ⟨11,106,none⟩),.pointer (some a),.int .u64 153])).run Tryz.prog w = .ok (some (106,a,153)) w := by kernel_rfl
theorem Tryz.directS (w : World) : (Rtype.directlyAssignable 106 106).run Tryz.prog w = .ok true w := by kernel_rfl
theorem Tryz.infoRef : (Tryz.prog.info? 106).map (·.size) = some 2 := by kernel_rfl
theorem Tryz.setS (t b : Nat) (x0 x1 o0 o1 : Value) (W : World) (hb : W.heap[b]? = some (.cells #[x0,x1] 106 (0,0))) (ht : W.heap[t]? = some (.cells #[o0,o1] 106 (0,0))) (h1 : x0.oneCell' = true) (h2 : x1.oneCell' = true) :
    (callFunc 153 #[.agg #[.pointer (some ⟨11,106,none⟩),.pointer (some ⟨t,0,none⟩),.int .u64 409],.agg #[.pointer (some ⟨11,106,none⟩),.pointer (some ⟨b,0,none⟩),.int .u64 153]]).run Tryz.prog W
      = .ok (.value (.tuple #[])) (W.setRow t #[x0,x1]) := by
  have hl := run_loadVar_row (P := Tryz.prog) W b 106 106 #[x0,x1] (0,0) _ hb Tryz.underlying106 rfl Tryz.infoRef;have hs := run_storeVar_row (P := Tryz.prog) W t 106 106 #[o0,o1] #[x0,x1] ht Tryz.infoRef rfl (by simp [h1,h2]);rw [@run_callFunc_extern Tryz.prog 153 _ ReflectliteValue.set Tryz.func153 (by kernel_rfl) (by kernel_rfl) (by kernel_rfl) (by kernel_rfl),rls];simp only [Sem.run_bind,Tryz.partsSa,Tryz.partsS,Result.andThen];simp [ReflectliteValue.flagAddr,hl,Result.andThen,Tryz.directS,hs]
set_option maxHeartbeats 4000000 in
theorem as_ref (c : Int) (ty : TypeId) (a : Addr) (t : Nat) (o0 o1 : Value) (w : World) (hg : w.cell? ⟨9,0,none⟩ = some (.iface 186 (.agg #[.pointer (some ⟨11,69,none⟩)]))) (ht : w.heap[t]? = some (.cells #[o0,o1] 106 (0,0))) :
    Calls Tryz.prog 75 #[.iface 106 (.agg #[.int .i64 c,.iface ty (.pointer (some a))]),.iface 109 (.pointer (some ⟨t,0,none⟩))] w fun e w' => e = .returned (.bool true) /\ w'.heap[t]? = some (.cells #[.int .i64 c,.iface ty (.pointer (some a))] 106 (0,0)) /\ Upto t w w' := by
  obtain ⟨W2,hW2,k0,k1,d2,z2⟩ := box2 w #[.pointer (some ⟨t,0,none⟩)] #[.pointer (some ⟨11,109,none⟩),.pointer (some ⟨w.heap.size,0,none⟩),.int .u64 150] 109 149;obtain ⟨W3,hW3,k3,d3,z3⟩ := box1 W2 #[.pointer (some ⟨11,109,none⟩),.pointer (some ⟨w.heap.size,0,none⟩),.int .u64 150] 149;obtain ⟨W4,hW4,k4,d4,z4⟩ := box1 W3 #[.int .i64 c,.iface ty (.pointer (some a))] 106;have lt := heap_lt ht
  have lg : 9 < w.heap.size := by
    rcases Nat.lt_or_ge 9 w.heap.size with h | h
    · exact h
    · simp [World.cell?,Array.getElem?_eq_none h] at hg
  have hg2 := (d2.cell (p := ⟨9,0,none⟩) lg).trans hg;have n8 := Tryz.isNilP ⟨w.heap.size,0,none⟩ ⟨t,0,none⟩ W2 (at_cell k0 0);have k03 := (d3.block _ (heap_lt k0)).trans k0;have el := Tryz.elemVP ⟨w.heap.size,0,none⟩ ⟨t,0,none⟩ W3 (at_cell k03 0);have b4 : Below w.heap.size w W4 := bw_call (bw_call d2 d3) d4;have ht4 := (b4.block _ lt).trans ht;have st := Tryz.setS t (w.heap.size + 1 + 1 + 1) (.int .i64 c) (.iface ty (.pointer (some a))) o0 o1 W4 (by rw [<- z2,<- z3];exact k4) ht4 rfl rfl
  have HE : Hid ((W4.setRow t #[.int .i64 c,.iface ty (.pointer (some a))]).heap[t]? = some (.cells #[.int .i64 c,.iface ty (.pointer (some a))] 106 (0,0)) /\ Upto t w (W4.setRow t #[.int .i64 c,.iface ty (.pointer (some a))])) := by
    refine ⟨setRow_row ht4,b4.os,b4.tape,b4.output,?_,fun k hk hne => ?_⟩
    · have : (W4.setRow t #[.int .i64 c,.iface ty (.pointer (some a))]).heap.size = W4.heap.size := by simp [World.setRow]
      rw [this];exact b4.size
    · have : (W4.setRow t #[.int .i64 c,.iface ty (.pointer (some a))]).heap[k]? = W4.heap[k]? := by
        simp only [World.setRow,Array.getElem?_modify];rw [if_neg (fun h => hne h.symm)]
      exact this.trans (b4.block k hk)
  rw [hW4,hW3,hW2] at st HE;rw [hW3,hW2] at el;rw [hW2] at n8 hg2;have f1 := Tryz.asValueP;have f2 := Tryz.asValueS (.int .i64 c) (.iface ty (.pointer (some a))) rfl rfl;have f3 := Tryz.asTypeP;have mK := Tryz.methodKind;have mE := Tryz.methodElem;have mI := Tryz.methodImplements;have mA := Tryz.methodAssignableTo;have kP := Tryz.kindP;have kS := Tryz.kindS;have eP := Tryz.elemP;have iS := Tryz.implementsS;have tS := Tryz.typeOfS;have aS := Tryz.assignableS;clear hW2 hW3 hW4 k0 k1 k3 k4 d2 d3 d4 z2 z3 z4 k03 b4 ht4 ht hg
  go_enter Tryz.func75,Tryz.ntmps75
  go_wp2
  refine wp_loop_rounds 1 ?_;rw [rounds_succ]
  go_wp2
  go_ret;exact ⟨rfl,HE.out⟩
end Go.Proofs.YtcefcglonooelaaGreatDoor
namespace Go.Proofs.YtcefcglonooelaaGreatDoor
open Go.RowKit
set_option linter.unusedVariables false
set_option maxRecDepth 100000
def ReadsR {α : Type} (k : Nat) (cs : α -> List Value) (B : Nat) (w : World) (v : Value) (xs : List α) : Prop :=
  ∃ o cap,v = .slice o xs.length cap /\ xs.length <= maxLen /\ (∀ i x,xs[i]? = some x -> ∃ g off,o = some ⟨g,off,none⟩ /\ g < B /\ ∀ j u,(cs x)[j]? = some u -> w.cell? ⟨g,off + i * k + j,none⟩ = some u) /\ xs.length <= cap
theorem ReadsR.below {α : Type} {k : Nat} {cs : α -> List Value} {B : Nat} {w w' : World} {v : Value} {xs : List α} (h : ReadsR k cs B w v xs) (b : Below B w w') : ReadsR k cs B w' v xs := by
  obtain ⟨o,cap,hv,hm,hc,hr⟩ := h;refine ⟨o,cap,hv,hm,fun i x hi => ?_,hr⟩;obtain ⟨g,off,e,hg,hx⟩ := hc i x hi;exact ⟨g,off,e,hg,fun j u hj => (b.cell (p := ⟨g,off + i * k + j,none⟩) hg).trans (hx j u hj)⟩
theorem ReadsR.mono {α : Type} {k : Nat} {cs : α -> List Value} {B B' : Nat} {w : World} {v : Value} {xs : List α} (h : ReadsR k cs B w v xs) (b : B <= B') : ReadsR k cs B' w v xs := by
  obtain ⟨o,cap,hv,hm,hc,hr⟩ := h;refine ⟨o,cap,hv,hm,fun i x hi => ?_,hr⟩;obtain ⟨g,off,e,hg,hx⟩ := hc i x hi;exact ⟨g,off,e,Nat.lt_of_lt_of_le hg b,hx⟩
theorem ReadsR.upto {α : Type} {k : Nat} {cs : α -> List Value} {B c : Nat} {w w' : World} {v : Value} {xs : List α} (h : ReadsR k cs B w v xs) (u : Upto c w w') (hB : B <= w.heap.size) (hc : v.ownBlock ≠ some c) : ReadsR k cs B w' v xs := by
  obtain ⟨o,cap,rfl,hm,hc',hr⟩ := h;refine ⟨o,cap,rfl,hm,fun i x hi => ?_,hr⟩;obtain ⟨g,off,rfl,hg,hx⟩ := hc' i x hi;exact ⟨g,off,rfl,hg,fun j u' hj => (u.cell (p := ⟨g,off + i * k + j,Option.none⟩) (Nat.lt_of_lt_of_le hg hB) (fun e => hc (by simp only at e;rw [e];rfl))).trans (hx j u' hj)⟩
theorem ReadsR.nil {α : Type} (k : Nat) (cs : α -> List Value) (B : Nat) (w : World) : ReadsR k cs B w (.slice none 0 0) [] := ⟨Option.none,0,rfl,Nat.zero_le _,fun j u hj => by simp at hj,Nat.le_refl _⟩
theorem ReadsR.form {α : Type} {k : Nat} {cs : α -> List Value} {B : Nat} {w : World} {v : Value} {xs : List α} (h : ReadsR k cs B w v xs) : ∃ o cap,v = .slice o xs.length cap := by
  obtain ⟨o,cap,hv,_⟩ := h;exact ⟨o,cap,hv⟩
theorem ReadsR.of {α : Type} {k : Nat} {cs : α -> List Value} {B : Nat} {W : World} {v : Value} {xs : List α} (h : ReadsR k cs B W v xs) (y : B <= W.heap.size) (p : BelowOf W) : ReadsR k cs p.w'.heap.size p.w' v xs := ((h.mono y).below p.h).mono p.h.size
theorem flat_length {α : Type} {k : Nat} {cs : α -> List Value} (hk : ∀ x,(cs x).length = k) (xs : List α) : (xs.flatMap cs).length = xs.length * k := by
  induction xs with
  | nil => simp
  | cons x xs ih => rw [List.flatMap_cons,List.length_append,hk,ih,List.length_cons,Nat.add_mul,Nat.one_mul,Nat.add_comm]
theorem flat_get {α : Type} {k : Nat} {cs : α -> List Value} (hk : ∀ x,(cs x).length = k) (xs : List α) (i j : Nat) (x : α) (hi : xs[i]? = some x) (hj : j < k) : (xs.flatMap cs)[i * k + j]? = (cs x)[j]? := by
  induction xs generalizing i with
  | nil => simp at hi
  | cons y ys ih =>
    rw [List.flatMap_cons]
    match i,hi with
    | 0,hi =>
      simp at hi;subst hi;rw [Nat.zero_mul,Nat.zero_add,List.getElem?_append_left (by rw [hk];exact hj)]
    | i + 1,hi =>
      rw [List.getElem?_append_right (by rw [hk,Nat.add_mul];omega),hk,Nat.add_mul,Nat.one_mul,show i * k + k + j - k = i * k + j by omega];exact ih i (by simpa using hi)
theorem flat_set {α : Type} {k : Nat} {cs : α -> List Value} (hk : ∀ x,(cs x).length = k) (xs : List α) (i j : Nat) (x y : α) (u : Value) (hi : xs[i]? = some x) (hj : j < k) (hy : (cs x).set j u = cs y) : (xs.flatMap cs).set (i * k + j) u = (xs.set i y).flatMap cs := by
  induction xs generalizing i with
  | nil => simp at hi
  | cons z zs ih =>
    rw [List.flatMap_cons]
    match i,hi with
    | 0,hi =>
      simp at hi;subst hi;rw [Nat.zero_mul,Nat.zero_add,List.set_append_left _ _ (by rw [hk];exact hj),hy,List.set_cons_zero,List.flatMap_cons]
    | i + 1,hi =>
      rw [List.set_append_right _ _ (by rw [hk,Nat.add_mul];omega),hk,Nat.add_mul,Nat.one_mul,show i * k + k + j - k = i * k + j by omega,ih i (by simpa using hi),List.set_cons_succ,List.flatMap_cons]
theorem ReadsR.of_own {α : Type} {k : Nat} {cs : α -> List Value} (hk : ∀ x,(cs x).length = k) {w : World} {base : Nat} {e : TypeId} {v : Value} {xs : List α} (h : w.ownsRow base e k v xs.length (xs.flatMap cs)) : ReadsR k cs w.heap.size w v xs := by
  rcases h.2 with ⟨rfl,hn⟩ | ⟨g,cap,cur,rfl,hg,hh,hnc,hcm,hcs,htk⟩
  · have : xs = [] := List.length_eq_zero_iff.1 hn
    subst this;exact ReadsR.nil _ _ _ _
  · refine ⟨some ⟨g,0,none⟩,cap,rfl,Nat.le_trans hnc hcm,fun i x hi => ⟨g,0,rfl,heap_lt hh,fun j u hj => ?_⟩,hnc⟩
    have hi' := (List.getElem?_eq_some_iff.1 hi).1;have hj' : j < k := by have := (List.getElem?_eq_some_iff.1 hj).1;rw [hk] at this;exact this
    have hlt : i * k + j < xs.length * k := by
      have h1 : (i + 1) * k <= xs.length * k := Nat.mul_le_mul_right _ hi';rw [Nat.add_mul,Nat.one_mul] at h1
      omega
    rw [Nat.zero_add,h.cellAt (i * k + j) hlt,flat_get hk xs i j x hi hj',hj]
theorem own_put {α : Type} {k : Nat} {cs : α -> List Value} (hk : ∀ x,(cs x).length = k) {w : World} {base g n cap : Nat} {e : TypeId} {xs : List α} (h : w.ownsRow base e k (.slice (some ⟨g,0,none⟩) n cap) xs.length (xs.flatMap cs)) (i j : Nat) (x y : α) (u : Value) (hi : xs[i]? = some x) (hj : j < k) (hy : (cs x).set j u = cs y) :
    (w.setCell ⟨g,i * k + j,none⟩ u).ownsRow base e k (.slice (some ⟨g,0,none⟩) n cap) (xs.set i y).length ((xs.set i y).flatMap cs) := by
  have hn : n = xs.length := by
    rcases h.2 with ⟨h',_⟩ | ⟨g',cap',cur,h',_⟩
    · cases h'
    · simp only [Value.slice.injEq] at h'
      exact h'.2.1
  subst hn;have := (h.stored (i * k + j) u).1;rw [flat_set hk xs i j x y u hi hj hy] at this
  rwa [List.length_set]
theorem own_cell {α : Type} {k : Nat} {cs : α -> List Value} (hk : ∀ x,(cs x).length = k) {w : World} {base g n cap : Nat} {e : TypeId} {xs : List α} (h : w.ownsRow base e k (.slice (some ⟨g,0,none⟩) n cap) xs.length (xs.flatMap cs)) (i j : Nat) (x : α) (hi : xs[i]? = some x) (hj : j < k) :
    w.cell? ⟨g,i * k + j,none⟩ = (cs x)[j]? /\ w.frozen? ⟨g,i * k + j,none⟩ = false := by
  have hn : n = xs.length := by
    rcases h.2 with ⟨h',_⟩ | ⟨g',cap',cur,h',_⟩
    · cases h'
    · simp only [Value.slice.injEq] at h'
      exact h'.2.1
  subst hn;have hi' := (List.getElem?_eq_some_iff.1 hi).1;have h1 : (i + 1) * k <= xs.length * k := Nat.mul_le_mul_right _ hi';rw [Nat.add_mul,Nat.one_mul] at h1;exact ⟨(h.cellAt (i * k + j) (by omega)).trans (flat_get hk xs i j x hi hj),h.frozenAt _⟩
end Go.Proofs.YtcefcglonooelaaGreatDoor
namespace Go.Proofs.YtcefcglonooelaaGreatDoor.Nums
def lowB (l : List UInt8) : Bool := l.all fun c => decide (97 <= (c.toNat : Int)) && decide ((c.toNat : Int) <= 122)
def nameB (l : List UInt8) : Bool := lowB l && (decide (1 <= (l.length : Int)) && decide ((l.length : Int) <= 4))
theorem take_snoc (s : ByteArray) (k : Nat) (h : k < s.size) : s.data.toList.take (k + 1) = s.data.toList.take k ++ [s[k]] := by
  rw [List.take_succ_eq_append_getElem (by simpa using h)];rfl
theorem take_all (s : ByteArray) (k : Nat) (h : ¬ k < s.size) : s.data.toList.take k = s.data.toList := by
  rw [List.take_of_length_le];simp;omega
theorem byte_lt (c : UInt8) : 0 <= (c.toNat : Int) /\ (c.toNat : Int) <= 255 := by have := c.toNat_lt;omega
theorem lowB_snoc (l : List UInt8) (c : UInt8) : lowB (l ++ [c]) = (lowB l && (decide (97 <= (c.toNat : Int)) && decide ((c.toNat : Int) <= 122))) := by
  simp [lowB]
theorem lowB_take (l : List UInt8) (k : Nat) (h : lowB (l.take k) = false) : lowB l = false := by
  rw [<- List.take_append_drop k l];simp only [lowB] at h;simp only [lowB,List.all_append,h,Bool.false_and]
theorem lowB_bad (s : ByteArray) (k : Nat) (h : k < s.size) (hb : ¬ (97 <= (s[k].toNat : Int) /\ (s[k].toNat : Int) <= 122)) : lowB s.data.toList = false := by
  apply lowB_take _ (k + 1)
  rw [take_snoc s k h,lowB_snoc];by_cases h1 : 97 <= (s[k].toNat : Int)
  · have h2 : ¬ (s[k].toNat : Int) <= 122 := fun h2 => hb ⟨h1,h2⟩
    simp [h2]
  · simp [h1]
theorem lowB_good (s : ByteArray) (k : Nat) (h : k < s.size) (hl : lowB (s.data.toList.take k) = true) (h1 : 97 <= (s[k].toNat : Int)) (h2 : (s[k].toNat : Int) <= 122) : lowB (s.data.toList.take (k + 1)) = true := by
  rw [take_snoc s k h,lowB_snoc,hl];simp [h1,h2]
end Go.Proofs.YtcefcglonooelaaGreatDoor.Nums
namespace Go.Proofs.YtcefcglonooelaaGreatDoor
open Go.RowKit
set_option linter.unusedVariables false
set_option maxRecDepth 100000
theorem ret_bool {a b : Bool} (h : a = b) : Ending.returned (.bool a) = .returned (.bool b) := by rw [h]
theorem ret_int {k : IntKind} {a b : Int} (h : a = b) : Ending.returned (.int k a) = .returned (.int k b) := by rw [h]
theorem l1In_any (x lo hi : Int) (w : World) :
    Calls Tryz.prog 88 #[.int .i64 x,.int .i64 lo,.int .i64 hi] w fun e w' => e = .returned (.bool (decide (lo <= x) && decide (x <= hi))) /\ w' = w := by
  by_cases h : lo <= x
  · by_cases h2 : x <= hi
    all_goals
      go_enter Tryz.func88,Tryz.ntmps88
      go_wp2
      go_ret;exact ⟨by simp [h,h2],rfl⟩
  · go_enter Tryz.func88,Tryz.ntmps88
    go_wp2
    go_ret;exact ⟨ret_bool (by simp;omega),rfl⟩
set_option maxHeartbeats 400000 in
theorem specName_any (s : ByteArray) (w : World) (hs : s.size <= maxLen) :
    Calls Tryz.prog 89 #[.string s] w fun e w' => e = .returned (.bool (Nums.nameB s.data.toList)) /\ w' = w := by
  unfold maxLen at hs
  go_enter Tryz.func89,Tryz.ntmps89
  go_wp2
  go_loop [3] (fun i => ∃ k : Nat,k <= s.size /\ i = .int .i64 k /\ Nums.lowB (s.data.toList.take k) = true) (fun i => s.size - (intOf i).toNat)
  case atStart => exact ⟨0,Nat.zero_le _,rfl,rfl⟩
  case round =>
    obtain ⟨k,hk,rfl,hl⟩ := hrel;have HL : Hid (Nums.lowB (s.data.toList.take k) = true) := hl;clear hl;by_cases hlt : k < s.size
    · have hb := Nums.byte_lt s[k]
      by_cases h1 : 97 <= (s[k].toNat : Int)
      · by_cases h2 : (s[k].toNat : Int) <= 122
        · go_wp2
          go_round
          case rel => exact ⟨k + 1,by omega,by go_num,Nums.lowB_good s k hlt HL.out h1 h2⟩
          case measure => simp [intOf];omega
        · have hx := Nums.lowB_bad s k hlt (by omega)
          have HX : Hid (Nums.nameB s.data.toList = false) := by simp [Nums.nameB,hx,Hid]
          clear hx
          go_wp2
          go_ret;exact ⟨ret_bool HX.out.symm,rfl⟩
      · have hx := Nums.lowB_bad s k hlt (by omega)
        have HX : Hid (Nums.nameB s.data.toList = false) := by simp [Nums.nameB,hx,Hid]
        clear hx
        go_wp2
        go_ret;exact ⟨ret_bool HX.out.symm,rfl⟩
    · go_wp2_with (go_at_call 88;refine (l1In_any _ _ _ _).mono ?_;rintro e w' ⟨rfl,rfl⟩)
      go_ret;have hl := HL.out;rw [Nums.take_all s k hlt] at hl;exact ⟨ret_bool (by simp [Nums.nameB,hl]),rfl⟩
set_option maxHeartbeats 400000 in
theorem implName_any (s : ByteArray) (w : World) (hs : s.size <= maxLen) :
    Calls Tryz.prog 132 #[.string s] w fun e w' => e = .returned (.bool (Nums.nameB s.data.toList)) /\ w' = w := by
  unfold maxLen at hs;by_cases g1 : (1 : Int) <= (s.size : Int)
  · by_cases g2 : (s.size : Int) <= 4
    · go_enter Tryz.func132,Tryz.ntmps132
      go_wp2
      go_loop [3] (fun i => ∃ k : Nat,k <= s.size /\ i = .int .i64 k /\ Nums.lowB (s.data.toList.take k) = true) (fun i => s.size - (intOf i).toNat)
      case atStart => exact ⟨0,Nat.zero_le _,rfl,rfl⟩
      case round =>
        obtain ⟨k,hk,rfl,hl⟩ := hrel;have HL : Hid (Nums.lowB (s.data.toList.take k) = true) := hl;clear hl;by_cases hlt : k < s.size
        · have hb := Nums.byte_lt s[k]
          by_cases h1 : 97 <= (s[k].toNat : Int)
          · by_cases h2 : (s[k].toNat : Int) <= 122
            · go_wp2
              go_round
              case rel => exact ⟨k + 1,by omega,by go_num,Nums.lowB_good s k hlt HL.out h1 h2⟩
              case measure => simp [intOf];omega
            · have hx := Nums.lowB_bad s k hlt (by omega)
              have HX : Hid (Nums.nameB s.data.toList = false) := by simp [Nums.nameB,hx,Hid]
              clear hx
              go_wp2
              go_ret;exact ⟨ret_bool HX.out.symm,rfl⟩
          · have hx := Nums.lowB_bad s k hlt (by omega)
            have HX : Hid (Nums.nameB s.data.toList = false) := by simp [Nums.nameB,hx,Hid]
            clear hx
            go_wp2
            go_ret;exact ⟨ret_bool HX.out.symm,rfl⟩
        · go_wp2
          go_ret;have hl := HL.out;rw [Nums.take_all s k hlt] at hl;exact ⟨ret_bool (by simp [Nums.nameB,hl];omega),rfl⟩
    · have HX : Hid (Nums.nameB s.data.toList = false) := by simp [Nums.nameB,Hid];omega
      go_enter Tryz.func132,Tryz.ntmps132
      go_wp2
      go_ret;exact ⟨ret_bool HX.out.symm,rfl⟩
  · have HX : Hid (Nums.nameB s.data.toList = false) := by simp [Nums.nameB,Hid];omega
    go_enter Tryz.func132,Tryz.ntmps132
    go_wp2
    go_ret;exact ⟨ret_bool HX.out.symm,rfl⟩
end Go.Proofs.YtcefcglonooelaaGreatDoor
namespace Go.Proofs.YtcefcglonooelaaGreatDoor
theorem and255 (n : Int) : bits .and .i64 n 255 = n % 256 := by
  have h255 : (BitVec.ofInt 64 255).toNat = 2 ^ 8 - 1 := by decide
  have key : (BitVec.ofInt 64 n &&& BitVec.ofInt 64 255).toNat = (n % ((2 ^ 64 : Nat) : Int)).toNat % 2 ^ 8 := by
    rw [BitVec.toNat_and,BitVec.toNat_ofInt,h255,Nat.and_two_pow_sub_one_eq_mod]
  show IntKind.i64.wrap ((BitVec.ofInt 64 n &&& BitVec.ofInt 64 255).toNat : Nat) = n % 256
  rw [key,IntKind.wrap_i64]
  omega
end Go.Proofs.YtcefcglonooelaaGreatDoor
namespace Go.Proofs.YtcefcglonooelaaGreatDoor
open Go.RowKit
set_option linter.unusedVariables false
set_option maxRecDepth 100000
theorem text_eq (x y : ByteArray) : (x.toList == y.toList) = decide (x = y) := by
  rw [Bool.eq_iff_iff,beq_iff_eq,decide_eq_true_iff,ByteArray.toList_eq,ByteArray.toList_eq]
  constructor
  · intro h;apply ByteArray.ext;exact Array.toList_inj.1 h
  · intro h;rw [h]
theorem take_more {α : Type} (xs ys : List α) (k : Nat) (h1 : k < xs.length) (h2 : k < ys.length) (h : xs.take k = ys.take k) (e : xs[k] = ys[k]) : xs.take (k + 1) = ys.take (k + 1) := by
  rw [List.take_succ_eq_append_getElem h1,List.take_succ_eq_append_getElem h2,h,e]
theorem ne_at {α : Type} (xs ys : List α) (k : Nat) (h1 : k < xs.length) (h2 : k < ys.length) (e : xs[k] ≠ ys[k]) : ¬ xs = ys := by
  intro h;subst h;exact e rfl
theorem all_taken {α : Type} (xs ys : List α) (k : Nat) (h1 : ¬ k < xs.length) (h2 : xs.length = ys.length) (h : xs.take k = ys.take k) : xs = ys := by
  rw [List.take_of_length_le (by omega),List.take_of_length_le (by omega)] at h;exact h
def runC (r : Int × Int × Int) : List Value := [.int .i64 r.1,.int .i64 r.2.1,.int .i64 r.2.2]
theorem runC_len (r : Int × Int × Int) : (runC r).length = 3 := rfl
theorem Tryz.infoRun : (Tryz.prog.info? 129).map (fun i => (i.zero,i.size,i.bytes)) = some (some (.agg #[.int .i64 0,.int .i64 0,.int .i64 0]),3,24) := by kernel_rfl
theorem three_cells {B : Nat} {w : World} {o : Option Addr} {rs : List (Int × Int × Int)} (hc : ∀ i x,rs[i]? = some x -> ∃ g off,o = some ⟨g,off,none⟩ /\ g < B /\ ∀ j u,(runC x)[j]? = some u -> w.cell? ⟨g,off + i * 3 + j,none⟩ = some u) (i : Nat) (hi : i < rs.length) :
    ∃ g off,o = some ⟨g,off,none⟩ /\ g < B /\ w.cell? ⟨g,off + i * 3,none⟩ = some (.int .i64 rs[i].1) /\ w.cell? ⟨g,off + i * 3 + 1,none⟩ = some (.int .i64 rs[i].2.1) /\ w.cell? ⟨g,off + i * 3 + 2,none⟩ = some (.int .i64 rs[i].2.2) := by
  obtain ⟨g,off,e,hg,hx⟩ := hc i rs[i] (List.getElem?_eq_getElem hi);exact ⟨g,off,e,hg,hx 0 _ rfl,hx 1 _ rfl,hx 2 _ rfl⟩
theorem own_three {w : World} {base g n cap : Nat} {xs : List (Int × Int × Int)} (h : w.ownsRow base 129 3 (.slice (some ⟨g,0,none⟩) n cap) xs.length (xs.flatMap runC)) (i : Nat) (hi : i < xs.length) :
    (w.cell? ⟨g,i * 3,none⟩ = some (.int .i64 xs[i].1) /\ w.cell? ⟨g,i * 3 + 1,none⟩ = some (.int .i64 xs[i].2.1) /\ w.cell? ⟨g,i * 3 + 2,none⟩ = some (.int .i64 xs[i].2.2)) /\ w.frozen? ⟨g,i * 3,none⟩ = false /\ w.frozen? ⟨g,i * 3 + 1,none⟩ = false /\ w.frozen? ⟨g,i * 3 + 2,none⟩ = false := by
  obtain ⟨a0,b0⟩ := own_cell runC_len h i 0 _ (List.getElem?_eq_getElem hi) (by omega);obtain ⟨a1,b1⟩ := own_cell runC_len h i 1 _ (List.getElem?_eq_getElem hi) (by omega);obtain ⟨a2,b2⟩ := own_cell runC_len h i 2 _ (List.getElem?_eq_getElem hi) (by omega);exact ⟨⟨a0,a1,a2⟩,b0,b1,b2⟩
end Go.Proofs.YtcefcglonooelaaGreatDoor
