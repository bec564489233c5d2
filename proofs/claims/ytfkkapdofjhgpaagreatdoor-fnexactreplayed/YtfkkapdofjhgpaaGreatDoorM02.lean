import Derived.Deep.WholeRow
import Derived.Laws.MakeOwn
import Derived.Test.YtfkkapdofjhgpaaGreatDoorChecked
import Derived.WalkKit
import Derived.WalkSpells
import Derived.Laws.Bits128
import Derived.IntWalk
import Derived.Handy
import Derived.Laws.IdiomStrings
import Derived.Test.YtfkkapdofjhgpaaGreatDoorM01
set_option maxHeartbeats 12800000
namespace Go.Proofs.YtfkkapdofjhgpaaGreatDoor
open Go.RowKit
set_option linter.unusedVariables false
set_option maxRecDepth 100000
theorem zgf {P : Program} {w : World} {ops : Array Oper} {rest : List Oper} {o : Oper} {a : Act} {Q : Exit->Act->World->Prop} (hgd : o.guard=none) (p : Operand) (t : TypeId) (ho : o.op = .load t p)
    (g : Nat) (hp : a.eval p = .pointer (some ⟨g,0,none⟩)) (cs : Array Value) (ty : TypeId) (fr : Nat × Nat) (hg : w.heap[g]? = some (.cells cs ty fr)) (d : TypeDesc) (hu : P.underlying t=some d)
    (hd : (match d with | .struct _ | .array _ _=>true | _=>false)=true) (hi : (P.info? t).map (·.size)=some cs.size)
    (h : wpList P ops Q rest (a.put o.dst (.agg cs)) w) : wpList P ops Q (o :: rest) a w :=
  wpList_plain hgd fun K hK=>by
    have hKK:=hK _ _ h;have hr:=run_loadVar_row (P:=P) w g ty t cs fr d hg hu hd hi;unfold Oper.wp execOp;simp only [ho,hp,Instr.loadAt,Instr.sureAddr,Sem.run_bind,Sem.run_pure,Result.andThen_ok,hr];exact hKK
theorem zbt {P : Program} {w : World} {ops : Array Oper} {rest : List Oper} {o : Oper} {a : Act} {Q : Exit->Act->World->Prop} (hgd : o.guard=none) (p x : Operand) (t : TypeId) (ho : o.op = .store t p x)
    (g : Nat) (hp : a.eval p = .pointer (some ⟨g,0,none⟩)) (cs : Array Value) (hx : a.eval x = .agg cs) (old : Array Value) (ty : TypeId) (hg : w.heap[g]? = some (.cells old ty (0,0)))
    (hi : (P.info? t).map (·.size)=some cs.size) (hs : old.size=cs.size) (h1 : cs.all (·.oneCell')=true)
    (h : wpList P ops Q rest (a.put o.dst undef) (w.setRow g cs)) : wpList P ops Q (o :: rest) a w :=
  wpList_plain hgd fun K hK=>by
    have hKK:=hK _ _ h;have hr:=run_storeVar_row (P:=P) w g ty t old cs hg hi hs h1;unfold Oper.wp execOp;simp only [ho,hp,hx,Instr.storeAt,Instr.sureAddr,Sem.run_bind,Sem.run_pure,Result.andThen_ok,hr];exact hKK
theorem zd0 {w : World} {g : Nat} {old cs : Array Value} {ty : TypeId} {fr : Nat × Nat} (hg : w.heap[g]? = some (.cells old ty fr)) : (w.setRow g cs).heap[g]? = some (.cells cs ty fr):=by
  simp only [World.setRow,Array.getElem?_modify,hg,if_true]
  rfl
theorem zdq {w : World} {g B : Nat} {cs : Array Value} (h : B<=g) : Below B w (w.setRow g cs):=by
  refine ⟨rfl,rfl,rfl,by simp [World.setRow],fun k hk=>?_⟩;simp only [World.setRow,Array.getElem?_modify];rw [if_neg (by omega)]
theorem zn4 {w : World} {base g n : Nat} {e : TypeId} {xs : List Value} (h : w.ownsRow base e 1 (.slice (some ⟨g,0,none⟩) n n) n xs) : ∃ cur : Array Value,w.heap[g]? = some (.cells cur e (0,0))/\cur.toList=xs:=by
  rcases h.2 with ⟨h',_⟩ | ⟨g',cap',cur,h',_,hg,_,_,hs,ht⟩
  · simp at h'
  · simp only [Value.slice.injEq,Option.some.injEq,Addr.mk.injEq,and_true,true_and] at h'
    obtain ⟨rfl,rfl⟩:=h';refine ⟨cur,hg,?_⟩;rw [<- ht,List.take_of_length_le];rw [Array.length_toList,hs];exact Nat.le_refl _
theorem zep (xs : List Int) (c : Array Value) (h : c.toList=xs.map (Value.int .i64)) : c.all (·.oneCell')=true:=by
  rw [Array.all_eq_true_iff_forall_mem];intro u hu;have : u ∈ c.toList:=by simpa using hu
  rw [h] at this;obtain ⟨x,_,rfl⟩:=List.mem_map.1 this
  rfl
end Go.Proofs.YtfkkapdofjhgpaaGreatDoor
namespace Go.Proofs.YtfkkapdofjhgpaaGreatDoor
open Go.RowKit Go.Extern.Stop Go.Stop Go.Extern
set_option linter.unusedVariables false
set_option maxRecDepth 100000
theorem rls (v x : Value) : ReflectliteValue.set #[v,x]=(do
    let (some (dst,a,fl),some (src,b,_)):=(<- ReflectliteValue.parts v,<- ReflectliteValue.parts x)
      | unsupported (.noEntry "extern/(internal/reflectlite.Value).Set.zeroValue")
    if fl / ReflectliteValue.flagAddr % 2 == 0 then unsupported (.noEntry "extern/(internal/reflectlite.Value).Set.unaddressable")
    let val <- loadVar src b
    if <- Rtype.directlyAssignable dst src then storeVar dst a val
    else if <- Rtype.implements dst src then
      if (<- Rtype.kind src) == 20 then
        match val with
        | .nilIface=>unsupported (.noEntry "extern/reflectlite: a nil value of one interface type handed on as a value of another")
        | _=>storeVar dst a val
      else storeVar dst a (.iface src val)
    else panicString ("reflectlite.Set: value of type " ++ (<- Rtype.spelt src) ++ " is not assignable to type " ++ (<- Rtype.spelt dst))
    pure (.tuple #[])):=rfl
theorem Tryz.partsSa (a : Addr) (w : World) : (ReflectliteValue.parts (.agg #[.pointer (some ⟨13,218,none⟩),.pointer (some a),.int .u64 409])).run Tryz.prog w = .ok (some (218,a,409)) w:=by kernel_rfl
theorem Tryz.partsS (a : Addr) (w : World) : (ReflectliteValue.parts (.agg #[.pointer (some ⟨13,218,none⟩),.pointer (some a),.int .u64 153])).run Tryz.prog w = .ok (some (218,a,153)) w:=by kernel_rfl
theorem Tryz.directS (w : World) : (Rtype.directlyAssignable 218 218).run Tryz.prog w = .ok true w:=by kernel_rfl
theorem Tryz.infoRef : (Tryz.prog.info? 218).map (·.size)=some 2:=by kernel_rfl
theorem Tryz.setS (t b : Nat) (x0 x1 o0 o1 : Value) (W : World) (hb : W.heap[b]? = some (.cells #[x0,x1] 218 (0,0))) (ht : W.heap[t]? = some (.cells #[o0,o1] 218 (0,0))) (h1 : x0.oneCell'=true) (h2 : x1.oneCell'=true) :
    (callFunc 270 #[.agg #[.pointer (some ⟨13,218,none⟩),.pointer (some ⟨t,0,none⟩),.int .u64 409],.agg #[.pointer (some ⟨13,218,none⟩),.pointer (some ⟨b,0,none⟩),.int .u64 153]]).run Tryz.prog W
      = .ok (.value (.tuple #[])) (W.setRow t #[x0,x1]):=by
  have hl:=run_loadVar_row (P:=Tryz.prog) W b 218 218 #[x0,x1] (0,0) _ hb Tryz.underlying218 rfl Tryz.infoRef;have hs:=run_storeVar_row (P:=Tryz.prog) W t 218 218 #[o0,o1] #[x0,x1] ht Tryz.infoRef rfl (by simp [h1,h2]);rw [@run_callFunc_extern Tryz.prog 270 _ ReflectliteValue.set Tryz.func270 (by kernel_rfl) (by kernel_rfl) (by kernel_rfl) (by kernel_rfl),rls];simp only [Sem.run_bind,Tryz.partsSa,Tryz.partsS,Result.andThen];simp [ReflectliteValue.flagAddr,hl,Result.andThen,Tryz.directS,hs]
theorem zyj (c : Int) (ty : TypeId) (a : Addr) (t : Nat) (o0 o1 : Value) (w : World) (hg : w.cell? ⟨10,0,none⟩=some (.iface 246 (.agg #[.pointer (some ⟨13,185,none⟩)]))) (ht : w.heap[t]? = some (.cells #[o0,o1] 218 (0,0))) :
    Calls Tryz.prog 211 #[.iface 218 (.agg #[.int .i64 c,.iface ty (.pointer (some a))]),.iface 226 (.pointer (some ⟨t,0,none⟩))] w fun e w'=>e = .returned (.bool true)/\w'.heap[t]? = some (.cells #[.int .i64 c,.iface ty (.pointer (some a))] 218 (0,0))/\Upto t w w':=by
  obtain ⟨W2,hW2,k0,k1,d2,z2⟩:=zc7 w #[.pointer (some ⟨t,0,none⟩)] #[.pointer (some ⟨13,226,none⟩),.pointer (some ⟨w.heap.size,0,none⟩),.int .u64 150] 226 259;obtain ⟨W3,hW3,k3,d3,z3⟩:=zb4 W2 #[.pointer (some ⟨13,226,none⟩),.pointer (some ⟨w.heap.size,0,none⟩),.int .u64 150] 259;obtain ⟨W4,hW4,k4,d4,z4⟩:=zb4 W3 #[.int .i64 c,.iface ty (.pointer (some a))] 218;have lt:=za2 ht
  have lg : 10 < w.heap.size:=by
    rcases Nat.lt_or_ge 10 w.heap.size with h | h
    · exact h
    · simp [World.cell?,Array.getElem?_eq_none h] at hg
  have hg2:=(d2.cell (p:=⟨10,0,none⟩) lg).trans hg;have n8:=Tryz.isNilP ⟨w.heap.size,0,none⟩ ⟨t,0,none⟩ W2 (za0 k0 0);have k03:=kb0 d3 k0;have el:=Tryz.elemVP ⟨w.heap.size,0,none⟩ ⟨t,0,none⟩ W3 (za0 k03 0);have b4 : Below w.heap.size w W4:=za1 (za1 d2 d3) d4;have ht4:=(b4.block _ lt).trans ht;have st:=Tryz.setS t (w.heap.size+1+1+1) (.int .i64 c) (.iface ty (.pointer (some a))) o0 o1 W4 (by rw [<- z2,<- z3];exact k4) ht4 rfl rfl
  have HE : Hid ((W4.setRow t #[.int .i64 c,.iface ty (.pointer (some a))]).heap[t]? = some (.cells #[.int .i64 c,.iface ty (.pointer (some a))] 218 (0,0))/\Upto t w (W4.setRow t #[.int .i64 c,.iface ty (.pointer (some a))])):=by
    refine ⟨zd0 ht4,b4.os,b4.tape,b4.output,?_,fun k hk hne=>?_⟩
    · have : (W4.setRow t #[.int .i64 c,.iface ty (.pointer (some a))]).heap.size=W4.heap.size:=by simp [World.setRow]
      rw [this];exact b4.size
    · have : (W4.setRow t #[.int .i64 c,.iface ty (.pointer (some a))]).heap[k]? = W4.heap[k]?:=by
        simp only [World.setRow,Array.getElem?_modify];rw [if_neg (fun h=>hne h.symm)]
      exact this.trans (b4.block k hk)
  rw [hW4,hW3,hW2] at st HE;rw [hW3,hW2] at el;rw [hW2] at n8 hg2;have f1:=Tryz.asValueP;have f2:=Tryz.asValueS (.int .i64 c) (.iface ty (.pointer (some a))) rfl rfl;have f3:=Tryz.asTypeP;have mK:=Tryz.methodKind;have mE:=Tryz.methodElem;have mI:=Tryz.methodImplements;have mA:=Tryz.methodAssignableTo;have kP:=Tryz.kindP;have kS:=Tryz.kindS;have eP:=Tryz.elemP;have iS:=Tryz.implementsS;have tS:=Tryz.typeOfS;have aS:=Tryz.assignableS;clear hW2 hW3 hW4 k0 k1 k3 k4 d2 d3 d4 z2 z3 z4 k03 b4 ht4 ht hg
  go_enter Tryz.func211,Tryz.ntmps211
  go_wp2
  refine wp_loop_rounds 1 ?_;rw [rounds_succ]
  go_wp2
  go_ret;exact ⟨rfl,HE.out⟩
end Go.Proofs.YtfkkapdofjhgpaaGreatDoor
namespace Go.Proofs.YtfkkapdofjhgpaaGreatDoor
open Go.RowKit
set_option linter.unusedVariables false
set_option maxRecDepth 100000
def ReadsR {α : Type} (k : Nat) (cs : α->List Value) (B : Nat) (w : World) (v : Value) (xs : List α) : Prop :=
  ∃ o cap,v = .slice o xs.length cap/\xs.length<=maxLen/\(∀ i x,xs[i]? = some x->∃ g off,o=some ⟨g,off,none⟩/\g < B/\∀ j u,(cs x)[j]? = some u->w.cell? ⟨g,off+i * k+j,none⟩=some u)/\xs.length<=cap
theorem ReadsR.below {α : Type} {k : Nat} {cs : α->List Value} {B : Nat} {w w' : World} {v : Value} {xs : List α} (h : ReadsR k cs B w v xs) (b : Below B w w') : ReadsR k cs B w' v xs:=by
  obtain ⟨o,cap,hv,hm,hc,hr⟩:=h;refine ⟨o,cap,hv,hm,fun i x hi=>?_,hr⟩;obtain ⟨g,off,e,hg,hx⟩:=hc i x hi;exact ⟨g,off,e,hg,fun j u hj=>(b.cell (p:=⟨g,off+i * k+j,none⟩) hg).trans (hx j u hj)⟩
theorem ReadsR.mono {α : Type} {k : Nat} {cs : α->List Value} {B B' : Nat} {w : World} {v : Value} {xs : List α} (h : ReadsR k cs B w v xs) (b : B<=B') : ReadsR k cs B' w v xs:=by
  obtain ⟨o,cap,hv,hm,hc,hr⟩:=h;refine ⟨o,cap,hv,hm,fun i x hi=>?_,hr⟩;obtain ⟨g,off,e,hg,hx⟩:=hc i x hi;exact ⟨g,off,e,Nat.lt_of_lt_of_le hg b,hx⟩
theorem ReadsR.upto {α : Type} {k : Nat} {cs : α->List Value} {B c : Nat} {w w' : World} {v : Value} {xs : List α} (h : ReadsR k cs B w v xs) (u : Upto c w w') (hB : B<=w.heap.size) (hc : v.ownBlock ≠ some c) : ReadsR k cs B w' v xs:=by
  obtain ⟨o,cap,rfl,hm,hc',hr⟩:=h;refine ⟨o,cap,rfl,hm,fun i x hi=>?_,hr⟩;obtain ⟨g,off,rfl,hg,hx⟩:=hc' i x hi;exact ⟨g,off,rfl,hg,fun j u' hj=>(u.cell (p:=⟨g,off+i * k+j,Option.none⟩) (Nat.lt_of_lt_of_le hg hB) (fun e=>hc (by simp only at e;rw [e];rfl))).trans (hx j u' hj)⟩
theorem ReadsR.nil {α : Type} (k : Nat) (cs : α->List Value) (B : Nat) (w : World) : ReadsR k cs B w (.slice none 0 0) []:=⟨Option.none,0,rfl,Nat.zero_le _,fun j u hj=>by simp at hj,Nat.le_refl _⟩
theorem ReadsR.form {α : Type} {k : Nat} {cs : α->List Value} {B : Nat} {w : World} {v : Value} {xs : List α} (h : ReadsR k cs B w v xs) : ∃ o cap,v = .slice o xs.length cap:=by
  obtain ⟨o,cap,hv,_⟩:=h;exact ⟨o,cap,hv⟩
theorem ReadsR.of {α : Type} {k : Nat} {cs : α->List Value} {B : Nat} {W : World} {v : Value} {xs : List α} (h : ReadsR k cs B W v xs) (y : B<=W.heap.size) (p : BelowOf W) : ReadsR k cs p.w'.heap.size p.w' v xs:=((h.mono y).below p.h).mono p.h.size
theorem zbb {α : Type} {k : Nat} {cs : α->List Value} (hk : ∀ x,(cs x).length=k) (xs : List α) : (xs.flatMap cs).length=xs.length * k:=by
  induction xs with
  | nil=>simp
  | cons x xs ih=>rw [List.flatMap_cons,List.length_append,hk,ih,List.length_cons,Nat.add_mul,Nat.one_mul,Nat.add_comm]
theorem zfo {α : Type} {k : Nat} {cs : α->List Value} (hk : ∀ x,(cs x).length=k) (xs : List α) (i j : Nat) (x : α) (hi : xs[i]? = some x) (hj : j < k) : (xs.flatMap cs)[i * k+j]? = (cs x)[j]?:=by
  induction xs generalizing i with
  | nil=>simp at hi
  | cons y ys ih =>
    rw [List.flatMap_cons]
    match i,hi with
    | 0,hi =>
      simp at hi;subst hi;rw [Nat.zero_mul,Nat.zero_add,List.getElem?_append_left (by rw [hk];exact hj)]
    | i+1,hi =>
      rw [List.getElem?_append_right (by rw [hk,Nat.add_mul];omega),hk,Nat.add_mul,Nat.one_mul,show i * k+k+j - k=i * k+j by omega];exact ih i (by simpa using hi)
theorem zuy {α : Type} {k : Nat} {cs : α->List Value} (hk : ∀ x,(cs x).length=k) (xs : List α) (i j : Nat) (x y : α) (u : Value) (hi : xs[i]? = some x) (hj : j < k) (hy : (cs x).set j u=cs y) : (xs.flatMap cs).set (i * k+j) u=(xs.set i y).flatMap cs:=by
  induction xs generalizing i with
  | nil=>simp at hi
  | cons z zs ih =>
    rw [List.flatMap_cons]
    match i,hi with
    | 0,hi =>
      simp at hi;subst hi;rw [Nat.zero_mul,Nat.zero_add,List.set_append_left _ _ (by rw [hk];exact hj),hy,List.set_cons_zero,List.flatMap_cons]
    | i+1,hi =>
      rw [List.set_append_right _ _ (by rw [hk,Nat.add_mul];omega),hk,Nat.add_mul,Nat.one_mul,show i * k+k+j - k=i * k+j by omega,ih i (by simpa using hi),List.set_cons_succ,List.flatMap_cons]
theorem ReadsR.of_own {α : Type} {k : Nat} {cs : α->List Value} (hk : ∀ x,(cs x).length=k) {w : World} {base : Nat} {e : TypeId} {v : Value} {xs : List α} (h : w.ownsRow base e k v xs.length (xs.flatMap cs)) : ReadsR k cs w.heap.size w v xs:=by
  rcases h.2 with ⟨rfl,hn⟩ | ⟨g,cap,cur,rfl,hg,hh,hnc,hcm,hcs,htk⟩
  · have : xs = []:=List.length_eq_zero_iff.1 hn
    subst this;exact ReadsR.nil _ _ _ _
  · refine ⟨some ⟨g,0,none⟩,cap,rfl,Nat.le_trans hnc hcm,fun i x hi=>⟨g,0,rfl,za2 hh,fun j u hj=>?_⟩,hnc⟩
    have hi':=(List.getElem?_eq_some_iff.1 hi).1;have hj' : j < k:=by have:=(List.getElem?_eq_some_iff.1 hj).1;rw [hk] at this;exact this
    have hlt : i * k+j < xs.length * k:=by
      have h1 : (i+1) * k<=xs.length * k:=Nat.mul_le_mul_right _ hi';rw [Nat.add_mul,Nat.one_mul] at h1
      omega
    rw [Nat.zero_add,h.cellAt (i * k+j) hlt,zfo hk xs i j x hi hj',hj]
theorem zb2 {α : Type} {k : Nat} {cs : α->List Value} (hk : ∀ x,(cs x).length=k) {w : World} {base g n cap : Nat} {e : TypeId} {xs : List α} (h : w.ownsRow base e k (.slice (some ⟨g,0,none⟩) n cap) xs.length (xs.flatMap cs)) (i j : Nat) (x y : α) (u : Value) (hi : xs[i]? = some x) (hj : j < k) (hy : (cs x).set j u=cs y) :
    (w.setCell ⟨g,i * k+j,none⟩ u).ownsRow base e k (.slice (some ⟨g,0,none⟩) n cap) (xs.set i y).length ((xs.set i y).flatMap cs):=by
  have hn : n=xs.length:=by
    rcases h.2 with ⟨h',_⟩ | ⟨g',cap',cur,h',_⟩
    · cases h'
    · simp only [Value.slice.injEq] at h'
      exact h'.2.1
  subst hn;have:=(h.stored (i * k+j) u).1;rw [zuy hk xs i j x y u hi hj hy] at this
  rwa [List.length_set]
theorem zbn {α : Type} {k : Nat} {cs : α->List Value} (hk : ∀ x,(cs x).length=k) {w : World} {base g n cap : Nat} {e : TypeId} {xs : List α} (h : w.ownsRow base e k (.slice (some ⟨g,0,none⟩) n cap) xs.length (xs.flatMap cs)) (i j : Nat) (x : α) (hi : xs[i]? = some x) (hj : j < k) :
    w.cell? ⟨g,i * k+j,none⟩=(cs x)[j]?/\w.frozen? ⟨g,i * k+j,none⟩=false:=by
  have hn : n=xs.length:=by
    rcases h.2 with ⟨h',_⟩ | ⟨g',cap',cur,h',_⟩
    · cases h'
    · simp only [Value.slice.injEq] at h'
      exact h'.2.1
  subst hn;have hi':=(List.getElem?_eq_some_iff.1 hi).1;have h1 : (i+1) * k<=xs.length * k:=Nat.mul_le_mul_right _ hi';rw [Nat.add_mul,Nat.one_mul] at h1;exact ⟨(h.cellAt (i * k+j) (by omega)).trans (zfo hk xs i j x hi hj),h.frozenAt _⟩
theorem zjk {α : Type} {k : Nat} {cs : α->List Value} (hk : ∀ x,(cs x).length=k) (hpos : 0 < k) (x : α) (z : Array Value) (hz : z.toList=cs x) (n : Nat) : (madeCells z (n * k)).toList=(List.replicate n x).flatMap cs:=by
  have hs : z.size=k:=by rw [<- Array.length_toList,hz,hk]
  apply List.ext_getElem?
  intro j;by_cases hj : j < n * k
  · have hd : j / k < n:=Nat.div_lt_of_lt_mul (by rw [Nat.mul_comm];exact hj)
    have hr : j % k < k:=Nat.mod_lt _ hpos;have he : j / k * k+j % k=j:=by rw [Nat.mul_comm];exact Nat.div_add_mod j k
    have h1:=zfo hk (List.replicate n x) (j / k) (j % k) x (by simp [hd]) hr;rw [he] at h1;rw [h1,<- hz];have hr2 : j % k < z.size:=by omega
    rw [Array.getElem?_toList,Array.getElem?_toList,Array.getElem?_eq_getElem hr2,madeCells,Array.getElem?_map,Array.getElem?_range,if_pos hj];simp [hs,getElem!_pos z (j % k) hr2]
  · have h2:=zbb hk (List.replicate n x)
    rw [List.length_replicate] at h2;rw [List.getElem?_eq_none (by rw [Array.length_toList,size_madeCells];omega),List.getElem?_eq_none (by omega)]
end Go.Proofs.YtfkkapdofjhgpaaGreatDoor
namespace Go.Proofs.YtfkkapdofjhgpaaGreatDoor.Nums
def lowB (l : List UInt8) : Bool:=l.all fun c=>decide (97<=(c.toNat : Int)) && decide ((c.toNat : Int)<=122)
def nameB (l : List UInt8) : Bool:=lowB l && (decide (1<=(l.length : Int)) && decide ((l.length : Int)<=4))
theorem zn5 (s : ByteArray) (k : Nat) (h : k < s.size) : s.data.toList.take (k+1)=s.data.toList.take k ++ [s[k]]:=by
  rw [List.take_succ_eq_append_getElem (by simpa using h)];rfl
theorem take_all (s : ByteArray) (k : Nat) (h : ¬ k < s.size) : s.data.toList.take k=s.data.toList:=by
  rw [List.take_of_length_le];simp;omega
theorem byte_lt (c : UInt8) : 0<=(c.toNat : Int)/\(c.toNat : Int)<=255:=by have:=c.toNat_lt;omega
theorem lowB_snoc (l : List UInt8) (c : UInt8) : lowB (l ++ [c])=(lowB l && (decide (97<=(c.toNat : Int)) && decide ((c.toNat : Int)<=122))):=by
  simp [lowB]
theorem zso (l : List UInt8) (k : Nat) (h : lowB (l.take k)=false) : lowB l=false:=by
  rw [<- List.take_append_drop k l];simp only [lowB] at h;simp only [lowB,List.all_append,h,Bool.false_and]
theorem lowB_bad (s : ByteArray) (k : Nat) (h : k < s.size) (hb : ¬ (97<=(s[k].toNat : Int)/\(s[k].toNat : Int)<=122)) : lowB s.data.toList=false:=by
  apply zso _ (k+1)
  rw [zn5 s k h,lowB_snoc];by_cases h1 : 97<=(s[k].toNat : Int)
  · have h2 : ¬ (s[k].toNat : Int)<=122:=fun h2=>hb ⟨h1,h2⟩
    simp [h2]
  · simp [h1]
theorem lowB_good (s : ByteArray) (k : Nat) (h : k < s.size) (hl : lowB (s.data.toList.take k)=true) (h1 : 97<=(s[k].toNat : Int)) (h2 : (s[k].toNat : Int)<=122) : lowB (s.data.toList.take (k+1))=true:=by
  rw [zn5 s k h,lowB_snoc,hl];simp [h1,h2]
end Go.Proofs.YtfkkapdofjhgpaaGreatDoor.Nums
namespace Go.Proofs.YtfkkapdofjhgpaaGreatDoor
open Go.RowKit
set_option linter.unusedVariables false
set_option maxRecDepth 100000
theorem za6 {a b : Bool} (h : a=b) : Ending.returned (.bool a) = .returned (.bool b):=by rw [h]
theorem zam {k : IntKind} {a b : Int} (h : a=b) : Ending.returned (.int k a) = .returned (.int k b):=by rw [h]
theorem zb3 (x lo hi : Int) (w : World) :
    Calls Tryz.prog 74 #[.int .i64 x,.int .i64 lo,.int .i64 hi] w fun e w'=>e = .returned (.bool (decide (lo<=x) && decide (x<=hi)))/\w'=w:=by
  by_cases h : lo<=x
  · by_cases h2 : x<=hi
    all_goals
      go_enter Tryz.func74,Tryz.ntmps74
      go_wp2
      go_ret;exact ⟨by simp [h,h2],rfl⟩
  · go_enter Tryz.func74,Tryz.ntmps74
    go_wp2
    go_ret;exact ⟨za6 (by simp;omega),rfl⟩
theorem zg1 (s : ByteArray) (w : World) (hs : s.size<=maxLen) :
    Calls Tryz.prog 150 #[.string s] w fun e w'=>e = .returned (.bool (Nums.nameB s.data.toList))/\w'=w:=by
  unfold maxLen at hs
  go_enter Tryz.func150,Tryz.ntmps150
  go_wp2
  go_loop [3] (fun i=>∃ k : Nat,k<=s.size/\i = .int .i64 k/\Nums.lowB (s.data.toList.take k)=true) (fun i=>s.size - (intOf i).toNat)
  case atStart=>exact ⟨0,Nat.zero_le _,rfl,rfl⟩
  case round =>
    obtain ⟨k,hk,rfl,hl⟩:=hrel;have HL : Hid (Nums.lowB (s.data.toList.take k)=true):=hl;clear hl;by_cases hlt : k < s.size
    · have hb:=Nums.byte_lt s[k]
      by_cases h1 : 97<=(s[k].toNat : Int)
      · by_cases h2 : (s[k].toNat : Int)<=122
        · go_wp2
          go_round
          case rel=>exact ⟨k+1,by omega,by go_num,Nums.lowB_good s k hlt HL.out h1 h2⟩
          case measure=>simp [intOf];omega
        · have hx:=Nums.lowB_bad s k hlt (by omega)
          have HX : Hid (Nums.nameB s.data.toList=false):=by simp [Nums.nameB,hx,Hid]
          clear hx
          go_wp2
          go_ret;exact ⟨za6 HX.out.symm,rfl⟩
      · have hx:=Nums.lowB_bad s k hlt (by omega)
        have HX : Hid (Nums.nameB s.data.toList=false):=by simp [Nums.nameB,hx,Hid]
        clear hx
        go_wp2
        go_ret;exact ⟨za6 HX.out.symm,rfl⟩
    · go_wp2_with (go_at_call 74;refine (zb3 _ _ _ _).mono ?_;rintro e w' ⟨rfl,rfl⟩)
      go_ret;have hl:=HL.out;rw [Nums.take_all s k hlt] at hl;exact ⟨za6 (by simp [Nums.nameB,hl]),rfl⟩
theorem zeg (s : ByteArray) (w : World) (hs : s.size<=maxLen) :
    Calls Tryz.prog 218 #[.string s] w fun e w'=>e = .returned (.bool (Nums.nameB s.data.toList))/\w'=w:=by
  unfold maxLen at hs;by_cases g1 : (1 : Int)<=(s.size : Int)
  · by_cases g2 : (s.size : Int)<=4
    · go_enter Tryz.func218,Tryz.ntmps218
      go_wp2
      go_loop [3] (fun i=>∃ k : Nat,k<=s.size/\i = .int .i64 k/\Nums.lowB (s.data.toList.take k)=true) (fun i=>s.size - (intOf i).toNat)
      case atStart=>exact ⟨0,Nat.zero_le _,rfl,rfl⟩
      case round =>
        obtain ⟨k,hk,rfl,hl⟩:=hrel;have HL : Hid (Nums.lowB (s.data.toList.take k)=true):=hl;clear hl;by_cases hlt : k < s.size
        · have hb:=Nums.byte_lt s[k]
          by_cases h1 : 97<=(s[k].toNat : Int)
          · by_cases h2 : (s[k].toNat : Int)<=122
            · go_wp2
              go_round
              case rel=>exact ⟨k+1,by omega,by go_num,Nums.lowB_good s k hlt HL.out h1 h2⟩
              case measure=>simp [intOf];omega
            · have hx:=Nums.lowB_bad s k hlt (by omega)
              have HX : Hid (Nums.nameB s.data.toList=false):=by simp [Nums.nameB,hx,Hid]
              clear hx
              go_wp2
              go_ret;exact ⟨za6 HX.out.symm,rfl⟩
          · have hx:=Nums.lowB_bad s k hlt (by omega)
            have HX : Hid (Nums.nameB s.data.toList=false):=by simp [Nums.nameB,hx,Hid]
            clear hx
            go_wp2
            go_ret;exact ⟨za6 HX.out.symm,rfl⟩
        · go_wp2
          go_ret;have hl:=HL.out;rw [Nums.take_all s k hlt] at hl;exact ⟨za6 (by simp [Nums.nameB,hl];omega),rfl⟩
    · have HX : Hid (Nums.nameB s.data.toList=false):=by simp [Nums.nameB,Hid];omega
      go_enter Tryz.func218,Tryz.ntmps218
      go_wp2
      go_ret;exact ⟨za6 HX.out.symm,rfl⟩
  · have HX : Hid (Nums.nameB s.data.toList=false):=by simp [Nums.nameB,Hid];omega
    go_enter Tryz.func218,Tryz.ntmps218
    go_wp2
    go_ret;exact ⟨za6 HX.out.symm,rfl⟩
theorem zkq : ∀ (l : List Int) (r : ByteArray),l.foldl (fun r n=>r.push (UInt8.ofNat n.toNat)) r=⟨r.data ++ (l.map fun n=>UInt8.ofNat n.toNat).toArray⟩
  | [],r=>by simp
  | b :: l,r=>by
    simp only [List.map_cons,List.foldl_cons];rw [zkq l];simp [ByteArray.push]
theorem zqs (w : World) (a : Addr) (cap : Nat) (ns : List Int) (hc : ∀ j v,ns[j]? = some v->w.cell? (a.add j)=some (.int .u8 v)) :
    (convert 22 9 (.slice (some a) ns.length cap)).run Tryz.prog w = .ok (.string ⟨(ns.map fun n=>UInt8.ofNat n.toNat).toArray⟩) w:=by
  rw [run_convert_bytes_string w _ _ 5 (some a) ns.length cap Tryz.underlying22 Tryz.underlying5 Tryz.underlying9]
  have hl:=run_loadCells_list (P:=Tryz.prog) w a (ns.map (Value.int .u8)) (fun j v hj=>by
    rw [List.getElem?_map,Option.map_eq_some_iff] at hj;obtain ⟨x,hx,rfl⟩:=hj
    exact hc j x hx)
  rw [List.length_map] at hl;rw [run_bytesToString w a ns.length cap _ hl,zkq];have he0 : ByteArray.empty.data = #[]:=rfl;rw [he0];simp
theorem zuz (w : World) (ns : List Int) (more : List Value) (cap : Nat) :
    (convert 22 9 (.slice (some ⟨w.heap.size,0,none⟩) ns.length cap)).run Tryz.prog (w.alloc (.cells (ns.map (Value.int .u8) ++ more).toArray 5)) = .ok (.string ⟨(ns.map fun n=>UInt8.ofNat n.toNat).toArray⟩) (w.alloc (.cells (ns.map (Value.int .u8) ++ more).toArray 5)):=by
  apply zqs
  intro j v hj;have hj':=(List.getElem?_eq_some_iff.1 hj).1;have:=World.cell?_alloc_mark w (ns.map (Value.int .u8) ++ more).toArray 5 (0,0) j;have ha : (⟨w.heap.size,0,none⟩ : Addr).add j=⟨w.heap.size,j,none⟩:=by unfold Addr.add;split <;> simp_all
  rw [ha,this];have e : ns[j]=v:=by rw [List.getElem?_eq_getElem hj'] at hj;exact Option.some.inj hj
  simp [List.getElem?_append,hj',e]
theorem zkk (x y : ByteArray) : (x.toList == y.toList)=decide (x=y):=by
  rw [Bool.eq_iff_iff,beq_iff_eq,decide_eq_true_iff,ByteArray.toList_eq,ByteArray.toList_eq]
  constructor
  · intro h;apply ByteArray.ext;exact Array.toList_inj.1 h
  · intro h;rw [h]
theorem ziv {α : Type} (xs ys : List α) (k : Nat) (h1 : k < xs.length) (h2 : k < ys.length) (h : xs.take k=ys.take k) (e : xs[k]=ys[k]) : xs.take (k+1)=ys.take (k+1):=by
  rw [List.take_succ_eq_append_getElem h1,List.take_succ_eq_append_getElem h2,h,e]
theorem zv0 {α : Type} (xs ys : List α) (k : Nat) (h1 : k < xs.length) (h2 : k < ys.length) (e : xs[k] ≠ ys[k]) : ¬ xs=ys:=by
  intro h;subst h;exact e rfl
theorem ziw {α : Type} (xs ys : List α) (k : Nat) (h1 : ¬ k < xs.length) (h2 : xs.length=ys.length) (h : xs.take k=ys.take k) : xs=ys:=by
  rw [List.take_of_length_le (by omega),List.take_of_length_le (by omega)] at h;exact h
def zi6 : Nat->Nat->ByteArray->ByteArray
  | 0,_,out=>out
  | f+1,k,out=>if k=0 then out else zi6 f (k / 10) (⟨#[48+UInt8.ofNat (k % 10)]⟩ ++ out)
def zcl (k : Int) : ByteArray:=if k<=0 then ⟨#[109,48]⟩ else ⟨#[109]⟩ ++ zi6 (k.toNat+1) k.toNat ⟨#[]⟩
theorem zsp (f k : Nat) (out : ByteArray) (h : 0 < k) : zi6 (f+1) k out=zi6 f (k / 10) (⟨#[48+UInt8.ofNat (k % 10)]⟩ ++ out):=by
  simp only [zi6];rw [if_neg (by omega)]
theorem zv1 (f : Nat) (out : ByteArray) : zi6 (f+1) 0 out=out:=by simp [zi6]
theorem zeh (k : Int) (w : World) (hk : -9223372036854775808<=k/\k<=1099511627776) :
    Calls Tryz.prog 98 #[.int .i64 k] w fun e w'=>e = .returned (.string (zcl k))/\Below w.heap.size w w':=by
  by_cases h0 : k<=0
  · have hv : zcl k=⟨#[109,48]⟩:=by unfold zcl;rw [if_pos h0]
    rw [hv]
    go_enter Tryz.func98,Tryz.ntmps98
    go_wp2
    go_ret;exact ⟨rfl,Below.refl _ _⟩
  · have hv : zcl k=⟨#[109]⟩ ++ zi6 (k.toNat+1) k.toNat ⟨#[]⟩:=by unfold zcl;rw [if_neg h0]
    rw [hv];obtain ⟨K,rfl⟩:=Int.eq_ofNat_of_zero_le (show 0<=k by omega);clear hv;have hcv : ∀ (w : World) (a : Int),(convert 22 9 (.slice (some ⟨w.heap.size,0,none⟩) 1 1)).run Tryz.prog (w.alloc (.cells #[.int .u8 a] 5)) = .ok (.string ⟨#[UInt8.ofNat a.toNat]⟩) (w.alloc (.cells #[.int .u8 a] 5)):=fun w a=>zuz w [a] [] 1
    rw [Int.toNat_natCast]
    go_enter Tryz.func98,Tryz.ntmps98
    go_wp2
    go_loopw [0,3] (fun a o wr=>∃ (m f : Nat) (out : ByteArray),a = .int .i64 m/\o = .string out/\m<=f/\zi6 (K+1) K ⟨#[]⟩=zi6 (f+1) m out/\out.size+m<=K/\Below w.heap.size w wr) (fun a _ _=>(intOf a).toNat)
    case atStart=>exact ⟨K,K,⟨#[]⟩,rfl,rfl,Nat.le_refl _,rfl,by show 0+K<=K;omega,Below.refl _ _⟩
    case round =>
      obtain ⟨m,f,out,rfl,rfl,hf,hd,ho,hb⟩:=hrel;have HD : Hid (zi6 (K+1) K ⟨#[]⟩=zi6 (f+1) m out):=hd;clear hd;by_cases hpos : (0 : Int) < (m : Int)
      · obtain ⟨g,rfl⟩ : ∃ g,f=g+1:=⟨f - 1,by omega⟩
        have HN:=zsp (g+1) m out (by omega);rw [<- HD.out] at HN;have HN' : Hid (zi6 (K+1) K ⟨#[]⟩=zi6 (g+1) (m / 10) (⟨#[48+UInt8.ofNat (m % 10)]⟩ ++ out)):=HN;have hb2:=hb.alloc hb.size (.cells #[.int .u8 (48+(m : Int) % 10)] 5);clear HN
        go_wp2
        go_roundw
        case rel=>exact ⟨m / 10,g,_,by go_num,rfl,by omega,HN'.out,by rw [ByteArray.size_append];show 1+out.size+m / 10<=K;omega,hb2⟩
        case measure=>simp [intOf];omega
      · obtain rfl : m=0:=by omega
        have hsz : out.size<=1099511627776:=by omega
        go_wp2
        go_ret;rw [HD.out,zv1];exact ⟨rfl,hb⟩
end Go.Proofs.YtfkkapdofjhgpaaGreatDoor
