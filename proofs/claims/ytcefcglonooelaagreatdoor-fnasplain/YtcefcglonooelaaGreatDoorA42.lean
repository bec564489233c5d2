import Derived.Test.YtcefcglonooelaaGreatDoorA02
import Derived.Test.YtcefcglonooelaaGreatDoorA06
import Derived.Test.YtcefcglonooelaaGreatDoorA41
namespace Go.Proofs.YtcefcglonooelaaGreatDoor
open Go.RowKit
set_option linter.unusedVariables false
set_option maxRecDepth 100000
section
variable {P : Program} {ops : Array Oper} {Q : Exit -> Act -> World -> Prop}
theorem wpOp_of {i : Nat} {o : Oper} {K : Act -> World -> Prop} {a : Act} {x : World} (ho : ops[i]? = some o) (hg : o.guard = none) (h : o.wp P a x K Q) : wpOp P ops Q i K a x := by
  unfold wpOp;rw [ho];simp only;rw [if_pos (by simp [Region.wanted,hg])];exact .inl h
theorem op_load {o : Oper} {K : Act -> World -> Prop} {a : Act} {x : World} (t : TypeId) (p : Tmp) (ho : o.op = .load t (.tmp p)) (g : Nat) (hp : a.tmps.getD p undef = .pointer (some ⟨g,0,none⟩)) (cs : Array Value) (ty : TypeId) (fr : Nat × Nat) (hg : x.heap[g]? = some (.cells cs ty fr)) (d : TypeDesc) (hu : P.underlying t = some d)
    (hd : (match d with | .struct _ | .array _ _ => true | _ => false) = true) (hi : (P.info? t).map (·.size) = some cs.size) (h : K (a.put o.dst (.agg cs)) x) : o.wp P a x K Q := by
  have hr := run_loadVar_row (P := P) x g ty t cs fr d hg hu hd hi;have hp' : a.eval (.tmp p) = .pointer (some ⟨g,0,none⟩) := hp;unfold Oper.wp execOp;simp only [ho,hp',Instr.loadAt,Instr.sureAddr,Sem.run_bind,Sem.run_pure,Result.andThen_ok,hr];exact h
theorem op_store {o : Oper} {K : Act -> World -> Prop} {a : Act} {x : World} (t : TypeId) (p v : Tmp) (ho : o.op = .store t (.tmp p) (.tmp v)) (hdst : o.dst = none) (g : Nat) (hp : a.tmps.getD p undef = .pointer (some ⟨g,0,none⟩)) (cs : Array Value) (hx : a.tmps.getD v undef = .agg cs) (old : Array Value) (ty : TypeId) (hg : x.heap[g]? = some (.cells old ty (0,0)))
    (hi : (P.info? t).map (·.size) = some cs.size) (hs : old.size = cs.size) (h1 : cs.all (·.oneCell') = true) (h : K a (x.setRow g cs)) : o.wp P a x K Q := by
  have hr := run_storeVar_row (P := P) x g ty t old cs hg hi hs h1;have hp' : a.eval (.tmp p) = .pointer (some ⟨g,0,none⟩) := hp;have hx' : a.eval (.tmp v) = .agg cs := hx;unfold Oper.wp execOp;simp only [ho,hp',hx',Instr.storeAt,Instr.sureAddr,Sem.run_bind,Sem.run_pure,Result.andThen_ok,hr]
  show K (a.put o.dst undef) (x.setRow g cs)
  rw [hdst];exact h
theorem op_move {o : Oper} {K : Act -> World -> Prop} {a : Act} {x : World} (s : Tmp) (ho : o.op = .move (.tmp s)) (h : K (a.put o.dst (a.tmps.getD s undef)) x) : o.wp P a x K Q := by
  unfold Oper.wp execOp;simp only [ho];exact h
structure RInv (ops : Array Oper) (p q : Nat) (R : Bool -> Bool -> Nat -> Value -> World -> Prop) (a0 : Act) (W : World) (L : Array Bool) (a : Act) (x : World) : Prop where
  df : a.defers = a0.defers
  sz : a.tmps.size = a0.tmps.size
  old : ∀ s,ops.toList.all (fun o => o.dst != some s) = true -> a.tmps.getD s undef = a0.tmps.getD s undef
  rel : ∀ j s,L.getD j false = true -> ((ops[j]?).bind (·.dst)) = some s -> R (L.getD p false) (L.getD q false) j (a.tmps.getD s undef) x
  bel : Below W.heap.size W x
variable {p q : Nat} {R : Bool -> Bool -> Nat -> Value -> World -> Prop} {a0 : Act} {W : World} {L : Array Bool} {a : Act} {x : World}
theorem RInv.start (ops : Array Oper) (p q : Nat) (R : Bool -> Bool -> Nat -> Value -> World -> Prop) (a0 : Act) (W : World) : RInv ops p q R a0 W (Array.replicate ops.size false) a0 W.drew :=
  ⟨rfl,rfl,fun _ _ => rfl,fun j s h => by
    rw [Array.getD_eq_getD_getElem?,Array.getElem?_replicate] at h
    split at h <;> simp at h,bw_drew (Below.refl _ _)⟩
theorem getD_self {L : Array Bool} {i : Nat} (h : i < L.size) : (L.setIfInBounds i true).getD i false = true := by simp [Array.getD_eq_getD_getElem?,h]
theorem getD_other {L : Array Bool} {i j : Nat} (h : i ≠ j) (d : Bool) : (L.setIfInBounds i true).getD j d = L.getD j d := by simp [Array.getD_eq_getD_getElem?,h]
theorem tmps_self {T : Array Value} {s : Nat} (v : Value) (h : s < T.size) : (T.setIfInBounds s v).getD s undef = v := by simp [Array.getD_eq_getD_getElem?,h]
theorem tmps_other {T : Array Value} {s r : Nat} (v : Value) (h : s ≠ r) : (T.setIfInBounds s v).getD r undef = T.getD r undef := by simp [Array.getD_eq_getD_getElem?,h]
def uniqB (ops : Array Oper) (s i : Nat) : Bool := (List.range ops.size).all (fun j => ((ops[j]?).bind (·.dst)) != some s || j == i)
theorem uniq_of {s i : Nat} (h : uniqB ops s i = true) (j : Nat) (hj : ((ops[j]?).bind (·.dst)) = some s) : j = i := by
  have hlt : j < ops.size := by
    rcases Nat.lt_or_ge j ops.size with g | g
    · exact g
    · rw [Array.getElem?_eq_none g] at hj;simp at hj
  unfold uniqB at h;rw [List.all_eq_true] at h;have := h j (List.mem_range.2 hlt);rw [hj] at this
  simpa using this
theorem RInv.val (h : RInv ops p q R a0 W L a x) (i s : Nat) (v : Value) (x' : World) (hp : i ≠ p) (hq : i ≠ q) (hi : ((ops[i]?).bind (·.dst)) = some s) (hs : s < a0.tmps.size) (hd : (ops.toList.all (fun o => o.dst != some s)) = false) (hu : uniqB ops s i = true)
    (hb : Below x.heap.size x x') (hv : R (L.getD p false) (L.getD q false) i v x') (hm : ∀ b c j u,R b c j u x -> R b c j u x') : RInv ops p q R a0 W (L.setIfInBounds i true) (a.put (some s) v) x' := by
  refine ⟨h.df,by show (a.tmps.setIfInBounds s v).size = _;rw [Array.size_setIfInBounds];exact h.sz,fun r hr => ?_,fun j r hj hr => ?_,bw_call h.bel hb⟩
  · have hne : s ≠ r := fun e => by subst e;rw [hd] at hr;cases hr
    exact (tmps_other v hne).trans (h.old r hr)
  · rw [getD_other hp,getD_other hq]
    show R _ _ j ((a.tmps.setIfInBounds s v).getD r undef) x'
    by_cases e : i = j
    · subst e
      rw [hi] at hr;cases hr;rw [tmps_self v (by rw [h.sz];exact hs)];exact hv
    · have hne : s ≠ r := fun e2 => by subst e2;exact e (uniq_of hu j hr).symm
      rw [tmps_other v hne];rw [getD_other e] at hj;exact hm _ _ j _ (h.rel j r hj hr)
def Act.puts (a : Act) (f : Nat -> Value) : List Nat -> Act
  | [] => a
  | s :: S => Act.puts (a.put (some s) (f s)) f S
theorem puts_defers (f : Nat -> Value) : ∀ (S : List Nat) (a : Act),(Act.puts a f S).defers = a.defers
  | [],a => rfl
  | s :: S,a => puts_defers f S (a.put (some s) (f s))
theorem puts_size (f : Nat -> Value) : ∀ (S : List Nat) (a : Act),(Act.puts a f S).tmps.size = a.tmps.size
  | [],a => rfl
  | s :: S,a => (puts_size f S (a.put (some s) (f s))).trans (by show (a.tmps.setIfInBounds s (f s)).size = _;rw [Array.size_setIfInBounds])
theorem puts_at (f : Nat -> Value) : ∀ (S : List Nat) (a : Act) (r : Nat),r < a.tmps.size -> (Act.puts a f S).tmps.getD r undef = if r ∈ S then f r else a.tmps.getD r undef
  | [],a,r,h => by simp [Act.puts]
  | s :: S,a,r,h => by
    have h2 : r < (a.put (some s) (f s)).tmps.size := by show r < (a.tmps.setIfInBounds s (f s)).size;rw [Array.size_setIfInBounds];exact h
    rw [Act.puts,puts_at f S _ r h2];by_cases hS : r ∈ S
    · rw [if_pos hS,if_pos (List.mem_cons_of_mem _ hS)]
    · rw [if_neg hS]
      show (a.tmps.setIfInBounds s (f s)).getD r undef = _
      by_cases e : s = r
      · subst e
        rw [tmps_self _ h,if_pos (List.mem_cons_self ..)]
      · rw [tmps_other _ e,if_neg (fun hm => by rcases List.mem_cons.1 hm with rfl | hm;exact e rfl;exact hS hm)]
theorem arr_ext {T U : Array Value} (hs : T.size = U.size) (h : ∀ r,r < T.size -> T.getD r undef = U.getD r undef) : T = U := by
  refine Array.ext hs (fun i h1 h2 => ?_);have := h i h1
  simpa [Array.getD_eq_getD_getElem?,h1,h2] using this
def frameB (ops : Array Oper) (S : List Nat) (n : Nat) : Bool := (List.range n).all (fun s => S.contains s || ops.toList.all (fun o => o.dst != some s))
theorem frame_of {S : List Nat} {n : Nat} (h : frameB ops S n = true) (s : Nat) (hs : s < n) (hm : s ∉ S) : ops.toList.all (fun o => o.dst != some s) = true := by
  unfold frameB at h;rw [List.all_eq_true] at h;have := h s (List.mem_range.2 hs);rw [Bool.or_eq_true] at this;rcases this with h1 | h1
  · exact absurd (List.contains_iff_mem.1 h1) hm
  · exact h1
theorem RInv.frame (h : RInv ops p q R a0 W L a x) (S : List Nat) (hS : frameB ops S a0.tmps.size = true) : a = Act.puts a0 (fun s => a.tmps.getD s undef) S := by
  have hd : a.defers = (Act.puts a0 (fun s => a.tmps.getD s undef) S).defers := by rw [puts_defers];exact h.df
  have ht : a.tmps = (Act.puts a0 (fun s => a.tmps.getD s undef) S).tmps := by
    refine arr_ext (by rw [puts_size];exact h.sz) (fun r hr => ?_);rw [puts_at _ S a0 r (by rw [<- h.sz];exact hr)];by_cases hm : r ∈ S
    · rw [if_pos hm]
    · rw [if_neg hm]
      exact h.old r (frame_of hS r (by rw [<- h.sz];exact hr) hm)
  generalize Act.puts a0 (fun s => a.tmps.getD s undef) S = b at hd ht;cases a;cases b;simp only at hd ht;rw [hd,ht]
end
structure R1 (ops : Array Oper) (p : Nat) (R : Nat -> Value -> Prop) (a0 : Act) (W : World) (G : World -> World) (L : Array Bool) (a : Act) (x : World) : Prop where
  df : a.defers = a0.defers
  sz : a.tmps.size = a0.tmps.size
  old : ∀ s,ops.toList.all (fun o => o.dst != some s) = true -> a.tmps.getD s undef = a0.tmps.getD s undef
  rel : ∀ j s,L.getD j false = true -> ((ops[j]?).bind (·.dst)) = some s -> R j (a.tmps.getD s undef)
  bel : L.getD p false = false -> Below W.heap.size W x
  fin : L.getD p false = true -> ∃ X,Below W.heap.size W X /\ x = G X
theorem R1.start (ops : Array Oper) (p : Nat) (R : Nat -> Value -> Prop) (a0 : Act) (W : World) (G : World -> World) : R1 ops p R a0 W G (Array.replicate ops.size false) a0 W.drew := by
  have hn : ∀ j,(Array.replicate ops.size false).getD j false = false := fun j => by
    rw [Array.getD_eq_getD_getElem?,Array.getElem?_replicate]
    split <;> rfl
  exact ⟨rfl,rfl,fun _ _ => rfl,(fun j s h => by rw [hn] at h;cases h),fun _ => bw_drew (Below.refl _ _),(fun h => by rw [hn] at h;cases h)⟩
theorem R1.val {ops : Array Oper} {p : Nat} {R : Nat -> Value -> Prop} {a0 : Act} {W : World} {G : World -> World} {L : Array Bool} {a : Act} {x : World} (h : R1 ops p R a0 W G L a x) (i s : Nat) (v : Value) (x' : World) (hp : i ≠ p) (hi : ((ops[i]?).bind (·.dst)) = some s) (hs : s < a0.tmps.size) (hd : (ops.toList.all (fun o => o.dst != some s)) = false) (hu : uniqB ops s i = true)
    (hb : (L.getD p false = false /\ Below x.heap.size x x') \/ x' = x) (hv : R i v) : R1 ops p R a0 W G (L.setIfInBounds i true) (a.put (some s) v) x' := by
  refine ⟨h.df,by show (a.tmps.setIfInBounds s v).size = _;rw [Array.size_setIfInBounds];exact h.sz,fun r hr => ?_,fun j r hj hr => ?_,fun hl => ?_,fun hl => ?_⟩
  · have hne : s ≠ r := fun e => by subst e;rw [hd] at hr;cases hr
    exact (tmps_other v hne).trans (h.old r hr)
  · show R j ((a.tmps.setIfInBounds s v).getD r undef)
    by_cases e : i = j
    · subst e
      rw [hi] at hr;cases hr;rw [tmps_self v (by rw [h.sz];exact hs)];exact hv
    · have hne : s ≠ r := fun e2 => by subst e2;exact e (uniq_of hu j hr).symm
      rw [tmps_other v hne];rw [getD_other e] at hj;exact h.rel j r hj hr
  · rw [getD_other hp] at hl
    rcases hb with ⟨-,hb⟩ | rfl
    · exact bw_call (h.bel hl) hb
    · exact h.bel hl
  · rw [getD_other hp] at hl
    rcases hb with ⟨hb,-⟩ | rfl
    · rw [hb] at hl;cases hl
    · exact h.fin hl
theorem R1.store {ops : Array Oper} {p : Nat} {R : Nat -> Value -> Prop} {a0 : Act} {W : World} {G : World -> World} {L : Array Bool} {a : Act} {x : World} (h : R1 ops p R a0 W G L a x) (hp : p < L.size) (hn : L.getD p false = false) (hd : ((ops[p]?).bind (·.dst)) = none) : R1 ops p R a0 W G (L.setIfInBounds p true) a (G x) := by
  refine ⟨h.df,h.sz,h.old,fun j r hj hr => ?_,fun hl => ?_,fun _ => ⟨x,h.bel hn,rfl⟩⟩
  · by_cases e : p = j
    · subst e;rw [hd] at hr;cases hr
    · rw [getD_other e] at hj
      exact h.rel j r hj hr
  · rw [getD_self hp] at hl;cases hl
theorem R1.frame {ops : Array Oper} {p : Nat} {R : Nat -> Value -> Prop} {a0 : Act} {W : World} {G : World -> World} {L : Array Bool} {a : Act} {x : World} (h : R1 ops p R a0 W G L a x) (S : List Nat) (hS : frameB ops S a0.tmps.size = true) : a = Act.puts a0 (fun s => a.tmps.getD s undef) S := by
  have hd : a.defers = (Act.puts a0 (fun s => a.tmps.getD s undef) S).defers := by rw [puts_defers];exact h.df
  have ht : a.tmps = (Act.puts a0 (fun s => a.tmps.getD s undef) S).tmps := by
    refine arr_ext (by rw [puts_size];exact h.sz) (fun r hr => ?_);rw [puts_at _ S a0 r (by rw [<- h.sz];exact hr)];by_cases hm : r ∈ S
    · rw [if_pos hm]
    · rw [if_neg hm]
      exact h.old r (frame_of hS r (by rw [<- h.sz];exact hr) hm)
  generalize Act.puts a0 (fun s => a.tmps.getD s undef) S = b at hd ht;cases a;cases b;simp only at hd ht;rw [hd,ht]
theorem op_assign {P : Program} {Q : Exit -> Act -> World -> Prop} {o : Oper} {K : Act -> World -> Prop} {a : Act} {x : World} (s : Tmp) (ho : o.op = .assign (.tmp s)) (h : K (a.put o.dst (a.tmps.getD s undef)) x) : o.wp P a x K Q := by
  unfold Oper.wp execOp;simp only [ho];exact h
def pathB (md : Region.Mode) (ops : Array Oper) : Nat -> List Nat -> Bool
  | _,[] => true
  | p,i :: l => depB md ops p i && pathB md ops i l
theorem Down.path {md : Region.Mode} {ops : Array Oper} {L : Array Bool} (h : Down md ops L) : ∀ (l : List Nat) (p : Nat),pathB md ops p l = true -> L.getD p false = true -> L.getD (l.getLastD p) false = true
  | [],p,_,hp => hp
  | i :: l,p,hl,hp => by
    simp only [pathB,Bool.and_eq_true] at hl;have := Down.path h l i hl.2 (h p i hp hl.1);rw [List.getLastD_cons];exact this
theorem Down.no {md : Region.Mode} {ops : Array Oper} {L : Array Bool} (h : Down md ops L) (p : Nat) (l : List Nat) {i : Nat} (hn : L.getD i true = false) (hp : pathB md ops p l = true) (hi : l.getLastD p = i) : L.getD p false = false := by
  rw [Bool.eq_false_iff];intro h1;have h2 := h.path l p hp h1;rw [hi] at h2;have h3 := not_done hn;rw [h2] at h3;cases h3
structure RX (ops : Array Oper) (p sB sV : Nat) (R : Nat -> Value -> World -> Prop) (a0 : Act) (W : World) (L : Array Bool) (a : Act) (x X : World) : Prop where
  df : a.defers = a0.defers
  sz : a.tmps.size = a0.tmps.size
  old : ∀ s,ops.toList.all (fun o => o.dst != some s) = true -> a.tmps.getD s undef = a0.tmps.getD s undef
  rel : ∀ j s,L.getD j false = true -> ((ops[j]?).bind (·.dst)) = some s -> R j (a.tmps.getD s undef) X
  bel : Below W.heap.size W X
  pre : L.getD p false = false -> x = X
  fin : L.getD p false = true -> ∃ n zs,a.tmps.getD sB undef = .pointer (some ⟨n,0,none⟩) /\ a.tmps.getD sV undef = .agg zs /\ x = X.setRow n zs
def RXs (ops : Array Oper) (p sB sV : Nat) (R : Nat -> Value -> World -> Prop) (a0 : Act) (W : World) (L : Array Bool) (a : Act) (x : World) : Prop := ∃ X,RX ops p sB sV R a0 W L a x X
theorem RXs.start (ops : Array Oper) (p sB sV : Nat) (R : Nat -> Value -> World -> Prop) (a0 : Act) (W : World) : RXs ops p sB sV R a0 W (Array.replicate ops.size false) a0 W.drew := by
  have hn : ∀ j,(Array.replicate ops.size false).getD j false = false := fun j => by
    rw [Array.getD_eq_getD_getElem?,Array.getElem?_replicate]
    split <;> rfl
  exact ⟨W.drew,rfl,rfl,fun _ _ => rfl,(fun j s h => by rw [hn] at h;cases h),bw_drew (Below.refl _ _),fun _ => rfl,(fun h => by rw [hn] at h;cases h)⟩
theorem RX.val {ops : Array Oper} {p sB sV : Nat} {R : Nat -> Value -> World -> Prop} {a0 : Act} {W : World} {L : Array Bool} {a : Act} {x X : World} (h : RX ops p sB sV R a0 W L a x X) (i s : Nat) (v : Value) (x' : World) (hp : i ≠ p) (hi : ((ops[i]?).bind (·.dst)) = some s) (hs : s < a0.tmps.size) (hd : (ops.toList.all (fun o => o.dst != some s)) = false) (hu : uniqB ops s i = true)
    (hn : L.getD p false = false) (hb : Below x.heap.size x x') (hv : R i v x') (hm : ∀ j u,R j u x -> R j u x') : RXs ops p sB sV R a0 W (L.setIfInBounds i true) (a.put (some s) v) x' := by
  obtain rfl := h.pre hn;refine ⟨x',h.df,by show (a.tmps.setIfInBounds s v).size = _;rw [Array.size_setIfInBounds];exact h.sz,fun r hr => ?_,fun j r hj hr => ?_,bw_call h.bel hb,fun _ => rfl,fun hl => by rw [getD_other hp,hn] at hl;cases hl⟩
  · have hne : s ≠ r := fun e => by subst e;rw [hd] at hr;cases hr
    exact (tmps_other v hne).trans (h.old r hr)
  · show R j ((a.tmps.setIfInBounds s v).getD r undef) x'
    by_cases e : i = j
    · subst e
      rw [hi] at hr;cases hr;rw [tmps_self v (by rw [h.sz];exact hs)];exact hv
    · have hne : s ≠ r := fun e2 => by subst e2;exact e (uniq_of hu j hr).symm
      rw [tmps_other v hne];rw [getD_other e] at hj;exact hm _ _ (h.rel j r hj hr)
theorem RX.put {ops : Array Oper} {p sB sV : Nat} {R : Nat -> Value -> World -> Prop} {a0 : Act} {W : World} {L : Array Bool} {a : Act} {x X : World} (h : RX ops p sB sV R a0 W L a x X) (i s : Nat) (v : Value) (hp : i ≠ p) (hi : ((ops[i]?).bind (·.dst)) = some s) (hs : s < a0.tmps.size) (hd : (ops.toList.all (fun o => o.dst != some s)) = false) (hu : uniqB ops s i = true)
    (hB : s ≠ sB) (hV : s ≠ sV) (hv : R i v X) : RXs ops p sB sV R a0 W (L.setIfInBounds i true) (a.put (some s) v) x := by
  refine ⟨X,h.df,by show (a.tmps.setIfInBounds s v).size = _;rw [Array.size_setIfInBounds];exact h.sz,fun r hr => ?_,fun j r hj hr => ?_,h.bel,fun hl => h.pre (by rwa [getD_other hp] at hl),fun hl => ?_⟩
  · have hne : s ≠ r := fun e => by subst e;rw [hd] at hr;cases hr
    exact (tmps_other v hne).trans (h.old r hr)
  · show R j ((a.tmps.setIfInBounds s v).getD r undef) X
    by_cases e : i = j
    · subst e
      rw [hi] at hr;cases hr;rw [tmps_self v (by rw [h.sz];exact hs)];exact hv
    · have hne : s ≠ r := fun e2 => by subst e2;exact e (uniq_of hu j hr).symm
      rw [tmps_other v hne];rw [getD_other e] at hj;exact h.rel j r hj hr
  · rw [getD_other hp] at hl
    obtain ⟨n,zs,e1,e2,e3⟩ := h.fin hl;exact ⟨n,zs,(tmps_other v hB).trans e1,(tmps_other v hV).trans e2,e3⟩
theorem RX.store {ops : Array Oper} {p sB sV : Nat} {R : Nat -> Value -> World -> Prop} {a0 : Act} {W : World} {L : Array Bool} {a : Act} {x X : World} (h : RX ops p sB sV R a0 W L a x X) (hp : p < L.size) (hn : L.getD p false = false) (hd : ((ops[p]?).bind (·.dst)) = none) {n : Nat} {zs : Array Value} (hB : a.tmps.getD sB undef = .pointer (some ⟨n,0,none⟩)) (hV : a.tmps.getD sV undef = .agg zs) : RXs ops p sB sV R a0 W (L.setIfInBounds p true) a (x.setRow n zs) := by
  obtain rfl := h.pre hn;refine ⟨x,h.df,h.sz,h.old,fun j r hj hr => ?_,h.bel,fun hl => ?_,fun _ => ⟨n,zs,hB,hV,rfl⟩⟩
  · by_cases e : p = j
    · subst e;rw [hd] at hr;cases hr
    · rw [getD_other e] at hj
      exact h.rel j r hj hr
  · rw [getD_self hp] at hl;cases hl
theorem RX.frame {ops : Array Oper} {p sB sV : Nat} {R : Nat -> Value -> World -> Prop} {a0 : Act} {W : World} {L : Array Bool} {a : Act} {x X : World} (h : RX ops p sB sV R a0 W L a x X) (S : List Nat) (hS : frameB ops S a0.tmps.size = true) : a = Act.puts a0 (fun s => a.tmps.getD s undef) S := by
  have hd : a.defers = (Act.puts a0 (fun s => a.tmps.getD s undef) S).defers := by rw [puts_defers];exact h.df
  have ht : a.tmps = (Act.puts a0 (fun s => a.tmps.getD s undef) S).tmps := by
    refine arr_ext (by rw [puts_size];exact h.sz) (fun r hr => ?_);rw [puts_at _ S a0 r (by rw [<- h.sz];exact hr)];by_cases hm : r ∈ S
    · rw [if_pos hm]
    · rw [if_neg hm]
      exact h.old r (frame_of hS r (by rw [<- h.sz];exact hr) hm)
  generalize Act.puts a0 (fun s => a.tmps.getD s undef) S = b at hd ht;cases a;cases b;simp only at hd ht;rw [hd,ht]
theorem row_upto {w : World} {g : Nat} {cs : Array Value} : Upto g w (w.setRow g cs) := by
  refine ⟨rfl,rfl,rfl,by simp [World.setRow],fun k hk hne => ?_⟩;simp only [World.setRow,Array.getElem?_modify];rw [if_neg (fun e => hne e.symm)]
end Go.Proofs.YtcefcglonooelaaGreatDoor
namespace Go.Proofs.YtcefcglonooelaaGreatDoor
open Go.RowKit
set_option linter.unusedVariables false
theorem blk_src9 {w : World} {o : Option Addr} {n cap : Nat} {xs : List Int} (h : ReadsR 1 intC w.heap.size w (.slice o n cap) xs) : BlkSrc o w xs := fun j x hj => by
  obtain ⟨o',c',e,-,hc,-⟩ := h;cases e;obtain ⟨g,off,rfl,hg,hx⟩ := hc j x hj;refine ⟨⟨g,off,none⟩,rfl,?_,hg⟩;have := hx 0 _ rfl;have e : (⟨g,off,none⟩ : Addr).add j = ⟨g,off + j,none⟩ := by unfold Addr.add;split <;> simp_all
  rw [e]
  simpa using this
theorem blk_reads {W : World} {B N : Nat} {xr : List Int} {t : TypeId} (k : W.heap[B]? = some (.cells (blk xr) t (0,0))) (hN : N <= 16) : Reads W.heap.size W (.slice (some ⟨B,0,none⟩) N 16) (((blkL xr).take N).map (Value.int .i64)) := by
  have hl : (((blkL xr).take N).map (Value.int .i64)).length = N := by rw [List.length_map,List.length_take,blkL_len];omega
  refine ⟨some ⟨B,0,none⟩,16,by rw [hl],by rw [hl];unfold maxLen;omega,fun j u hj => ⟨B,0,rfl,heap_lt k,?_⟩,by rw [hl];exact hN⟩;rw [List.map_take,List.getElem?_take] at hj
  split at hj
  · rw [Nat.zero_add,at_cell k,blk]
    simpa using hj
  · cases hj
theorem set_two9 {W : World} {c : Nat} {x0 x1 x2 x3 x4 : Value} {T : TypeId} (k : W.heap[c]? = some (.cells #[x0,x1,x2,x3,x4] T (0,0))) (y1 y2 : Value) :
    ((W.setCell ⟨c,1,none⟩ y1).setCell ⟨c,2,none⟩ y2).heap[c]? = some (.cells #[x0,y1,y2,x3,x4] T (0,0)) /\ Upto c W ((W.setCell ⟨c,1,none⟩ y1).setCell ⟨c,2,none⟩ y2) :=
  ⟨set_at (set_at k 1 y1) 2 y2,((Upto.refl _ _).setCell ⟨c,1,none⟩ (.inl rfl) _).setCell ⟨c,2,none⟩ (.inl rfl) _⟩
set_option maxRecDepth 100000 in
set_option maxHeartbeats 3200000 in
theorem resizedPlain_any (xn : ByteArray) (xz : Int) (xm : Value) (xr : List Int) (xf : Bool) (xe : Int) (N : Nat) (w : World) (hN : N <= 16) (hl : xr.length <= 1048576) (r : ReadsR 1 intC w.heap.size w xm xr) :
    Calls Tryz.prog 131 #[.agg #[.string xn,.int .i64 xz,xm,.bool xf,.int .i64 xe],.int .i64 (N : Int)] w fun e w' => ∃ v' : Value,e = .returned (.agg #[.string xn,.int .i64 (N : Int),v',.bool xf,.int .i64 xe]) /\ w'.ownsRow w.heap.size 2 1 v' N (((blkL xr).take N).flatMap intC) /\ Below w.heap.size w w' := by
  obtain ⟨om,cm,hmf⟩ := r.form;subst hmf;obtain ⟨W0,hW0,kP,kR,d0,z0⟩ := box2 w #[.string xn,.int .i64 xz,.slice om xr.length cm,.bool xf,.int .i64 xe] #[.string ⟨#[]⟩,.int .i64 0,.slice none 0 0,.bool false,.int .i64 0] 51 51;have HW0 : Hid (W0 = _) := hW0;have r0 := (r.below d0).mono d0.size;have HSRC : Hid (BlkSrc om W0 xr) := blk_src9 r0;have HML : Hid (xr.length <= maxLen) := by rw [Hid];unfold maxLen;omega
  have zs0 : w.heap.size + 1 < W0.heap.size := by omega
  have HBR : Hid (∀ (W : World) (B : Nat),W.heap[B]? = some (.cells (blk xr) 169 (0,0)) -> Reads W.heap.size W (.slice (some ⟨B,0,none⟩) N 16) (((blkL xr).take N).map (Value.int .i64))) := fun W B k => blk_reads k hN
  have HLL : Hid (((blkL xr).take N).length = N) := by rw [Hid,List.length_take,blkL_len];omega
  have HI : Hid ((Tryz.prog.info? 169).map (·.size) = some (blk xr).size) := by rw [Hid,blk_size];exact infoVB16
  have HZ : Hid ((#[.int .i64 0,.int .i64 0,.int .i64 0,.int .i64 0,.int .i64 0,.int .i64 0,.int .i64 0,.int .i64 0,.int .i64 0,.int .i64 0,.int .i64 0,.int .i64 0,.int .i64 0,.int .i64 0,.int .i64 0,.int .i64 0] : Array Value).size = (blk xr).size) := by rw [Hid,blk_size];rfl
  have H1 : Hid ((blk xr).all (·.oneCell') = true) := by rw [Hid,blk,Array.all_eq_true'];intro u hu;simp at hu;obtain ⟨z,-,rfl⟩ := hu;rfl
  have hb : ∀ (w : World),BlkSrc om w xr -> Calls Tryz.prog 137 #[.slice om xr.length cm] w fun e w' => e = .returned (.agg (blk xr)) /\ Below w.heap.size w w' := fun w h => blockOf_any om xr.length cm xr w rfl HML.out h
  obtain ⟨L,hL⟩ : ∃ L,(blkL xr).take N = L := ⟨_,rfl⟩
  obtain ⟨BB,hBB⟩ : ∃ BB,blk xr = BB := ⟨_,rfl⟩
  rw [hL] at HBR HLL ⊢;rw [hBB] at HBR HI HZ H1 hb;clear hL hBB hW0 z0 r r0;have n0 : (0 : Int) <= (N : Int) := by omega
  have n1 : (N : Int) <= 16 := by omega
  go_enter Tryz.func131,Tryz.ntmps131
  go_upto_region 1 with fail
  rw [<- HW0.out];clear HW0;have p2 := at_cell kP 2
  go_wp2_with fail
  refine (hb _ HSRC.out).mono ?_;rintro e w1 ⟨rfl,b1⟩;have kP1 := (b1.block _ (heap_lt kP)).trans kP;have kR1 := (b1.block _ (heap_lt kR)).trans kR;have d1 := bw_call d0 b1;have sz1 : w.heap.size + 1 < w1.heap.size := Nat.lt_of_lt_of_le zs0 b1.size;have HNEW : Hid ((w1.alloc (.cells #[.int .i64 0,.int .i64 0,.int .i64 0,.int .i64 0,.int .i64 0,.int .i64 0,.int .i64 0,.int .i64 0,.int .i64 0,.int .i64 0,.int .i64 0,.int .i64 0,.int .i64 0,.int .i64 0,.int .i64 0,.int .i64 0] 169)).heap[w1.heap.size]? = some (.cells #[.int .i64 0,.int .i64 0,.int .i64 0,.int .i64 0,.int .i64 0,.int .i64 0,.int .i64 0,.int .i64 0,.int .i64 0,.int .i64 0,.int .i64 0,.int .i64 0,.int .i64 0,.int .i64 0,.int .i64 0,.int .i64 0] 169 (0,0))) := heap_alloc_new w1 _
  obtain ⟨W2,hW2⟩ : ∃ W2,(w1.alloc (.cells #[.int .i64 0,.int .i64 0,.int .i64 0,.int .i64 0,.int .i64 0,.int .i64 0,.int .i64 0,.int .i64 0,.int .i64 0,.int .i64 0,.int .i64 0,.int .i64 0,.int .i64 0,.int .i64 0,.int .i64 0,.int .i64 0] 169)).setRow w1.heap.size BB = W2 := ⟨_,rfl⟩
  have k5 : W2.heap[w1.heap.size]? = some (.cells BB 169 (0,0)) := by rw [<- hW2];exact setRow_row HNEW.out
  have b2 : Below w1.heap.size w1 W2 := by rw [<- hW2];exact (bw_alloc (Below.refl _ _)).trans (setRow_below (Nat.le_refl _))
  have HW2 : Hid (_ = W2) := hW2;have HRD : Hid _ := HBR.out W2 _ k5;have kP2 := (b2.block _ (heap_lt kP1)).trans kP1;have kR2 := (b2.block _ (heap_lt kR1)).trans kR1;have d2 := bw_call d1 b2;have sz2 : w.heap.size + 1 < W2.heap.size := Nat.lt_of_lt_of_le sz1 b2.size;clear hW2 b1 b2 kP1 kR1 d1 kP kR d0 p2 hb HSRC HML HBR k5 zs0
  go_upto_region 2 with (with_reducible refine wpList_store_arr rfl _ _ 169 rfl w1.heap.size rfl BB rfl #[.int .i64 0,.int .i64 0,.int .i64 0,.int .i64 0,.int .i64 0,.int .i64 0,.int .i64 0,.int .i64 0,.int .i64 0,.int .i64 0,.int .i64 0,.int .i64 0,.int .i64 0,.int .i64 0,.int .i64 0,.int .i64 0] 169 HNEW.out HI.out HZ.out H1.out ?_)
  rw [HW2.out];clear HW2 HNEW HI HZ H1
  go_wp2_with fail
  refine (sameNumbers_any _ L _ (by have := HLL.out;omega) HRD.out).mono ?_;rintro e w3 ⟨v3,rfl,ow3,hn3,b3⟩;rw [HLL.out] at ow3;obtain ⟨o3,c3,hv3⟩ := own_slice ow3;subst hv3;have kP3 := (b3.block _ (heap_lt kP2)).trans kP2;have kR3 := (b3.block _ (heap_lt kR2)).trans kR2;have d3 := bw_call d2 b3;have ow4 : w3.ownsRow w.heap.size 2 1 (.slice o3 N c3) N (L.flatMap intC) := by rw [ints_flat];exact owns_mono ow3 (by omega)
  have hp := set_two9 kP3 (.int .i64 (N : Int)) (.slice o3 N c3);have kPW := hp.1;have kRW := (hp.2.block _ (heap_lt kR3) (by omega)).trans kR3;have owW := own_box_k ow4 kP3 (by decide) hp.2;have dW := d3.trans (hp.2.toBelow d3.size (Nat.le_refl _));have q1 := at_cell kP3 1;have q2 := at_cell kP3 2;have f1 := at_open kP3 1;have f2 := at_open kP3 2;clear b3 ow3 ow4 hn3 kP2 kR2 d2 d3 hp kP3 kR3 HRD
  go_upto_region 3 with fail
  generalize (w3.setCell ⟨w.heap.size,1,none⟩ (.int .i64 (N : Int))).setCell ⟨w.heap.size,2,none⟩ (.slice o3 N c3) = W4 at *;clear q1 q2 f1 f2;have HS : Hid _ := five_end (Nat.le_succ _) kRW dW owW (.string xn) (.int .i64 (N : Int)) (.slice o3 N c3) (.bool xf) (.int .i64 xe);obtain ⟨a0,a1,a2,a3,a4⟩ := c5 kPW;obtain ⟨b0,b1,b2,b3,b4⟩ := c5 kRW;have c0 := at_open kRW 0;have c1 := at_open kRW 1;have c2 := at_open kRW 2;have c3' := at_open kRW 3;have c4 := at_open kRW 4;clear kPW kRW dW owW
  go_wp2_with fail
  exact bodyPost_ret (v := .agg #[.string xn,.int .i64 (N : Int),.slice o3 N c3,.bool xf,.int .i64 xe]) (by simp [results,Tryz.results131,go_sem,at_cell HS.out.1]) rfl ⟨_,rfl,HS.out.2.1,HS.out.2.2⟩
end Go.Proofs.YtcefcglonooelaaGreatDoor
