/-
  Contracts and plain laws, one chapter behind the other.
-/
import Derived.Test.YtgabhnhfomekfaaM07
import Derived.Test.YtgabhnhfomekfaaM20
import Derived.Test.YtgabhnhfomekfaaM29
namespace Go.Proofs.Ytgabhnhfomekfaa
open Go.RowKit

set_option linter.unusedVariables false

set_option maxRecDepth 100000


section
variable {P : Program} {ops : Array Oper} {Q : Exit → Act → World → Prop}

theorem wpOp_of {i : Nat} {o : Oper} {K : Act → World → Prop} {a : Act} {x : World} (ho : ops[i]? = some o) (hg : o.guard = none) (h : o.wp P a x K Q) : wpOp P ops Q i K a x := by
  unfold wpOp
  rw [ho]
  simp only
  rw [if_pos (by simp [Region.wanted, hg])]
  exact .inl h

theorem op_load {o : Oper} {K : Act → World → Prop} {a : Act} {x : World} (t : TypeId) (p : Tmp) (ho : o.op = .load t (.tmp p)) (g : Nat) (hp : a.tmps.getD p undef = .pointer (some ⟨g, 0, none⟩)) (cs : Array Value) (ty : TypeId) (fr : Nat × Nat) (hg : x.heap[g]? = some (.cells cs ty fr)) (d : TypeDesc) (hu : P.underlying t = some d)
    (hd : (match d with | .struct _ | .array _ _ => true | _ => false) = true) (hi : (P.info? t).map (·.size) = some cs.size) (h : K (a.put o.dst (.agg cs)) x) : o.wp P a x K Q := by
  have hr := run_loadVar_row (P := P) x g ty t cs fr d hg hu hd hi
  have hp' : a.eval (.tmp p) = .pointer (some ⟨g, 0, none⟩) := hp
  unfold Oper.wp execOp
  simp only [ho, hp', Instr.loadAt, Instr.sureAddr, Sem.run_bind, Sem.run_pure, Result.andThen_ok, hr]
  exact h

theorem op_store {o : Oper} {K : Act → World → Prop} {a : Act} {x : World} (t : TypeId) (p v : Tmp) (ho : o.op = .store t (.tmp p) (.tmp v)) (hdst : o.dst = none) (g : Nat) (hp : a.tmps.getD p undef = .pointer (some ⟨g, 0, none⟩)) (cs : Array Value) (hx : a.tmps.getD v undef = .agg cs) (old : Array Value) (ty : TypeId) (hg : x.heap[g]? = some (.cells old ty (0, 0)))
    (hi : (P.info? t).map (·.size) = some cs.size) (hs : old.size = cs.size) (h1 : cs.all (·.oneCell') = true) (h : K a (x.setRow g cs)) : o.wp P a x K Q := by
  have hr := run_storeVar_row (P := P) x g ty t old cs hg hi hs h1
  have hp' : a.eval (.tmp p) = .pointer (some ⟨g, 0, none⟩) := hp
  have hx' : a.eval (.tmp v) = .agg cs := hx
  unfold Oper.wp execOp
  simp only [ho, hp', hx', Instr.storeAt, Instr.sureAddr, Sem.run_bind, Sem.run_pure, Result.andThen_ok, hr]
  show K (a.put o.dst undef) (x.setRow g cs)
  rw [hdst]
  exact h

theorem op_move {o : Oper} {K : Act → World → Prop} {a : Act} {x : World} (s : Tmp) (ho : o.op = .move (.tmp s)) (h : K (a.put o.dst (a.tmps.getD s undef)) x) : o.wp P a x K Q := by
  unfold Oper.wp execOp
  simp only [ho]
  exact h

/-- What is known while the region runs: of each operation that is done, its answer; all other slots as they were. p, q: the two stores. -/
structure RInv (ops : Array Oper) (p q : Nat) (R : Bool → Bool → Nat → Value → World → Prop) (a0 : Act) (W : World) (L : Array Bool) (a : Act) (x : World) : Prop where
  df : a.defers = a0.defers
  sz : a.tmps.size = a0.tmps.size
  old : ∀ s, ops.toList.all (fun o => o.dst != some s) = true → a.tmps.getD s undef = a0.tmps.getD s undef
  rel : ∀ j s, L.getD j false = true → ((ops[j]?).bind (·.dst)) = some s → R (L.getD p false) (L.getD q false) j (a.tmps.getD s undef) x
  bel : Below W.heap.size W x

variable {p q : Nat} {R : Bool → Bool → Nat → Value → World → Prop} {a0 : Act} {W : World} {L : Array Bool} {a : Act} {x : World}

theorem RInv.start (ops : Array Oper) (p q : Nat) (R : Bool → Bool → Nat → Value → World → Prop) (a0 : Act) (W : World) : RInv ops p q R a0 W (Array.replicate ops.size false) a0 W.drew :=
  ⟨rfl, rfl, fun _ _ => rfl, fun j s h => by
    rw [Array.getD_eq_getD_getElem?, Array.getElem?_replicate] at h
    split at h <;> simp at h, bw_drew (Below.refl _ _)⟩

theorem getD_self {L : Array Bool} {i : Nat} (h : i < L.size) : (L.setIfInBounds i true).getD i false = true := by simp [Array.getD_eq_getD_getElem?, h]

theorem getD_other {L : Array Bool} {i j : Nat} (h : i ≠ j) (d : Bool) : (L.setIfInBounds i true).getD j d = L.getD j d := by simp [Array.getD_eq_getD_getElem?, h]

theorem tmps_self {T : Array Value} {s : Nat} (v : Value) (h : s < T.size) : (T.setIfInBounds s v).getD s undef = v := by simp [Array.getD_eq_getD_getElem?, h]

theorem tmps_other {T : Array Value} {s r : Nat} (v : Value) (h : s ≠ r) : (T.setIfInBounds s v).getD r undef = T.getD r undef := by simp [Array.getD_eq_getD_getElem?, h]

/-- No other operation answers into slot s. -/
def uniqB (ops : Array Oper) (s i : Nat) : Bool := (List.range ops.size).all (fun j => ((ops[j]?).bind (·.dst)) != some s || j == i)

theorem uniq_of {s i : Nat} (h : uniqB ops s i = true) (j : Nat) (hj : ((ops[j]?).bind (·.dst)) = some s) : j = i := by
  have hlt : j < ops.size := by
    rcases Nat.lt_or_ge j ops.size with g | g
    · exact g
    · rw [Array.getElem?_eq_none g] at hj; simp at hj
  unfold uniqB at h
  rw [List.all_eq_true] at h
  have := h j (List.mem_range.2 hlt)
  rw [hj] at this
  simpa using this

/-- An operation that answers. -/
theorem RInv.val (h : RInv ops p q R a0 W L a x) (i s : Nat) (v : Value) (x' : World) (hp : i ≠ p) (hq : i ≠ q) (hi : ((ops[i]?).bind (·.dst)) = some s) (hs : s < a0.tmps.size) (hd : (ops.toList.all (fun o => o.dst != some s)) = false) (hu : uniqB ops s i = true)
    (hb : Below x.heap.size x x') (hv : R (L.getD p false) (L.getD q false) i v x') (hm : ∀ b c j u, R b c j u x → R b c j u x') : RInv ops p q R a0 W (L.setIfInBounds i true) (a.put (some s) v) x' := by
  refine ⟨h.df, by show (a.tmps.setIfInBounds s v).size = _; rw [Array.size_setIfInBounds]; exact h.sz, fun r hr => ?_, fun j r hj hr => ?_, bw_call h.bel hb⟩
  · have hne : s ≠ r := fun e => by subst e; rw [hd] at hr; cases hr
    exact (tmps_other v hne).trans (h.old r hr)
  · rw [getD_other hp, getD_other hq]
    show R _ _ j ((a.tmps.setIfInBounds s v).getD r undef) x'
    by_cases e : i = j
    · subst e
      rw [hi] at hr
      cases hr
      rw [tmps_self v (by rw [h.sz]; exact hs)]
      exact hv
    · have hne : s ≠ r := fun e2 => by subst e2; exact e (uniq_of hu j hr).symm
      rw [tmps_other v hne]
      rw [getD_other e] at hj
      exact hm _ _ j _ (h.rel j r hj hr)

/-- A frame whose slots in S are put anew. -/
def Act.puts (a : Act) (f : Nat → Value) : List Nat → Act
  | [] => a
  | s :: S => Act.puts (a.put (some s) (f s)) f S

theorem puts_defers (f : Nat → Value) : ∀ (S : List Nat) (a : Act), (Act.puts a f S).defers = a.defers
  | [], a => rfl
  | s :: S, a => puts_defers f S (a.put (some s) (f s))

theorem puts_size (f : Nat → Value) : ∀ (S : List Nat) (a : Act), (Act.puts a f S).tmps.size = a.tmps.size
  | [], a => rfl
  | s :: S, a => (puts_size f S (a.put (some s) (f s))).trans (by show (a.tmps.setIfInBounds s (f s)).size = _; rw [Array.size_setIfInBounds])

theorem puts_at (f : Nat → Value) : ∀ (S : List Nat) (a : Act) (r : Nat), r < a.tmps.size → (Act.puts a f S).tmps.getD r undef = if r ∈ S then f r else a.tmps.getD r undef
  | [], a, r, h => by simp [Act.puts]
  | s :: S, a, r, h => by
    have h2 : r < (a.put (some s) (f s)).tmps.size := by show r < (a.tmps.setIfInBounds s (f s)).size; rw [Array.size_setIfInBounds]; exact h
    rw [Act.puts, puts_at f S _ r h2]
    by_cases hS : r ∈ S
    · rw [if_pos hS, if_pos (List.mem_cons_of_mem _ hS)]
    · rw [if_neg hS]
      show (a.tmps.setIfInBounds s (f s)).getD r undef = _
      by_cases e : s = r
      · subst e
        rw [tmps_self _ h, if_pos (List.mem_cons_self ..)]
      · rw [tmps_other _ e, if_neg (fun hm => by rcases List.mem_cons.1 hm with rfl | hm; exact e rfl; exact hS hm)]

theorem arr_ext {T U : Array Value} (hs : T.size = U.size) (h : ∀ r, r < T.size → T.getD r undef = U.getD r undef) : T = U := by
  refine Array.ext hs (fun i h1 h2 => ?_)
  have := h i h1
  simpa [Array.getD_eq_getD_getElem?, h1, h2] using this

/-- The operations answer into the slots of S alone. -/
def frameB (ops : Array Oper) (S : List Nat) (n : Nat) : Bool := (List.range n).all (fun s => S.contains s || ops.toList.all (fun o => o.dst != some s))

theorem frame_of {S : List Nat} {n : Nat} (h : frameB ops S n = true) (s : Nat) (hs : s < n) (hm : s ∉ S) : ops.toList.all (fun o => o.dst != some s) = true := by
  unfold frameB at h
  rw [List.all_eq_true] at h
  have := h s (List.mem_range.2 hs)
  rw [Bool.or_eq_true] at this
  rcases this with h1 | h1
  · exact absurd (List.contains_iff_mem.1 h1) hm
  · exact h1

theorem RInv.frame (h : RInv ops p q R a0 W L a x) (S : List Nat) (hS : frameB ops S a0.tmps.size = true) : a = Act.puts a0 (fun s => a.tmps.getD s undef) S := by
  have hd : a.defers = (Act.puts a0 (fun s => a.tmps.getD s undef) S).defers := by rw [puts_defers]; exact h.df
  have ht : a.tmps = (Act.puts a0 (fun s => a.tmps.getD s undef) S).tmps := by
    refine arr_ext (by rw [puts_size]; exact h.sz) (fun r hr => ?_)
    rw [puts_at _ S a0 r (by rw [← h.sz]; exact hr)]
    by_cases hm : r ∈ S
    · rw [if_pos hm]
    · rw [if_neg hm]
      exact h.old r (frame_of hS r (by rw [← h.sz]; exact hr) hm)
  generalize Act.puts a0 (fun s => a.tmps.getD s undef) S = b at hd ht
  cases a
  cases b
  simp only at hd ht
  rw [hd, ht]

end
end Go.Proofs.Ytgabhnhfomekfaa

