/-
  Contracts and plain laws, one chapter behind the other.
-/
import Derived.Handy
import Derived.Laws.IdiomStrings
import Derived.Laws.OwnMore
import Derived.OwnWalk
import Derived.Deep.RegionLaw
import Derived.Deep.DeepCutAuto
import Derived.Test.YtpmoefagpglddaaM01
import Derived.Test.YtpmoefagpglddaaM02
import Derived.Test.YtpmoefagpglddaaM03
namespace Go.Proofs.Ytpmoefagpglddaa
open Go.RowKit

set_option linter.unusedVariables false

set_option maxRecDepth 100000


section
variable {P : Program} {ops : Array Oper} {Q : Exit → Act → World → Prop}
theorem wpOp_of {i : Nat} {o : Oper} {K : Act → World → Prop} {a : Act} {x : World} (ho : ops[i]? = some o) (hg : o.guard = none) (h : o.wp P a x K Q) : wpOp P ops Q i K a x := by
  unfold wpOp
  rw [ho]
  simp only
  rw [if_pos (by simp [Region.wanted, hg])]
  exact .inl h

theorem op_load {o : Oper} {K : Act → World → Prop} {a : Act} {x : World} (t : TypeId) (p : Tmp) (ho : o.op = .load t (.tmp p)) (g : Nat) (hp : a.tmps.getD p undef = .pointer (some ⟨g, 0, none⟩)) (cs : Array Value) (ty : TypeId) (fr : Nat × Nat) (hg : x.heap[g]? = some (.cells cs ty fr)) (d : TypeDesc) (hu : P.underlying t = some d)
    (hd : (match d with | .struct _ | .array _ _ => true | _ => false) = true) (hi : (P.info? t).map (·.size) = some cs.size) (h : K (a.put o.dst (.agg cs)) x) : o.wp P a x K Q := by
  have hr := run_loadVar_row (P := P) x g ty t cs fr d hg hu hd hi
  have hp' : a.eval (.tmp p) = .pointer (some ⟨g, 0, none⟩) := hp
  unfold Oper.wp execOp
  simp only [ho, hp', Instr.loadAt, Instr.sureAddr, Sem.run_bind, Sem.run_pure, Result.andThen_ok, hr]
  exact h

theorem op_store {o : Oper} {K : Act → World → Prop} {a : Act} {x : World} (t : TypeId) (p v : Tmp) (ho : o.op = .store t (.tmp p) (.tmp v)) (hdst : o.dst = none) (g : Nat) (hp : a.tmps.getD p undef = .pointer (some ⟨g, 0, none⟩)) (cs : Array Value) (hx : a.tmps.getD v undef = .agg cs) (old : Array Value) (ty : TypeId) (hg : x.heap[g]? = some (.cells old ty (0, 0)))
    (hi : (P.info? t).map (·.size) = some cs.size) (hs : old.size = cs.size) (h1 : cs.all (·.oneCell') = true) (h : K a (x.setRow g cs)) : o.wp P a x K Q := by
  have hr := run_storeVar_row (P := P) x g ty t old cs hg hi hs h1
  have hp' : a.eval (.tmp p) = .pointer (some ⟨g, 0, none⟩) := hp
  have hx' : a.eval (.tmp v) = .agg cs := hx
  unfold Oper.wp execOp
  simp only [ho, hp', hx', Instr.storeAt, Instr.sureAddr, Sem.run_bind, Sem.run_pure, Result.andThen_ok, hr]
  show K (a.put o.dst undef) (x.setRow g cs)
  rw [hdst]
  exact h

theorem op_move {o : Oper} {K : Act → World → Prop} {a : Act} {x : World} (s : Tmp) (ho : o.op = .move (.tmp s)) (h : K (a.put o.dst (a.tmps.getD s undef)) x) : o.wp P a x K Q := by
  unfold Oper.wp execOp
  simp only [ho]
  exact h

/-- What is known while the region runs: of each operation that is done, its answer; all other slots as they were. p, q: the two stores. -/
structure RInv (ops : Array Oper) (p q : Nat) (R : Bool → Bool → Nat → Value → World → Prop) (a0 : Act) (W : World) (L : Array Bool) (a : Act) (x : World) : Prop where
  df : a.defers = a0.defers
  sz : a.tmps.size = a0.tmps.size
  old : ∀ s, ops.toList.all (fun o => o.dst != some s) = true → a.tmps.getD s undef = a0.tmps.getD s undef
  rel : ∀ j s, L.getD j false = true → ((ops[j]?).bind (·.dst)) = some s → R (L.getD p false) (L.getD q false) j (a.tmps.getD s undef) x
  bel : Below W.heap.size W x

variable {p q : Nat} {R : Bool → Bool → Nat → Value → World → Prop} {a0 : Act} {W : World} {L : Array Bool} {a : Act} {x : World}
theorem RInv.start (ops : Array Oper) (p q : Nat) (R : Bool → Bool → Nat → Value → World → Prop) (a0 : Act) (W : World) : RInv ops p q R a0 W (Array.replicate ops.size false) a0 W.drew :=
  ⟨rfl, rfl, fun _ _ => rfl, fun j s h => by
    rw [Array.getD_eq_getD_getElem?, Array.getElem?_replicate] at h
    split at h <;> simp at h, bw_drew (Below.refl _ _)⟩

theorem getD_self {L : Array Bool} {i : Nat} (h : i < L.size) : (L.setIfInBounds i true).getD i false = true := by simp [Array.getD_eq_getD_getElem?, h]

theorem getD_other {L : Array Bool} {i j : Nat} (h : i ≠ j) (d : Bool) : (L.setIfInBounds i true).getD j d = L.getD j d := by simp [Array.getD_eq_getD_getElem?, h]

theorem tmps_self {T : Array Value} {s : Nat} (v : Value) (h : s < T.size) : (T.setIfInBounds s v).getD s undef = v := by simp [Array.getD_eq_getD_getElem?, h]

theorem tmps_other {T : Array Value} {s r : Nat} (v : Value) (h : s ≠ r) : (T.setIfInBounds s v).getD r undef = T.getD r undef := by simp [Array.getD_eq_getD_getElem?, h]

/-- No other operation answers into slot s. -/
def uniqB (ops : Array Oper) (s i : Nat) : Bool := (List.range ops.size).all (fun j => ((ops[j]?).bind (·.dst)) != some s || j == i)

theorem uniq_of {s i : Nat} (h : uniqB ops s i = true) (j : Nat) (hj : ((ops[j]?).bind (·.dst)) = some s) : j = i := by
  have hlt : j < ops.size := by
    rcases Nat.lt_or_ge j ops.size with g | g
    · exact g
    · rw [Array.getElem?_eq_none g] at hj; simp at hj
  unfold uniqB at h
  rw [List.all_eq_true] at h
  have := h j (List.mem_range.2 hlt)
  rw [hj] at this
  simpa using this

/-- An operation that answers. -/
theorem RInv.val (h : RInv ops p q R a0 W L a x) (i s : Nat) (v : Value) (x' : World) (hp : i ≠ p) (hq : i ≠ q) (hi : ((ops[i]?).bind (·.dst)) = some s) (hs : s < a0.tmps.size) (hd : (ops.toList.all (fun o => o.dst != some s)) = false) (hu : uniqB ops s i = true)
    (hb : Below x.heap.size x x') (hv : R (L.getD p false) (L.getD q false) i v x') (hm : ∀ b c j u, R b c j u x → R b c j u x') : RInv ops p q R a0 W (L.setIfInBounds i true) (a.put (some s) v) x' := by
  refine ⟨h.df, by show (a.tmps.setIfInBounds s v).size = _; rw [Array.size_setIfInBounds]; exact h.sz, fun r hr => ?_, fun j r hj hr => ?_, bw_call h.bel hb⟩
  · have hne : s ≠ r := fun e => by subst e; rw [hd] at hr; cases hr
    exact (tmps_other v hne).trans (h.old r hr)
  · rw [getD_other hp, getD_other hq]
    show R _ _ j ((a.tmps.setIfInBounds s v).getD r undef) x'
    by_cases e : i = j
    · subst e
      rw [hi] at hr
      cases hr
      rw [tmps_self v (by rw [h.sz]; exact hs)]
      exact hv
    · have hne : s ≠ r := fun e2 => by subst e2; exact e (uniq_of hu j hr).symm
      rw [tmps_other v hne]
      rw [getD_other e] at hj
      exact hm _ _ j _ (h.rel j r hj hr)

/-- A frame whose slots in S are put anew. -/
def Act.puts (a : Act) (f : Nat → Value) : List Nat → Act
  | [] => a
  | s :: S => Act.puts (a.put (some s) (f s)) f S

theorem puts_defers (f : Nat → Value) : ∀ (S : List Nat) (a : Act), (Act.puts a f S).defers = a.defers
  | [], a => rfl
  | s :: S, a => puts_defers f S (a.put (some s) (f s))

theorem puts_size (f : Nat → Value) : ∀ (S : List Nat) (a : Act), (Act.puts a f S).tmps.size = a.tmps.size
  | [], a => rfl
  | s :: S, a => (puts_size f S (a.put (some s) (f s))).trans (by show (a.tmps.setIfInBounds s (f s)).size = _; rw [Array.size_setIfInBounds])

theorem puts_at (f : Nat → Value) : ∀ (S : List Nat) (a : Act) (r : Nat), r < a.tmps.size → (Act.puts a f S).tmps.getD r undef = if r ∈ S then f r else a.tmps.getD r undef
  | [], a, r, h => by simp [Act.puts]
  | s :: S, a, r, h => by
    have h2 : r < (a.put (some s) (f s)).tmps.size := by show r < (a.tmps.setIfInBounds s (f s)).size; rw [Array.size_setIfInBounds]; exact h
    rw [Act.puts, puts_at f S _ r h2]
    by_cases hS : r ∈ S
    · rw [if_pos hS, if_pos (List.mem_cons_of_mem _ hS)]
    · rw [if_neg hS]
      show (a.tmps.setIfInBounds s (f s)).getD r undef = _
      by_cases e : s = r
      · subst e
        rw [tmps_self _ h, if_pos (List.mem_cons_self ..)]
      · rw [tmps_other _ e, if_neg (fun hm => by rcases List.mem_cons.1 hm with rfl | hm; exact e rfl; exact hS hm)]

theorem arr_ext {T U : Array Value} (hs : T.size = U.size) (h : ∀ r, r < T.size → T.getD r undef = U.getD r undef) : T = U := by
  refine Array.ext hs (fun i h1 h2 => ?_)
  have := h i h1
  simpa [Array.getD_eq_getD_getElem?, h1, h2] using this

/-- The operations answer into the slots of S alone. -/
def frameB (ops : Array Oper) (S : List Nat) (n : Nat) : Bool := (List.range n).all (fun s => S.contains s || ops.toList.all (fun o => o.dst != some s))

theorem frame_of {S : List Nat} {n : Nat} (h : frameB ops S n = true) (s : Nat) (hs : s < n) (hm : s ∉ S) : ops.toList.all (fun o => o.dst != some s) = true := by
  unfold frameB at h
  rw [List.all_eq_true] at h
  have := h s (List.mem_range.2 hs)
  rw [Bool.or_eq_true] at this
  rcases this with h1 | h1
  · exact absurd (List.contains_iff_mem.1 h1) hm
  · exact h1

theorem RInv.frame (h : RInv ops p q R a0 W L a x) (S : List Nat) (hS : frameB ops S a0.tmps.size = true) : a = Act.puts a0 (fun s => a.tmps.getD s undef) S := by
  have hd : a.defers = (Act.puts a0 (fun s => a.tmps.getD s undef) S).defers := by rw [puts_defers]; exact h.df
  have ht : a.tmps = (Act.puts a0 (fun s => a.tmps.getD s undef) S).tmps := by
    refine arr_ext (by rw [puts_size]; exact h.sz) (fun r hr => ?_)
    rw [puts_at _ S a0 r (by rw [← h.sz]; exact hr)]
    by_cases hm : r ∈ S
    · rw [if_pos hm]
    · rw [if_neg hm]
      exact h.old r (frame_of hS r (by rw [← h.sz]; exact hr) hm)
  generalize Act.puts a0 (fun s => a.tmps.getD s undef) S = b at hd ht
  cases a
  cases b
  simp only at hd ht
  rw [hd, ht]

end
end Go.Proofs.Ytpmoefagpglddaa

namespace Go.Proofs.Ytpmoefagpglddaa
open Go.RowKit

set_option linter.unusedVariables false

set_option maxRecDepth 100000


theorem wpOp_guard {P : Program} {ops : Array Oper} {Q : Exit → Act → World → Prop} {i j s : Nat} {o : Oper} {K : Act → World → Prop} {a : Act} {x : World} {want b : Bool} (ho : ops[i]? = some o) (hg : o.guard = some (j, want)) (hj : ((ops[j]?).bind (·.dst)) = some s) (hs : a.tmps[s]? = some (.bool b))
    (h1 : b = want → o.wp P a x K Q) (h2 : b ≠ want → K (a.put o.dst undef) x) : wpOp P ops Q i K a x := by
  unfold wpOp
  rw [ho]
  simp only
  have hy : yielded ops a.tmps j = some b := by simp only [yielded, hj, Option.bind_some, hs]
  have hw : Region.wanted o (yielded ops a.tmps) = (b == want) := by simp [Region.wanted, hg, hy]
  rw [hw]
  by_cases e : b = want
  · rw [if_pos (by simpa using e)]
    exact .inl (h1 e)
  · rw [if_neg (by simpa using e)]
    exact h2 e

/-- What is known while the region runs. p: the store; G: what it makes of the world. -/
structure R1 (ops : Array Oper) (p : Nat) (R : Nat → Value → Prop) (a0 : Act) (W : World) (G : World → World) (L : Array Bool) (a : Act) (x : World) : Prop where
  df : a.defers = a0.defers
  sz : a.tmps.size = a0.tmps.size
  old : ∀ s, ops.toList.all (fun o => o.dst != some s) = true → a.tmps.getD s undef = a0.tmps.getD s undef
  rel : ∀ j s, L.getD j false = true → ((ops[j]?).bind (·.dst)) = some s → R j (a.tmps.getD s undef)
  bel : L.getD p false = false → Below W.heap.size W x
  fin : L.getD p false = true → ∃ X, Below W.heap.size W X ∧ x = G X

theorem R1.start (ops : Array Oper) (p : Nat) (R : Nat → Value → Prop) (a0 : Act) (W : World) (G : World → World) : R1 ops p R a0 W G (Array.replicate ops.size false) a0 W.drew := by
  have hn : ∀ j, (Array.replicate ops.size false).getD j false = false := fun j => by
    rw [Array.getD_eq_getD_getElem?, Array.getElem?_replicate]
    split <;> rfl
  exact ⟨rfl, rfl, fun _ _ => rfl, (fun j s h => by rw [hn] at h; cases h), fun _ => bw_drew (Below.refl _ _), (fun h => by rw [hn] at h; cases h)⟩

theorem R1.val {ops : Array Oper} {p : Nat} {R : Nat → Value → Prop} {a0 : Act} {W : World} {G : World → World} {L : Array Bool} {a : Act} {x : World} (h : R1 ops p R a0 W G L a x) (i s : Nat) (v : Value) (x' : World) (hp : i ≠ p) (hi : ((ops[i]?).bind (·.dst)) = some s) (hs : s < a0.tmps.size) (hd : (ops.toList.all (fun o => o.dst != some s)) = false) (hu : uniqB ops s i = true)
    (hb : (L.getD p false = false ∧ Below x.heap.size x x') ∨ x' = x) (hv : R i v) : R1 ops p R a0 W G (L.setIfInBounds i true) (a.put (some s) v) x' := by
  refine ⟨h.df, by show (a.tmps.setIfInBounds s v).size = _; rw [Array.size_setIfInBounds]; exact h.sz, fun r hr => ?_, fun j r hj hr => ?_, fun hl => ?_, fun hl => ?_⟩
  · have hne : s ≠ r := fun e => by subst e; rw [hd] at hr; cases hr
    exact (tmps_other v hne).trans (h.old r hr)
  · show R j ((a.tmps.setIfInBounds s v).getD r undef)
    by_cases e : i = j
    · subst e
      rw [hi] at hr
      cases hr
      rw [tmps_self v (by rw [h.sz]; exact hs)]
      exact hv
    · have hne : s ≠ r := fun e2 => by subst e2; exact e (uniq_of hu j hr).symm
      rw [tmps_other v hne]
      rw [getD_other e] at hj
      exact h.rel j r hj hr
  · rw [getD_other hp] at hl
    rcases hb with ⟨-, hb⟩ | rfl
    · exact bw_call (h.bel hl) hb
    · exact h.bel hl
  · rw [getD_other hp] at hl
    rcases hb with ⟨hb, -⟩ | rfl
    · rw [hb] at hl; cases hl
    · exact h.fin hl

theorem R1.store {ops : Array Oper} {p : Nat} {R : Nat → Value → Prop} {a0 : Act} {W : World} {G : World → World} {L : Array Bool} {a : Act} {x : World} (h : R1 ops p R a0 W G L a x) (hp : p < L.size) (hn : L.getD p false = false) (hd : ((ops[p]?).bind (·.dst)) = none) : R1 ops p R a0 W G (L.setIfInBounds p true) a (G x) := by
  refine ⟨h.df, h.sz, h.old, fun j r hj hr => ?_, fun hl => ?_, fun _ => ⟨x, h.bel hn, rfl⟩⟩
  · by_cases e : p = j
    · subst e; rw [hd] at hr; cases hr
    · rw [getD_other e] at hj
      exact h.rel j r hj hr
  · rw [getD_self hp] at hl; cases hl

theorem R1.frame {ops : Array Oper} {p : Nat} {R : Nat → Value → Prop} {a0 : Act} {W : World} {G : World → World} {L : Array Bool} {a : Act} {x : World} (h : R1 ops p R a0 W G L a x) (S : List Nat) (hS : frameB ops S a0.tmps.size = true) : a = Act.puts a0 (fun s => a.tmps.getD s undef) S := by
  have hd : a.defers = (Act.puts a0 (fun s => a.tmps.getD s undef) S).defers := by rw [puts_defers]; exact h.df
  have ht : a.tmps = (Act.puts a0 (fun s => a.tmps.getD s undef) S).tmps := by
    refine arr_ext (by rw [puts_size]; exact h.sz) (fun r hr => ?_)
    rw [puts_at _ S a0 r (by rw [← h.sz]; exact hr)]
    by_cases hm : r ∈ S
    · rw [if_pos hm]
    · rw [if_neg hm]
      exact h.old r (frame_of hS r (by rw [← h.sz]; exact hr) hm)
  generalize Act.puts a0 (fun s => a.tmps.getD s undef) S = b at hd ht
  cases a
  cases b
  simp only at hd ht
  rw [hd, ht]

theorem op_loadAt {P : Program} {Q : Exit → Act → World → Prop} {o : Oper} {K : Act → World → Prop} {a : Act} {x : World} (t : TypeId) (p : Tmp) (ho : o.op = .load t (.tmp p)) (ad : Addr) (hp : a.tmps.getD p undef = .pointer (some ad)) (v : Value) (hr : (Instr.loadAt t (.pointer (some ad))).run P x = .ok v x) (h : K (a.put o.dst v) x) : o.wp P a x K Q := by
  have hp' : a.eval (.tmp p) = .pointer (some ad) := hp
  unfold Oper.wp execOp
  simp only [ho, hp', Sem.run_bind, Sem.run_pure, Result.andThen_ok, hr]
  exact h

theorem op_assign {P : Program} {Q : Exit → Act → World → Prop} {o : Oper} {K : Act → World → Prop} {a : Act} {x : World} (s : Tmp) (ho : o.op = .assign (.tmp s)) (h : K (a.put o.dst (a.tmps.getD s undef)) x) : o.wp P a x K Q := by
  unfold Oper.wp execOp
  simp only [ho]
  exact h

theorem getD_get {T : Array Value} {s : Nat} {v : Value} (h : T.getD s undef = v) (hs : s < T.size) : T[s]? = some v := by
  rw [Array.getElem?_eq_getElem hs]
  simpa [Array.getD_eq_getD_getElem?, hs] using h
end Go.Proofs.Ytpmoefagpglddaa

namespace Go.Proofs.Ytpmoefagpglddaa
open Go.RowKit

set_option linter.unusedVariables false

set_option maxRecDepth 100000


/-- One operation waits for the next, and so on. -/
def pathB (md : Region.Mode) (ops : Array Oper) : Nat → List Nat → Bool
  | _, [] => true
  | p, i :: l => depB md ops p i && pathB md ops i l

theorem Down.path {md : Region.Mode} {ops : Array Oper} {L : Array Bool} (h : Down md ops L) : ∀ (l : List Nat) (p : Nat), pathB md ops p l = true → L.getD p false = true → L.getD (l.getLastD p) false = true
  | [], p, _, hp => hp
  | i :: l, p, hl, hp => by
    simp only [pathB, Bool.and_eq_true] at hl
    have := Down.path h l i hl.2 (h p i hp hl.1)
    rw [List.getLastD_cons]
    exact this

theorem Down.no {md : Region.Mode} {ops : Array Oper} {L : Array Bool} (h : Down md ops L) (p : Nat) (l : List Nat) {i : Nat} (hn : L.getD i true = false) (hp : pathB md ops p l = true) (hi : l.getLastD p = i) : L.getD p false = false := by
  rw [Bool.eq_false_iff]
  intro h1
  have h2 := h.path l p hp h1
  rw [hi] at h2
  have h3 := not_done hn
  rw [h2] at h3
  cases h3

/-- p: the store; sB, sV: the slots of its address and of its value. -/
structure RX (ops : Array Oper) (p sB sV : Nat) (R : Nat → Value → World → Prop) (a0 : Act) (W : World) (L : Array Bool) (a : Act) (x X : World) : Prop where
  df : a.defers = a0.defers
  sz : a.tmps.size = a0.tmps.size
  old : ∀ s, ops.toList.all (fun o => o.dst != some s) = true → a.tmps.getD s undef = a0.tmps.getD s undef
  rel : ∀ j s, L.getD j false = true → ((ops[j]?).bind (·.dst)) = some s → R j (a.tmps.getD s undef) X
  bel : Below W.heap.size W X
  pre : L.getD p false = false → x = X
  fin : L.getD p false = true → ∃ n zs, a.tmps.getD sB undef = .pointer (some ⟨n, 0, none⟩) ∧ a.tmps.getD sV undef = .agg zs ∧ x = X.setRow n zs

def RXs (ops : Array Oper) (p sB sV : Nat) (R : Nat → Value → World → Prop) (a0 : Act) (W : World) (L : Array Bool) (a : Act) (x : World) : Prop := ∃ X, RX ops p sB sV R a0 W L a x X

theorem RXs.start (ops : Array Oper) (p sB sV : Nat) (R : Nat → Value → World → Prop) (a0 : Act) (W : World) : RXs ops p sB sV R a0 W (Array.replicate ops.size false) a0 W.drew := by
  have hn : ∀ j, (Array.replicate ops.size false).getD j false = false := fun j => by
    rw [Array.getD_eq_getD_getElem?, Array.getElem?_replicate]
    split <;> rfl
  exact ⟨W.drew, rfl, rfl, fun _ _ => rfl, (fun j s h => by rw [hn] at h; cases h), bw_drew (Below.refl _ _), fun _ => rfl, (fun h => by rw [hn] at h; cases h)⟩

/-- An operation ahead of the store: it answers, and may make memory. -/
theorem RX.val {ops : Array Oper} {p sB sV : Nat} {R : Nat → Value → World → Prop} {a0 : Act} {W : World} {L : Array Bool} {a : Act} {x X : World} (h : RX ops p sB sV R a0 W L a x X) (i s : Nat) (v : Value) (x' : World) (hp : i ≠ p) (hi : ((ops[i]?).bind (·.dst)) = some s) (hs : s < a0.tmps.size) (hd : (ops.toList.all (fun o => o.dst != some s)) = false) (hu : uniqB ops s i = true)
    (hn : L.getD p false = false) (hb : Below x.heap.size x x') (hv : R i v x') (hm : ∀ j u, R j u x → R j u x') : RXs ops p sB sV R a0 W (L.setIfInBounds i true) (a.put (some s) v) x' := by
  obtain rfl := h.pre hn
  refine ⟨x', h.df, by show (a.tmps.setIfInBounds s v).size = _; rw [Array.size_setIfInBounds]; exact h.sz, fun r hr => ?_, fun j r hj hr => ?_, bw_call h.bel hb, fun _ => rfl, fun hl => by rw [getD_other hp, hn] at hl; cases hl⟩
  · have hne : s ≠ r := fun e => by subst e; rw [hd] at hr; cases hr
    exact (tmps_other v hne).trans (h.old r hr)
  · show R j ((a.tmps.setIfInBounds s v).getD r undef) x'
    by_cases e : i = j
    · subst e
      rw [hi] at hr
      cases hr
      rw [tmps_self v (by rw [h.sz]; exact hs)]
      exact hv
    · have hne : s ≠ r := fun e2 => by subst e2; exact e (uniq_of hu j hr).symm
      rw [tmps_other v hne]
      rw [getD_other e] at hj
      exact hm _ _ (h.rel j r hj hr)

/-- An operation that answers and makes nothing, ahead of the store or behind it. -/
theorem RX.put {ops : Array Oper} {p sB sV : Nat} {R : Nat → Value → World → Prop} {a0 : Act} {W : World} {L : Array Bool} {a : Act} {x X : World} (h : RX ops p sB sV R a0 W L a x X) (i s : Nat) (v : Value) (hp : i ≠ p) (hi : ((ops[i]?).bind (·.dst)) = some s) (hs : s < a0.tmps.size) (hd : (ops.toList.all (fun o => o.dst != some s)) = false) (hu : uniqB ops s i = true)
    (hB : s ≠ sB) (hV : s ≠ sV) (hv : R i v X) : RXs ops p sB sV R a0 W (L.setIfInBounds i true) (a.put (some s) v) x := by
  refine ⟨X, h.df, by show (a.tmps.setIfInBounds s v).size = _; rw [Array.size_setIfInBounds]; exact h.sz, fun r hr => ?_, fun j r hj hr => ?_, h.bel, fun hl => h.pre (by rwa [getD_other hp] at hl), fun hl => ?_⟩
  · have hne : s ≠ r := fun e => by subst e; rw [hd] at hr; cases hr
    exact (tmps_other v hne).trans (h.old r hr)
  · show R j ((a.tmps.setIfInBounds s v).getD r undef) X
    by_cases e : i = j
    · subst e
      rw [hi] at hr
      cases hr
      rw [tmps_self v (by rw [h.sz]; exact hs)]
      exact hv
    · have hne : s ≠ r := fun e2 => by subst e2; exact e (uniq_of hu j hr).symm
      rw [tmps_other v hne]
      rw [getD_other e] at hj
      exact h.rel j r hj hr
  · rw [getD_other hp] at hl
    obtain ⟨n, zs, e1, e2, e3⟩ := h.fin hl
    exact ⟨n, zs, (tmps_other v hB).trans e1, (tmps_other v hV).trans e2, e3⟩

theorem RX.store {ops : Array Oper} {p sB sV : Nat} {R : Nat → Value → World → Prop} {a0 : Act} {W : World} {L : Array Bool} {a : Act} {x X : World} (h : RX ops p sB sV R a0 W L a x X) (hp : p < L.size) (hn : L.getD p false = false) (hd : ((ops[p]?).bind (·.dst)) = none) {n : Nat} {zs : Array Value} (hB : a.tmps.getD sB undef = .pointer (some ⟨n, 0, none⟩)) (hV : a.tmps.getD sV undef = .agg zs) : RXs ops p sB sV R a0 W (L.setIfInBounds p true) a (x.setRow n zs) := by
  obtain rfl := h.pre hn
  refine ⟨x, h.df, h.sz, h.old, fun j r hj hr => ?_, h.bel, fun hl => ?_, fun _ => ⟨n, zs, hB, hV, rfl⟩⟩
  · by_cases e : p = j
    · subst e; rw [hd] at hr; cases hr
    · rw [getD_other e] at hj
      exact h.rel j r hj hr
  · rw [getD_self hp] at hl; cases hl

theorem RX.frame {ops : Array Oper} {p sB sV : Nat} {R : Nat → Value → World → Prop} {a0 : Act} {W : World} {L : Array Bool} {a : Act} {x X : World} (h : RX ops p sB sV R a0 W L a x X) (S : List Nat) (hS : frameB ops S a0.tmps.size = true) : a = Act.puts a0 (fun s => a.tmps.getD s undef) S := by
  have hd : a.defers = (Act.puts a0 (fun s => a.tmps.getD s undef) S).defers := by rw [puts_defers]; exact h.df
  have ht : a.tmps = (Act.puts a0 (fun s => a.tmps.getD s undef) S).tmps := by
    refine arr_ext (by rw [puts_size]; exact h.sz) (fun r hr => ?_)
    rw [puts_at _ S a0 r (by rw [← h.sz]; exact hr)]
    by_cases hm : r ∈ S
    · rw [if_pos hm]
    · rw [if_neg hm]
      exact h.old r (frame_of hS r (by rw [← h.sz]; exact hr) hm)
  generalize Act.puts a0 (fun s => a.tmps.getD s undef) S = b at hd ht
  cases a
  cases b
  simp only at hd ht
  rw [hd, ht]

theorem row_upto {w : World} {g : Nat} {cs : Array Value} : Upto g w (w.setRow g cs) := by
  refine ⟨rfl, rfl, rfl, by simp [World.setRow], fun k hk hne => ?_⟩
  simp only [World.setRow, Array.getElem?_modify]
  rw [if_neg (fun e => hne e.symm)]
end Go.Proofs.Ytpmoefagpglddaa

namespace Go.Proofs.Ytpmoefagpglddaa
open Go.RowKit

set_option linter.unusedVariables false

set_option maxRecDepth 100000


/-- p: the store; sB, sV: the slots of its address and of its value. -/
structure RY (ops : Array Oper) (p sB sV : Nat) (R : Nat → Value → World → Prop) (a0 : Act) (W : World) (c : Nat) (ad : Option Addr) (len cap : Nat) (L : Array Bool) (a : Act) (x X : World) : Prop where
  df : a.defers = a0.defers
  sz : a.tmps.size = a0.tmps.size
  old : ∀ s, ops.toList.all (fun o => o.dst != some s) = true → a.tmps.getD s undef = a0.tmps.getD s undef
  rel : ∀ j s, L.getD j false = true → ((ops[j]?).bind (·.dst)) = some s → R j (a.tmps.getD s undef) X
  bel : Upto c W X
  cur : Cur X c ad len cap
  pre : L.getD p false = false → x = X
  fin : L.getD p false = true → ∃ n zs, a.tmps.getD sB undef = .pointer (some ⟨n, 0, none⟩) ∧ a.tmps.getD sV undef = .agg zs ∧ x = X.setRow n zs

def RYs (ops : Array Oper) (p sB sV : Nat) (R : Nat → Value → World → Prop) (a0 : Act) (W : World) (c : Nat) (ad : Option Addr) (len cap : Nat) (L : Array Bool) (a : Act) (x : World) : Prop := ∃ X, RY ops p sB sV R a0 W c ad len cap L a x X

theorem RYs.start (ops : Array Oper) (p sB sV : Nat) (R : Nat → Value → World → Prop) (a0 : Act) (W : World) {c : Nat} {ad : Option Addr} {len cap : Nat} (hc : Cur W c ad len cap) : RYs ops p sB sV R a0 W c ad len cap (Array.replicate ops.size false) a0 W.drew := by
  have hn : ∀ j, (Array.replicate ops.size false).getD j false = false := fun j => by
    rw [Array.getD_eq_getD_getElem?, Array.getElem?_replicate]
    split <;> rfl
  exact ⟨W.drew, rfl, rfl, fun _ _ => rfl, (fun j s h => by rw [hn] at h; cases h), (Upto.refl _ _).drew, hc.drew, fun _ => rfl, (fun h => by rw [hn] at h; cases h)⟩

/-- An operation ahead of the store: it answers, and may make memory. -/
theorem RY.val {ops : Array Oper} {p sB sV : Nat} {R : Nat → Value → World → Prop} {a0 : Act} {W : World} {c : Nat} {ad : Option Addr} {len cap : Nat} {L : Array Bool} {a : Act} {x X : World} (h : RY ops p sB sV R a0 W c ad len cap L a x X) (i s : Nat) (v : Value) (x' : World) (hp : i ≠ p) (hi : ((ops[i]?).bind (·.dst)) = some s) (hs : s < a0.tmps.size) (hd : (ops.toList.all (fun o => o.dst != some s)) = false) (hu : uniqB ops s i = true)
    (hn : L.getD p false = false) (hb : Upto c x x') (hcur : Cur x' c ad len cap) (hv : R i v x') (hm : ∀ j u, R j u x → R j u x') : RYs ops p sB sV R a0 W c ad len cap (L.setIfInBounds i true) (a.put (some s) v) x' := by
  obtain rfl := h.pre hn
  refine ⟨x', h.df, by show (a.tmps.setIfInBounds s v).size = _; rw [Array.size_setIfInBounds]; exact h.sz, fun r hr => ?_, fun j r hj hr => ?_, h.bel.trans hb, hcur, fun _ => rfl, fun hl => by rw [getD_other hp, hn] at hl; cases hl⟩
  · have hne : s ≠ r := fun e => by subst e; rw [hd] at hr; cases hr
    exact (tmps_other v hne).trans (h.old r hr)
  · show R j ((a.tmps.setIfInBounds s v).getD r undef) x'
    by_cases e : i = j
    · subst e
      rw [hi] at hr
      cases hr
      rw [tmps_self v (by rw [h.sz]; exact hs)]
      exact hv
    · have hne : s ≠ r := fun e2 => by subst e2; exact e (uniq_of hu j hr).symm
      rw [tmps_other v hne]
      rw [getD_other e] at hj
      exact hm _ _ (h.rel j r hj hr)

/-- An operation that answers and makes nothing, ahead of the store or behind it. -/
theorem RY.put {ops : Array Oper} {p sB sV : Nat} {R : Nat → Value → World → Prop} {a0 : Act} {W : World} {c : Nat} {ad : Option Addr} {len cap : Nat} {L : Array Bool} {a : Act} {x X : World} (h : RY ops p sB sV R a0 W c ad len cap L a x X) (i s : Nat) (v : Value) (hp : i ≠ p) (hi : ((ops[i]?).bind (·.dst)) = some s) (hs : s < a0.tmps.size) (hd : (ops.toList.all (fun o => o.dst != some s)) = false) (hu : uniqB ops s i = true)
    (hB : s ≠ sB) (hV : s ≠ sV) (hv : R i v X) : RYs ops p sB sV R a0 W c ad len cap (L.setIfInBounds i true) (a.put (some s) v) x := by
  refine ⟨X, h.df, by show (a.tmps.setIfInBounds s v).size = _; rw [Array.size_setIfInBounds]; exact h.sz, fun r hr => ?_, fun j r hj hr => ?_, h.bel, h.cur, fun hl => h.pre (by rwa [getD_other hp] at hl), fun hl => ?_⟩
  · have hne : s ≠ r := fun e => by subst e; rw [hd] at hr; cases hr
    exact (tmps_other v hne).trans (h.old r hr)
  · show R j ((a.tmps.setIfInBounds s v).getD r undef) X
    by_cases e : i = j
    · subst e
      rw [hi] at hr
      cases hr
      rw [tmps_self v (by rw [h.sz]; exact hs)]
      exact hv
    · have hne : s ≠ r := fun e2 => by subst e2; exact e (uniq_of hu j hr).symm
      rw [tmps_other v hne]
      rw [getD_other e] at hj
      exact h.rel j r hj hr
  · rw [getD_other hp] at hl
    obtain ⟨n, zs, e1, e2, e3⟩ := h.fin hl
    exact ⟨n, zs, (tmps_other v hB).trans e1, (tmps_other v hV).trans e2, e3⟩

theorem RY.store {ops : Array Oper} {p sB sV : Nat} {R : Nat → Value → World → Prop} {a0 : Act} {W : World} {c : Nat} {ad : Option Addr} {len cap : Nat} {L : Array Bool} {a : Act} {x X : World} (h : RY ops p sB sV R a0 W c ad len cap L a x X) (hp : p < L.size) (hn : L.getD p false = false) (hd : ((ops[p]?).bind (·.dst)) = none) {n : Nat} {zs : Array Value} (hB : a.tmps.getD sB undef = .pointer (some ⟨n, 0, none⟩)) (hV : a.tmps.getD sV undef = .agg zs) : RYs ops p sB sV R a0 W c ad len cap (L.setIfInBounds p true) a (x.setRow n zs) := by
  obtain rfl := h.pre hn
  refine ⟨x, h.df, h.sz, h.old, fun j r hj hr => ?_, h.bel, h.cur, fun hl => ?_, fun _ => ⟨n, zs, hB, hV, rfl⟩⟩
  · by_cases e : p = j
    · subst e; rw [hd] at hr; cases hr
    · rw [getD_other e] at hj
      exact h.rel j r hj hr
  · rw [getD_self hp] at hl; cases hl

theorem RY.frame {ops : Array Oper} {p sB sV : Nat} {R : Nat → Value → World → Prop} {a0 : Act} {W : World} {c : Nat} {ad : Option Addr} {len cap : Nat} {L : Array Bool} {a : Act} {x X : World} (h : RY ops p sB sV R a0 W c ad len cap L a x X) (S : List Nat) (hS : frameB ops S a0.tmps.size = true) : a = Act.puts a0 (fun s => a.tmps.getD s undef) S := by
  have hd : a.defers = (Act.puts a0 (fun s => a.tmps.getD s undef) S).defers := by rw [puts_defers]; exact h.df
  have ht : a.tmps = (Act.puts a0 (fun s => a.tmps.getD s undef) S).tmps := by
    refine arr_ext (by rw [puts_size]; exact h.sz) (fun r hr => ?_)
    rw [puts_at _ S a0 r (by rw [← h.sz]; exact hr)]
    by_cases hm : r ∈ S
    · rw [if_pos hm]
    · rw [if_neg hm]
      exact h.old r (frame_of hS r (by rw [← h.sz]; exact hr) hm)
  generalize Act.puts a0 (fun s => a.tmps.getD s undef) S = b at hd ht
  cases a
  cases b
  simp only at hd ht
  rw [hd, ht]
end Go.Proofs.Ytpmoefagpglddaa

namespace Go.Proofs.Ytpmoefagpglddaa
open Go.RowKit

set_option linter.unusedVariables false

set_option maxRecDepth 100000

theorem pick_cell {w w1 : World} {c : Nat} {cs : Array Value} {t : TypeId} (u : Upto c (w.alloc (.cells cs t)) w1) (hc : c < w.heap.size) (j : Nat) : w1.cell? ⟨w.heap.size, j, none⟩ = cs[j]? := by
  rw [u.cell (p := ⟨w.heap.size, j, none⟩) (by simp [go_sem]) (by simp; omega)]
  exact World.cell?_alloc_mark w cs t (0, 0) j

theorem big_any (x : Option Addr) (len cap : Nat) (w : World) (h : len ≤ maxLen) :
    Calls Try.prog 8 #[.slice x len cap] w fun e w' => e = .returned (.bool (decide (4096 < (len : Int)))) ∧ w' = w := by
  unfold maxLen at h
  go_enter Try.func8, Try.ntmps8
  go_wp2
  go_ret
  exact ⟨rfl, rfl⟩
end Go.Proofs.Ytpmoefagpglddaa

namespace Go.Proofs.Ytpmoefagpglddaa
open Go.RowKit

set_option linter.unusedVariables false

set_option maxRecDepth 100000

theorem cells_set (w : World) (g a : Nat) (l : List UInt8) (v : UInt8) (ha : a < l.length) (hc : ∀ j u, l[j]? = some u → w.cell? ⟨g, j, none⟩ = some (.int .u8 u.toNat)) :
    ∀ j u, (l.set a v)[j]? = some u → (w.setCell ⟨g, a, none⟩ (.int .u8 v.toNat)).cell? ⟨g, j, none⟩ = some (.int .u8 u.toNat) := by
  intro j u hj
  by_cases e : a = j
  · subst e
    rw [List.getElem?_set_self ha] at hj
    cases hj
    have h0 := hc a _ (List.getElem?_eq_getElem ha)
    simp [go_sem, h0]
  · rw [List.getElem?_set_ne e] at hj
    have h0 := hc j u hj
    simp [go_sem, h0]
end Go.Proofs.Ytpmoefagpglddaa

namespace Go.Proofs.Ytpmoefagpglddaa
open Go.RowKit

set_option linter.unusedVariables false

set_option maxRecDepth 100000


/-- The row that is bent: bytes in a block of the call's own. -/
structure Row8 (w : World) (base g : Nat) (l : List UInt8) : Prop where
  lo : base ≤ g
  hi : g < w.heap.size
  cell : ∀ j u, l[j]? = some u → w.cell? ⟨g, j, none⟩ = some (.int .u8 u.toNat)
  free : ∀ j, j < l.length → w.frozen? ⟨g, j, none⟩ = false

theorem Row8.upto {w w' : World} {base g c : Nat} {l : List UInt8} (h : Row8 w base g l) (u : Upto c w w') (hc : c < base) : Row8 w' base g l :=
  ⟨h.lo, Nat.lt_of_lt_of_le h.hi u.size, fun j x hj => (u.cell (p := ⟨g, j, none⟩) h.hi (by have := h.lo; simp; omega)).trans (h.cell j x hj), fun j hj => (u.frozen (p := ⟨g, j, none⟩) h.hi (by have := h.lo; simp; omega)).trans (h.free j hj)⟩

theorem Row8.take {w : World} {base g : Nat} {l : List UInt8} (h : Row8 w base g l) (k : Nat) : Row8 w base g (l.take k) :=
  ⟨h.lo, h.hi, fun j x hj => h.cell j x (by rw [List.getElem?_take] at hj; split at hj <;> simp_all), fun j hj => h.free j (by simp at hj; omega)⟩

theorem Row8.set {w : World} {base g k : Nat} {l : List UInt8} (h : Row8 w base g l) (v : UInt8) (hk : k < l.length) : Row8 (w.setCell ⟨g, k, none⟩ (.int .u8 v.toNat)) base g (l.set k v) :=
  ⟨h.lo, by have := h.hi; simpa [go_sem] using this, cells_set w g k l v hk h.cell, fun j hj => by have := h.free j (by simpa using hj); simpa [go_sem] using this⟩

def vals (l : List UInt8) : List Value := l.map fun u => Value.int .u8 u.toNat

theorem add_off (g a j : Nat) : (⟨g, a, none⟩ : Addr).add j = ⟨g, a + j, none⟩ := by unfold Addr.add; split <;> simp_all

/-- The cells of a part of the row, in every world that has its block. -/
theorem Row8.part {w W : World} {base g : Nat} {l : List UInt8} (h : Row8 w base g l) (hW : W.heap[g]? = w.heap[g]?) (a n : Nat) : ∀ j u, (vals ((l.drop a).take n))[j]? = some u → W.cell? ((⟨g, a, none⟩ : Addr).add j) = some u := by
  intro j u hj
  rw [add_off]
  simp only [vals, List.getElem?_map, Option.map_eq_some_iff] at hj
  obtain ⟨x, hx, rfl⟩ := hj
  rw [World.cell?_of_block (w := w) (by exact hW)]
  apply h.cell
  rw [List.getElem?_take] at hx
  split at hx
  · rw [List.getElem?_drop] at hx; exact hx
  · cases hx
end Go.Proofs.Ytpmoefagpglddaa

namespace Go.Proofs.Ytpmoefagpglddaa
open Go.RowKit

set_option linter.unusedVariables false


/-- While a reply is drawn: its box at nB, the answer's at the start's end. -/
structure RepSt (c : Nat) (x : Option Addr) (len cap nB : Nat) (w W : World) (a v : Int) : Prop where
  kB : W.heap[nB]? = some (.cells #[.int .i64 a, .int .i64 v] 29 (0, 0))
  kR : W.heap[w.heap.size]? = some (.cells #[.int .i64 0, .int .i64 0] 29 (0, 0))
  kc : Cur W c x len cap
  u : Upto c w W
  lt : c < w.heap.size
  nb : w.heap.size < nB
  fa : -1 ≤ a ∧ a ≤ 10
  fv : -1 ≤ v ∧ v ≤ 1001

theorem RepSt.step {c nB : Nat} {x : Option Addr} {len cap : Nat} {w W W' : World} {a v : Int} (h : RepSt c x len cap nB w W a v) (u : Upto c W W') (kc : Cur W' c x len cap) : RepSt c x len cap nB w W' a v := by
  have hlt := h.lt
  have hnb := h.nb
  exact ⟨(u.block _ (heap_lt h.kB) (by omega)).trans h.kB, (u.block _ (heap_lt h.kR) (by omega)).trans h.kR, kc, h.u.trans u, h.lt, h.nb, h.fa, h.fv⟩

theorem RepSt.alloc {c nB : Nat} {x : Option Addr} {len cap : Nat} {w W : World} {a v : Int} (h : RepSt c x len cap nB w W a v) (b : Obj) : RepSt c x len cap nB w (W.alloc b) a v :=
  h.step ((Upto.refl c W).alloc b) (h.kc.alloc b)

theorem RepSt.put0 {c nB : Nat} {x : Option Addr} {len cap : Nat} {w W : World} {a v : Int} (h : RepSt c x len cap nB w W a v) (z : Int) (hz : -1 ≤ z ∧ z ≤ 10) : RepSt c x len cap nB w (W.setCell ⟨nB, 0, none⟩ (.int .i64 z)) z v := by
  have hlt := h.lt
  have hnb := h.nb
  have uu : Upto nB W (W.setCell ⟨nB, 0, none⟩ (.int .i64 z)) := (Upto.refl nB W).setCell ⟨nB, 0, none⟩ (.inl rfl) _
  exact ⟨set_0 h.kB _, (uu.block _ (heap_lt h.kR) (by omega)).trans h.kR, h.kc.same (uu.toBelow h.kc.lt (by omega)), h.u.setCell ⟨nB, 0, none⟩ (.inr (Nat.le_of_lt h.nb)) _, h.lt, h.nb, hz, h.fv⟩

theorem RepSt.put1 {c nB : Nat} {x : Option Addr} {len cap : Nat} {w W : World} {a v : Int} (h : RepSt c x len cap nB w W a v) (z : Int) (hz : -1 ≤ z ∧ z ≤ 1001) : RepSt c x len cap nB w (W.setCell ⟨nB, 1, none⟩ (.int .i64 z)) a z := by
  have hlt := h.lt
  have hnb := h.nb
  have uu : Upto nB W (W.setCell ⟨nB, 1, none⟩ (.int .i64 z)) := (Upto.refl nB W).setCell ⟨nB, 1, none⟩ (.inl rfl) _
  exact ⟨set_1 h.kB _, (uu.block _ (heap_lt h.kR) (by omega)).trans h.kR, h.kc.same (uu.toBelow h.kc.lt (by omega)), h.u.setCell ⟨nB, 1, none⟩ (.inr (Nat.le_of_lt h.nb)) _, h.lt, h.nb, h.fa, hz⟩

/-- The answer is written. -/
theorem RepSt.fin {c nB : Nat} {x : Option Addr} {len cap : Nat} {w W : World} {a v : Int} (h : RepSt c x len cap nB w W a v) :
    ((W.setCell ⟨w.heap.size, 0, none⟩ (.int .i64 a)).setCell ⟨w.heap.size, 1, none⟩ (.int .i64 v)).heap[w.heap.size]? = some (.cells #[.int .i64 a, .int .i64 v] 29 (0, 0)) ∧
    Upto c w ((W.setCell ⟨w.heap.size, 0, none⟩ (.int .i64 a)).setCell ⟨w.heap.size, 1, none⟩ (.int .i64 v)) ∧
    Cur ((W.setCell ⟨w.heap.size, 0, none⟩ (.int .i64 a)).setCell ⟨w.heap.size, 1, none⟩ (.int .i64 v)) c x len cap := by
  have hlt := h.lt
  obtain ⟨k, uu⟩ := set_two h.kR (.int .i64 a) (.int .i64 v)
  refine ⟨k, ?_, h.kc.same (uu.toBelow h.kc.lt (by omega))⟩
  exact (h.u.setCell ⟨w.heap.size, 0, none⟩ (.inr (Nat.le_refl _)) _).setCell ⟨w.heap.size, 1, none⟩ (.inr (Nat.le_refl _)) _

set_option maxRecDepth 100000 in
set_option maxHeartbeats 3200000 in
theorem draw10_any (c : Nat) (x : Option Addr) (len cap : Nat) (w : World) (hc : Cur w c x len cap) :
    Calls Try.prog 30 #[.pointer (some ⟨c, 0, none⟩)] w fun e w' => ∃ a v : Int, e = .returned (.agg #[.int .i64 a, .int .i64 v]) ∧ (-1 ≤ a ∧ a ≤ 10) ∧ (-1 ≤ v ∧ v ≤ 1001) ∧ Upto c w w' ∧ Cur w' c x len cap := by
  have hlt := hc.lt
  obtain ⟨W0, hW0, kR, d0, z0⟩ := box1 w #[.int .i64 0, .int .i64 0] 29
  have kc : Cur W0 c x len cap := hc.below d0
  have u : Upto c w W0 := Upto.ofBelow d0
  have HW0 : Hid (W0 = _) := hW0
  have sR : w.heap.size < W0.heap.size := by omega
  clear hW0 hc d0 z0
  go_enter Try.func30, Try.ntmps30
  go_wp2_with fail
  rw [← HW0.out]
  clear HW0
  refine (below_any c x len cap 10 _ (by omega) kc).mono ?_
  rintro e w1 ⟨m, rfl, hm, u1, k1⟩
  have hm9 : m < 10 := hm.2.1 (by omega)
  have hm0 := hm.1
  replace kR := (u1.block _ sR (by omega)).trans kR
  replace sR := Nat.lt_of_lt_of_le sR u1.size
  replace u := u.trans u1
  clear u1 kc hm
  have bP : Below w1.heap.size w1 (w1.alloc (.cells #[.int .i64 m, .int .i64 0] 29)) := bw_alloc (Below.refl _ _)
  have kB := heap_alloc_new w1 (.cells #[.int .i64 m, .int .i64 0] 29)
  have st : RepSt c x len cap w1.heap.size w (w1.alloc (.cells #[.int .i64 m, .int .i64 0] 29)) m 0 := ⟨kB, (bP.block _ sR).trans kR, k1.below bP, u.below bP, hlt, sR, by omega, by omega⟩
  clear bP kB kR u k1
  go_upto_if 9 with fail
  generalize w1.alloc (.cells #[.int .i64 m, .int .i64 0] 29) = W3 at *
  generalize w1.heap.size = nB at *
  go_cut [] (fun wx => ∃ a v : Int, RepSt c x len cap nB w wx a v)
  case first =>
    by_cases h0 : m = 0
    · subst h0
      go_wp2_with fail
      refine (below_any c x len cap 6 _ (by omega) (st.alloc _).kc).mono ?_
      rintro e wb ⟨y, rfl, hy, u1, k1⟩
      have stb := (st.alloc _).step u1 k1
      have hy3 := hy.2.1 (by omega)
      obtain ⟨jn, rfl⟩ := Int.eq_ofNat_of_zero_le hy.1
      obtain ⟨z, hz, hzs⟩ : ∃ z : Int, wb.cell? ⟨W3.heap.size, jn, none⟩ = some (.int .i64 z) ∧ (-1 ≤ z ∧ z ≤ 1001) := by
        rw [pick_cell u1 st.kc.lt jn]
        have h3 : jn = 0 ∨ jn = 1 ∨ jn = 2 ∨ jn = 3 ∨ jn = 4 ∨ jn = 5 := by omega
        rcases h3 with rfl | rfl | rfl | rfl | rfl | rfl <;> exact ⟨_, rfl, by decide⟩
      have p0 := at_cell stb.kB 1
      have f0 := at_open stb.kB 1
      have HS : Hid _ := stb.put1 z hzs
      clear u1 k1 st stb hy
      go_wp2_with fail
      go_meet
      exact ⟨0, z, HS.out⟩
    · have h0b : (m == 0) = false := by rw [beq_eq_false_iff_ne]; exact h0
      go_wp2_with fail
      go_meet
      exact ⟨m, 0, st⟩
  case rest =>
    obtain ⟨a, v, sa⟩ := hcut
    clear st hm9 hm0
    go_wp2_with fail
    refine (once_any c x len cap 8 _ (by omega) sa.kc).mono ?_
    rintro e w4 ⟨y, rfl, u1, k1⟩
    replace sa := sa.step u1 k1
    clear u1 k1
    go_upto_if 17 with fail
    go_cut [] (fun wx => ∃ a v : Int, RepSt c x len cap nB w wx a v)
    case first =>
      cases y
      · go_wp2_with fail
        go_meet
        exact ⟨a, v, sa⟩
      · go_wp2_with fail
        refine (below_any c x len cap 2 _ (by omega) sa.kc).mono ?_
        rintro e w5 ⟨y, rfl, hy, u1, k1⟩
        replace sa := sa.step u1 k1
        have hy3 : y = 0 ∨ y = 1 := by have h1 := hy.2.1 (by omega); have h2 := hy.1; omega
        clear u1 k1 hy
        rcases hy3 with rfl | rfl
        · go_wp2_with fail
          refine (below_any c x len cap 2 _ (by omega) (sa.alloc _).kc).mono ?_
          rintro e wb ⟨y, rfl, hy, u1, k1⟩
          have stb := (sa.alloc _).step u1 k1
          have hy3 := hy.2.1 (by omega)
          obtain ⟨jn, rfl⟩ := Int.eq_ofNat_of_zero_le hy.1
          obtain ⟨z, hz, hzs⟩ : ∃ z : Int, wb.cell? ⟨w5.heap.size, jn, none⟩ = some (.int .i64 z) ∧ (-1 ≤ z ∧ z ≤ 10) := by
            rw [pick_cell u1 sa.kc.lt jn]
            have h3 : jn = 0 ∨ jn = 1 := by omega
            rcases h3 with rfl | rfl <;> exact ⟨_, rfl, by decide⟩
          have p0 := at_cell stb.kB 0
          have f0 := at_open stb.kB 0
          have HS : Hid _ := stb.put0 z hzs
          clear u1 k1 sa stb hy
          go_wp2_with fail
          go_meet
          exact ⟨z, v, HS.out⟩
        · go_wp2_with fail
          refine (below_any c x len cap 3 _ (by omega) (sa.alloc _).kc).mono ?_
          rintro e wb ⟨y, rfl, hy, u1, k1⟩
          have stb := (sa.alloc _).step u1 k1
          have hy3 := hy.2.1 (by omega)
          obtain ⟨jn, rfl⟩ := Int.eq_ofNat_of_zero_le hy.1
          obtain ⟨z, hz, hzs⟩ : ∃ z : Int, wb.cell? ⟨w5.heap.size, jn, none⟩ = some (.int .i64 z) ∧ (-1 ≤ z ∧ z ≤ 1001) := by
            rw [pick_cell u1 sa.kc.lt jn]
            have h3 : jn = 0 ∨ jn = 1 ∨ jn = 2 := by omega
            rcases h3 with rfl | rfl | rfl <;> exact ⟨_, rfl, by decide⟩
          have p0 := at_cell stb.kB 1
          have f0 := at_open stb.kB 1
          have HS : Hid _ := stb.put1 z hzs
          clear u1 k1 sa stb hy
          go_wp2_with fail
          go_meet
          exact ⟨a, z, HS.out⟩
    case rest =>
      clear sa
      obtain ⟨a, v, sa⟩ := hcut
      have p0 := at_cell sa.kB 0
      have p1 := at_cell sa.kB 1
      have q0 := at_cell sa.kR 0
      have g0 := at_open sa.kR 0
      have q1 := at_cell sa.kR 1
      have g1 := at_open sa.kR 1
      have HS : Hid _ := sa.fin
      have HF : Hid _ := And.intro sa.fa sa.fv
      clear sa
      go_wp2_with fail
      exact bodyPost_ret (v := .agg #[.int .i64 a, .int .i64 v]) (by simp [results, Try.results30, go_sem, at_cell HS.out.1]) rfl ⟨a, v, rfl, HF.out.1, HF.out.2, HS.out.2.1, HS.out.2.2⟩
end Go.Proofs.Ytpmoefagpglddaa

