/-
  Contracts and plain laws, one chapter behind the other.
-/
import Derived.BigRegion
import Derived.Test.YtghhphhnalfjaaaM02
import Derived.Test.YtghhphhnalfjaaaM03
import Derived.Test.YtghhphhnalfjaaaM06
namespace Go.Proofs.Ytghhphhnalfjaaa
open Go.RowKit

set_option linter.unusedVariables false

set_option maxRecDepth 100000


section
variable {P : Program} {ops : Array Oper} {Q : Exit → Act → World → Prop}
theorem wpOp_of {i : Nat} {o : Oper} {K : Act → World → Prop} {a : Act} {x : World} (ho : ops[i]? = some o) (hg : o.guard = none) (h : o.wp P a x K Q) : wpOp P ops Q i K a x := by
  unfold wpOp
  rw [ho]
  simp only
  rw [if_pos (by simp [Region.wanted, hg])]
  exact .inl h

theorem op_load {o : Oper} {K : Act → World → Prop} {a : Act} {x : World} (t : TypeId) (p : Tmp) (ho : o.op = .load t (.tmp p)) (g : Nat) (hp : a.tmps.getD p undef = .pointer (some ⟨g, 0, none⟩)) (cs : Array Value) (ty : TypeId) (fr : Nat × Nat) (hg : x.heap[g]? = some (.cells cs ty fr)) (d : TypeDesc) (hu : P.underlying t = some d)
    (hd : (match d with | .struct _ | .array _ _ => true | _ => false) = true) (hi : (P.info? t).map (·.size) = some cs.size) (h : K (a.put o.dst (.agg cs)) x) : o.wp P a x K Q := by
  have hr := run_loadVar_row (P := P) x g ty t cs fr d hg hu hd hi
  have hp' : a.eval (.tmp p) = .pointer (some ⟨g, 0, none⟩) := hp
  unfold Oper.wp execOp
  simp only [ho, hp', Instr.loadAt, Instr.sureAddr, Sem.run_bind, Sem.run_pure, Result.andThen_ok, hr]
  exact h

theorem op_store {o : Oper} {K : Act → World → Prop} {a : Act} {x : World} (t : TypeId) (p v : Tmp) (ho : o.op = .store t (.tmp p) (.tmp v)) (hdst : o.dst = none) (g : Nat) (hp : a.tmps.getD p undef = .pointer (some ⟨g, 0, none⟩)) (cs : Array Value) (hx : a.tmps.getD v undef = .agg cs) (old : Array Value) (ty : TypeId) (hg : x.heap[g]? = some (.cells old ty (0, 0)))
    (hi : (P.info? t).map (·.size) = some cs.size) (hs : old.size = cs.size) (h1 : cs.all (·.oneCell') = true) (h : K a (x.setRow g cs)) : o.wp P a x K Q := by
  have hr := run_storeVar_row (P := P) x g ty t old cs hg hi hs h1
  have hp' : a.eval (.tmp p) = .pointer (some ⟨g, 0, none⟩) := hp
  have hx' : a.eval (.tmp v) = .agg cs := hx
  unfold Oper.wp execOp
  simp only [ho, hp', hx', Instr.storeAt, Instr.sureAddr, Sem.run_bind, Sem.run_pure, Result.andThen_ok, hr]
  show K (a.put o.dst undef) (x.setRow g cs)
  rw [hdst]
  exact h

theorem op_move {o : Oper} {K : Act → World → Prop} {a : Act} {x : World} (s : Tmp) (ho : o.op = .move (.tmp s)) (h : K (a.put o.dst (a.tmps.getD s undef)) x) : o.wp P a x K Q := by
  unfold Oper.wp execOp
  simp only [ho]
  exact h

/-- What is known while the region runs: of each operation that is done, its answer; all other slots as they were. p, q: the two stores. -/
structure RInv (ops : Array Oper) (p q : Nat) (R : Bool → Bool → Nat → Value → World → Prop) (a0 : Act) (W : World) (L : Array Bool) (a : Act) (x : World) : Prop where
  df : a.defers = a0.defers
  sz : a.tmps.size = a0.tmps.size
  old : ∀ s, ops.toList.all (fun o => o.dst != some s) = true → a.tmps.getD s undef = a0.tmps.getD s undef
  rel : ∀ j s, L.getD j false = true → ((ops[j]?).bind (·.dst)) = some s → R (L.getD p false) (L.getD q false) j (a.tmps.getD s undef) x
  bel : Below W.heap.size W x

variable {p q : Nat} {R : Bool → Bool → Nat → Value → World → Prop} {a0 : Act} {W : World} {L : Array Bool} {a : Act} {x : World}
theorem RInv.start (ops : Array Oper) (p q : Nat) (R : Bool → Bool → Nat → Value → World → Prop) (a0 : Act) (W : World) : RInv ops p q R a0 W (Array.replicate ops.size false) a0 W.drew :=
  ⟨rfl, rfl, fun _ _ => rfl, fun j s h => by
    rw [Array.getD_eq_getD_getElem?, Array.getElem?_replicate] at h
    split at h <;> simp at h, bw_drew (Below.refl _ _)⟩

theorem getD_self {L : Array Bool} {i : Nat} (h : i < L.size) : (L.setIfInBounds i true).getD i false = true := by simp [Array.getD_eq_getD_getElem?, h]

theorem getD_other {L : Array Bool} {i j : Nat} (h : i ≠ j) (d : Bool) : (L.setIfInBounds i true).getD j d = L.getD j d := by simp [Array.getD_eq_getD_getElem?, h]

theorem tmps_self {T : Array Value} {s : Nat} (v : Value) (h : s < T.size) : (T.setIfInBounds s v).getD s undef = v := by simp [Array.getD_eq_getD_getElem?, h]

theorem tmps_other {T : Array Value} {s r : Nat} (v : Value) (h : s ≠ r) : (T.setIfInBounds s v).getD r undef = T.getD r undef := by simp [Array.getD_eq_getD_getElem?, h]

/-- No other operation answers into slot s. -/
def uniqB (ops : Array Oper) (s i : Nat) : Bool := (List.range ops.size).all (fun j => ((ops[j]?).bind (·.dst)) != some s || j == i)

theorem uniq_of {s i : Nat} (h : uniqB ops s i = true) (j : Nat) (hj : ((ops[j]?).bind (·.dst)) = some s) : j = i := by
  have hlt : j < ops.size := by
    rcases Nat.lt_or_ge j ops.size with g | g
    · exact g
    · rw [Array.getElem?_eq_none g] at hj; simp at hj
  unfold uniqB at h
  rw [List.all_eq_true] at h
  have := h j (List.mem_range.2 hlt)
  rw [hj] at this
  simpa using this

/-- An operation that answers. -/
theorem RInv.val (h : RInv ops p q R a0 W L a x) (i s : Nat) (v : Value) (x' : World) (hp : i ≠ p) (hq : i ≠ q) (hi : ((ops[i]?).bind (·.dst)) = some s) (hs : s < a0.tmps.size) (hd : (ops.toList.all (fun o => o.dst != some s)) = false) (hu : uniqB ops s i = true)
    (hb : Below x.heap.size x x') (hv : R (L.getD p false) (L.getD q false) i v x') (hm : ∀ b c j u, R b c j u x → R b c j u x') : RInv ops p q R a0 W (L.setIfInBounds i true) (a.put (some s) v) x' := by
  refine ⟨h.df, by show (a.tmps.setIfInBounds s v).size = _; rw [Array.size_setIfInBounds]; exact h.sz, fun r hr => ?_, fun j r hj hr => ?_, bw_call h.bel hb⟩
  · have hne : s ≠ r := fun e => by subst e; rw [hd] at hr; cases hr
    exact (tmps_other v hne).trans (h.old r hr)
  · rw [getD_other hp, getD_other hq]
    show R _ _ j ((a.tmps.setIfInBounds s v).getD r undef) x'
    by_cases e : i = j
    · subst e
      rw [hi] at hr
      cases hr
      rw [tmps_self v (by rw [h.sz]; exact hs)]
      exact hv
    · have hne : s ≠ r := fun e2 => by subst e2; exact e (uniq_of hu j hr).symm
      rw [tmps_other v hne]
      rw [getD_other e] at hj
      exact hm _ _ j _ (h.rel j r hj hr)

/-- A frame whose slots in S are put anew. -/
def Act.puts (a : Act) (f : Nat → Value) : List Nat → Act
  | [] => a
  | s :: S => Act.puts (a.put (some s) (f s)) f S

theorem puts_defers (f : Nat → Value) : ∀ (S : List Nat) (a : Act), (Act.puts a f S).defers = a.defers
  | [], a => rfl
  | s :: S, a => puts_defers f S (a.put (some s) (f s))

theorem puts_size (f : Nat → Value) : ∀ (S : List Nat) (a : Act), (Act.puts a f S).tmps.size = a.tmps.size
  | [], a => rfl
  | s :: S, a => (puts_size f S (a.put (some s) (f s))).trans (by show (a.tmps.setIfInBounds s (f s)).size = _; rw [Array.size_setIfInBounds])

theorem puts_at (f : Nat → Value) : ∀ (S : List Nat) (a : Act) (r : Nat), r < a.tmps.size → (Act.puts a f S).tmps.getD r undef = if r ∈ S then f r else a.tmps.getD r undef
  | [], a, r, h => by simp [Act.puts]
  | s :: S, a, r, h => by
    have h2 : r < (a.put (some s) (f s)).tmps.size := by show r < (a.tmps.setIfInBounds s (f s)).size; rw [Array.size_setIfInBounds]; exact h
    rw [Act.puts, puts_at f S _ r h2]
    by_cases hS : r ∈ S
    · rw [if_pos hS, if_pos (List.mem_cons_of_mem _ hS)]
    · rw [if_neg hS]
      show (a.tmps.setIfInBounds s (f s)).getD r undef = _
      by_cases e : s = r
      · subst e
        rw [tmps_self _ h, if_pos (List.mem_cons_self ..)]
      · rw [tmps_other _ e, if_neg (fun hm => by rcases List.mem_cons.1 hm with rfl | hm; exact e rfl; exact hS hm)]

theorem arr_ext {T U : Array Value} (hs : T.size = U.size) (h : ∀ r, r < T.size → T.getD r undef = U.getD r undef) : T = U := by
  refine Array.ext hs (fun i h1 h2 => ?_)
  have := h i h1
  simpa [Array.getD_eq_getD_getElem?, h1, h2] using this

/-- The operations answer into the slots of S alone. -/
def frameB (ops : Array Oper) (S : List Nat) (n : Nat) : Bool := (List.range n).all (fun s => S.contains s || ops.toList.all (fun o => o.dst != some s))

theorem frame_of {S : List Nat} {n : Nat} (h : frameB ops S n = true) (s : Nat) (hs : s < n) (hm : s ∉ S) : ops.toList.all (fun o => o.dst != some s) = true := by
  unfold frameB at h
  rw [List.all_eq_true] at h
  have := h s (List.mem_range.2 hs)
  rw [Bool.or_eq_true] at this
  rcases this with h1 | h1
  · exact absurd (List.contains_iff_mem.1 h1) hm
  · exact h1

theorem RInv.frame (h : RInv ops p q R a0 W L a x) (S : List Nat) (hS : frameB ops S a0.tmps.size = true) : a = Act.puts a0 (fun s => a.tmps.getD s undef) S := by
  have hd : a.defers = (Act.puts a0 (fun s => a.tmps.getD s undef) S).defers := by rw [puts_defers]; exact h.df
  have ht : a.tmps = (Act.puts a0 (fun s => a.tmps.getD s undef) S).tmps := by
    refine arr_ext (by rw [puts_size]; exact h.sz) (fun r hr => ?_)
    rw [puts_at _ S a0 r (by rw [← h.sz]; exact hr)]
    by_cases hm : r ∈ S
    · rw [if_pos hm]
    · rw [if_neg hm]
      exact h.old r (frame_of hS r (by rw [← h.sz]; exact hr) hm)
  generalize Act.puts a0 (fun s => a.tmps.getD s undef) S = b at hd ht
  cases a
  cases b
  simp only at hd ht
  rw [hd, ht]

end
end Go.Proofs.Ytghhphhnalfjaaa

namespace Go.Proofs.Ytghhphhnalfjaaa
open Go.RowKit

set_option linter.unusedVariables false

set_option maxRecDepth 100000

/-- What is known while the region runs. p: the store; G: what it makes of the world. -/
structure R1 (ops : Array Oper) (p : Nat) (R : Nat → Value → Prop) (a0 : Act) (W : World) (G : World → World) (L : Array Bool) (a : Act) (x : World) : Prop where
  df : a.defers = a0.defers
  sz : a.tmps.size = a0.tmps.size
  old : ∀ s, ops.toList.all (fun o => o.dst != some s) = true → a.tmps.getD s undef = a0.tmps.getD s undef
  rel : ∀ j s, L.getD j false = true → ((ops[j]?).bind (·.dst)) = some s → R j (a.tmps.getD s undef)
  bel : L.getD p false = false → Below W.heap.size W x
  fin : L.getD p false = true → ∃ X, Below W.heap.size W X ∧ x = G X

theorem R1.start (ops : Array Oper) (p : Nat) (R : Nat → Value → Prop) (a0 : Act) (W : World) (G : World → World) : R1 ops p R a0 W G (Array.replicate ops.size false) a0 W.drew := by
  have hn : ∀ j, (Array.replicate ops.size false).getD j false = false := fun j => by
    rw [Array.getD_eq_getD_getElem?, Array.getElem?_replicate]
    split <;> rfl
  exact ⟨rfl, rfl, fun _ _ => rfl, (fun j s h => by rw [hn] at h; cases h), fun _ => bw_drew (Below.refl _ _), (fun h => by rw [hn] at h; cases h)⟩

theorem R1.val {ops : Array Oper} {p : Nat} {R : Nat → Value → Prop} {a0 : Act} {W : World} {G : World → World} {L : Array Bool} {a : Act} {x : World} (h : R1 ops p R a0 W G L a x) (i s : Nat) (v : Value) (x' : World) (hp : i ≠ p) (hi : ((ops[i]?).bind (·.dst)) = some s) (hs : s < a0.tmps.size) (hd : (ops.toList.all (fun o => o.dst != some s)) = false) (hu : uniqB ops s i = true)
    (hb : (L.getD p false = false ∧ Below x.heap.size x x') ∨ x' = x) (hv : R i v) : R1 ops p R a0 W G (L.setIfInBounds i true) (a.put (some s) v) x' := by
  refine ⟨h.df, by show (a.tmps.setIfInBounds s v).size = _; rw [Array.size_setIfInBounds]; exact h.sz, fun r hr => ?_, fun j r hj hr => ?_, fun hl => ?_, fun hl => ?_⟩
  · have hne : s ≠ r := fun e => by subst e; rw [hd] at hr; cases hr
    exact (tmps_other v hne).trans (h.old r hr)
  · show R j ((a.tmps.setIfInBounds s v).getD r undef)
    by_cases e : i = j
    · subst e
      rw [hi] at hr
      cases hr
      rw [tmps_self v (by rw [h.sz]; exact hs)]
      exact hv
    · have hne : s ≠ r := fun e2 => by subst e2; exact e (uniq_of hu j hr).symm
      rw [tmps_other v hne]
      rw [getD_other e] at hj
      exact h.rel j r hj hr
  · rw [getD_other hp] at hl
    rcases hb with ⟨-, hb⟩ | rfl
    · exact bw_call (h.bel hl) hb
    · exact h.bel hl
  · rw [getD_other hp] at hl
    rcases hb with ⟨hb, -⟩ | rfl
    · rw [hb] at hl; cases hl
    · exact h.fin hl

theorem R1.store {ops : Array Oper} {p : Nat} {R : Nat → Value → Prop} {a0 : Act} {W : World} {G : World → World} {L : Array Bool} {a : Act} {x : World} (h : R1 ops p R a0 W G L a x) (hp : p < L.size) (hn : L.getD p false = false) (hd : ((ops[p]?).bind (·.dst)) = none) : R1 ops p R a0 W G (L.setIfInBounds p true) a (G x) := by
  refine ⟨h.df, h.sz, h.old, fun j r hj hr => ?_, fun hl => ?_, fun _ => ⟨x, h.bel hn, rfl⟩⟩
  · by_cases e : p = j
    · subst e; rw [hd] at hr; cases hr
    · rw [getD_other e] at hj
      exact h.rel j r hj hr
  · rw [getD_self hp] at hl; cases hl

theorem R1.frame {ops : Array Oper} {p : Nat} {R : Nat → Value → Prop} {a0 : Act} {W : World} {G : World → World} {L : Array Bool} {a : Act} {x : World} (h : R1 ops p R a0 W G L a x) (S : List Nat) (hS : frameB ops S a0.tmps.size = true) : a = Act.puts a0 (fun s => a.tmps.getD s undef) S := by
  have hd : a.defers = (Act.puts a0 (fun s => a.tmps.getD s undef) S).defers := by rw [puts_defers]; exact h.df
  have ht : a.tmps = (Act.puts a0 (fun s => a.tmps.getD s undef) S).tmps := by
    refine arr_ext (by rw [puts_size]; exact h.sz) (fun r hr => ?_)
    rw [puts_at _ S a0 r (by rw [← h.sz]; exact hr)]
    by_cases hm : r ∈ S
    · rw [if_pos hm]
    · rw [if_neg hm]
      exact h.old r (frame_of hS r (by rw [← h.sz]; exact hr) hm)
  generalize Act.puts a0 (fun s => a.tmps.getD s undef) S = b at hd ht
  cases a
  cases b
  simp only at hd ht
  rw [hd, ht]

theorem op_assign {P : Program} {Q : Exit → Act → World → Prop} {o : Oper} {K : Act → World → Prop} {a : Act} {x : World} (s : Tmp) (ho : o.op = .assign (.tmp s)) (h : K (a.put o.dst (a.tmps.getD s undef)) x) : o.wp P a x K Q := by
  unfold Oper.wp execOp
  simp only [ho]
  exact h
end Go.Proofs.Ytghhphhnalfjaaa

namespace Go.Proofs.Ytghhphhnalfjaaa
open Go.RowKit

open Go.ChangeMaps (setBlock heap_setBlock_same heap_setBlock_other modify_eq_set)

set_option linter.unusedVariables false

set_option maxRecDepth 100000


theorem upto_set15 {w : World} {b : Nat} {o : Obj} : Upto b w (setBlock w b o) :=
  ⟨rfl, rfl, rfl, by simp [setBlock], fun k hk hne => by simp [setBlock, Ne.symm hne]⟩

theorem set_twice15 {w : World} {b : Nat} {o o' : Obj} : setBlock (setBlock w b o) b o' = setBlock w b o' := by simp [setBlock]

theorem bag_entry {w : World} {b n : Nat} {D : DataW Unit} (h : w.ownsMap Try.prog 38 bagR b n D) (hn : n < maxLen) {m : Mg} {kl : Lit} (hkl : keyOf Try.prog 38 (mgV m) = some kl) {c : Nat} (hc : D.atKey kl (setD 0) = setD c) :
    ∃ (st : Nat) (w1 : World) (u : Value), (Instr.mapEntry 68 (.map (some b)) (mgV m)).run Try.prog w = .ok (.tuple #[u, goInt st]) w1 ∧ Upto b w w1 ∧ (Instr.lookup 68 (.map (some b)) (mgV m) false).run Try.prog w1 = .ok (.int .u64 (c : Int)) w1 ∧
      ∀ d : Nat, d < 2 ^ 64 → ∃ w2, (Instr.entryStore 68 (.map (some b)) (goInt st) (.int .u64 (d : Int))).run Try.prog w1 = .ok () w2 ∧ w2.ownsMap Try.prog 38 bagR b (n + 1) (D.put kl (setD d)) ∧ Upto b w w2 := by
  have h0 := h
  obtain ⟨es, clock, hb, F, hs, hD⟩ := h
  obtain ⟨v0, st, es1, clock1, hrun, -, hst⟩ := WideElems.entry_then_store bagLaw Try.underlying68 (z := .int .u64 0) bagZero hb F hkl
  refine ⟨st, setBlock w b (.map es1 clock1), v0, hrun, upto_set15, ?_, fun d hd => ?_⟩
  · have key : ∃ D1 n1, (setBlock w b (.map es1 clock1)).ownsMap Try.prog 38 bagR b n1 D1 ∧ D1.atKey kl (setD 0) = setD c := by
      rcases bagKeys.find w hkl es.toList F.keys with ⟨h1, h2⟩ | ⟨j, e0, h1, h2, h3⟩
      · have r1 : (Instr.mapEntry 68 (.map (some b)) (mgV m)).run Try.prog w = .ok (.tuple #[.int .u64 0, goInt clock]) (setBlock w b (.map (es.push ⟨mgV m, .int .u64 0, clock⟩) (clock + 1))) := by
          simp [Instr.mapEntry, run_underlying Try.underlying68, MapKept.run_getObj_map hb, bagKeys.check w false hkl, h1, MapKept.run_setObj_map _ hb, Result.andThen, setBlock]
        have r2 : (Instr.mapUpdate 68 (.map (some b)) (mgV m) (.int .u64 0)).run Try.prog w = .ok () (setBlock w b (.map (es.push ⟨mgV m, .int .u64 0, clock⟩) (clock + 1))) := by
          simp [Instr.mapUpdate, run_underlying Try.underlying68, MapKept.run_getObj_map hb, bagKeys.check w false hkl, h1, MapKept.run_setObj_map _ hb, Result.andThen, setBlock]
        obtain ⟨w', r3, o3, -⟩ := h0.update bagKeys Try.underlying68 hn hkl (plainElem_int (H := Unit) Try.underlying107 (a := 0) (by decide))
        rw [r2] at r3
        injection r3 with _ r3
        rw [hrun] at r1
        injection r1 with _ r1
        rw [r1, r3]
        refine ⟨_, _, o3, ?_⟩
        have a1 := Maps.atKey_put_same (k := kl) (show Maps.IsMap D by rw [hD]; exact ⟨_, rfl⟩) (bagKeys.key hkl) (DataW.lit (.int .u64 0)) (setD 0)
        rw [a1]
        obtain ⟨c', r4, h4, -⟩ := h0.lookup_int bagKeys Try.underlying68 Try.underlying107 (bagZero w) hkl
        have r5 : (Instr.lookup 68 (.map (some b)) (mgV m) false).run Try.prog w = .ok (.int .u64 0) w := by
          simp [Instr.lookup, run_underlying Try.underlying68, MapKept.run_getObj_map hb, bagKeys.check w _ hkl, h1, Result.andThen]
        rw [r5] at r4
        injection r4 with r4 _
        injection r4 with _ r4
        rw [← r4] at h4
        exact h4.symm.trans hc
      · have hj : es[j]? = some e0 := by simpa using h2
        have hsame : es.modify j (fun e => { e with key := mgV m }) = es := by
          apply Array.ext'
          rw [Array.toList_modify, modify_eq_set _ _ _ _ h2]
          have e1 : ({ e0 with key := mgV m } : MapEntry) = e0 := by rw [← h3]
          rw [e1]
          exact WideElems.set_self _ _ _ h2
        have r1 : (Instr.mapEntry 68 (.map (some b)) (mgV m)).run Try.prog w = .ok (.tuple #[e0.val, goInt e0.born]) (setBlock w b (.map es clock)) := by
          simp [Instr.mapEntry, run_underlying Try.underlying68, MapKept.run_getObj_map hb, bagKeys.check w false hkl, h1, hj, h3, bagKeys.stays w hkl, hsame, MapKept.run_setObj_map _ hb, Result.andThen, setBlock]
        rw [hrun] at r1
        injection r1 with _ r1
        rw [r1]
        exact ⟨D, n, ⟨es, clock, heap_setBlock_same hb _, F, hs, hD⟩, hc⟩
    obtain ⟨D1, n1, o1, a1⟩ := key
    obtain ⟨c', r4, h4, -⟩ := o1.lookup_int bagKeys Try.underlying68 Try.underlying107 (bagZero _) hkl
    have e := h4.symm.trans a1
    simp only [setD, DataW.lit.injEq, Lit.int.injEq, true_and] at e
    rw [← e]
    exact r4
  · obtain ⟨es', clock', r1, r2⟩ := hst (setBlock w b (.map es1 clock1)) (.int .u64 (d : Int)) (heap_setBlock_same hb _)
    obtain ⟨w', r3, o3, -⟩ := h0.update bagKeys Try.underlying68 hn hkl (plainElem_int (H := Unit) Try.underlying107 (u64_wf hd))
    rw [r2] at r3
    injection r3 with _ r3
    rw [set_twice15] at r1
    exact ⟨_, r1, by rw [r3]; exact o3, upto_set15⟩

/-- What is known while such a region runs. p: the entry is asked for; q: it is stored; X: the world by these two. -/
structure RB (ops : Array Oper) (p q : Nat) (R : Nat → Value → Prop) (a0 : Act) (X : Bool → Bool → World) (L : Array Bool) (a : Act) (x : World) : Prop where
  df : a.defers = a0.defers
  sz : a.tmps.size = a0.tmps.size
  old : ∀ s, ops.toList.all (fun o => o.dst != some s) = true → a.tmps.getD s undef = a0.tmps.getD s undef
  rel : ∀ j s, L.getD j false = true → ((ops[j]?).bind (·.dst)) = some s → R j (a.tmps.getD s undef)
  wld : x = X (L.getD p false) (L.getD q false)

section
variable {ops : Array Oper} {p q : Nat} {R : Nat → Value → Prop} {a0 : Act} {X : Bool → Bool → World} {L : Array Bool} {a : Act} {x : World}
theorem RB.start (ops : Array Oper) (p q : Nat) (R : Nat → Value → Prop) (a0 : Act) (X : Bool → Bool → World) : RB ops p q R a0 X (Array.replicate ops.size false) a0 (X false false) := by
  have hn : ∀ j, (Array.replicate ops.size false).getD j false = false := fun j => by
    rw [Array.getD_eq_getD_getElem?, Array.getElem?_replicate]
    split <;> rfl
  exact ⟨rfl, rfl, fun _ _ => rfl, (fun j s h => by rw [hn] at h; cases h), by rw [hn, hn]⟩

theorem RB.gen (h : RB ops p q R a0 X L a x) (i s : Nat) (v : Value) (x' : World) (hi : ((ops[i]?).bind (·.dst)) = some s) (hs : s < a0.tmps.size) (hd : (ops.toList.all (fun o => o.dst != some s)) = false) (hu : uniqB ops s i = true)
    (hx : x' = X ((L.setIfInBounds i true).getD p false) ((L.setIfInBounds i true).getD q false)) (hv : R i v) : RB ops p q R a0 X (L.setIfInBounds i true) (a.put (some s) v) x' := by
  refine ⟨h.df, by show (a.tmps.setIfInBounds s v).size = _; rw [Array.size_setIfInBounds]; exact h.sz, fun r hr => ?_, fun j r hj hr => ?_, hx⟩
  · have hne : s ≠ r := fun e => by subst e; rw [hd] at hr; cases hr
    exact (tmps_other v hne).trans (h.old r hr)
  · show R j ((a.tmps.setIfInBounds s v).getD r undef)
    by_cases e : i = j
    · subst e
      rw [hi] at hr
      cases hr
      rw [tmps_self v (by rw [h.sz]; exact hs)]
      exact hv
    · have hne : s ≠ r := fun e2 => by subst e2; exact e (uniq_of hu j hr).symm
      rw [tmps_other v hne]
      rw [getD_other e] at hj
      exact h.rel j r hj hr

theorem RB.val (h : RB ops p q R a0 X L a x) (i s : Nat) (v : Value) (hp : i ≠ p) (hq : i ≠ q) (hi : ((ops[i]?).bind (·.dst)) = some s) (hs : s < a0.tmps.size) (hd : (ops.toList.all (fun o => o.dst != some s)) = false) (hu : uniqB ops s i = true) (hv : R i v) : RB ops p q R a0 X (L.setIfInBounds i true) (a.put (some s) v) x :=
  h.gen i s v x hi hs hd hu (by rw [getD_other hp, getD_other hq]; exact h.wld) hv

theorem RB.ent (h : RB ops p q R a0 X L a x) (hpq : p ≠ q) (s : Nat) (v : Value) (x' : World) (hL : p < L.size) (hi : ((ops[p]?).bind (·.dst)) = some s) (hs : s < a0.tmps.size) (hd : (ops.toList.all (fun o => o.dst != some s)) = false) (hu : uniqB ops s p = true) (hx : x' = X true (L.getD q false)) (hv : R p v) : RB ops p q R a0 X (L.setIfInBounds p true) (a.put (some s) v) x' :=
  h.gen p s v x' hi hs hd hu (by rw [getD_self hL, getD_other hpq]; exact hx) hv

theorem RB.sto (h : RB ops p q R a0 X L a x) (hpq : q ≠ p) (x' : World) (hL : q < L.size) (hd : ((ops[q]?).bind (·.dst)) = none) (hx : x' = X (L.getD p false) true) : RB ops p q R a0 X (L.setIfInBounds q true) a x' := by
  refine ⟨h.df, h.sz, h.old, fun j r hj hr => ?_, by rw [getD_self hL, getD_other hpq]; exact hx⟩
  by_cases e : q = j
  · subst e; rw [hd] at hr; cases hr
  · rw [getD_other e] at hj
    exact h.rel j r hj hr

theorem RB.frame (h : RB ops p q R a0 X L a x) (S : List Nat) (hS : frameB ops S a0.tmps.size = true) : a = Act.puts a0 (fun s => a.tmps.getD s undef) S := by
  have hd : a.defers = (Act.puts a0 (fun s => a.tmps.getD s undef) S).defers := by rw [puts_defers]; exact h.df
  have ht : a.tmps = (Act.puts a0 (fun s => a.tmps.getD s undef) S).tmps := by
    refine arr_ext (by rw [puts_size]; exact h.sz) (fun r hr => ?_)
    rw [puts_at _ S a0 r (by rw [← h.sz]; exact hr)]
    by_cases hm : r ∈ S
    · rw [if_pos hm]
    · rw [if_neg hm]
      exact h.old r (frame_of hS r (by rw [← h.sz]; exact hr) hm)
  generalize Act.puts a0 (fun s => a.tmps.getD s undef) S = b at hd ht
  cases a
  cases b
  simp only at hd ht
  rw [hd, ht]

end

theorem onlyPlace_any (p : Nat) (hp : p < 60) (w : World) : Calls Try.prog 75 #[.int .i64 (p : Int)] w fun e w' => e = .returned (.int .u64 ((2 ^ p : Nat) : Int)) ∧ w' = w := by
  have hlt : (2 ^ p : Nat) < 2 ^ 64 := Nat.pow_lt_pow_right (by decide) (by omega)
  have HZ : Hid (IntKind.u64.wrap ((2 : Int) ^ p) = ((2 ^ p : Nat) : Int)) := by
    have e : ((2 : Int) ^ p) = ((2 ^ p : Nat) : Int) := by simp
    rw [Hid, e]
    exact u64_in15 _ (Int.natCast_nonneg _) (by exact_mod_cast hlt)
  have h0 : ¬ ((p : Int) < 0) := by omega
  have hm : min p 64 = p := Nat.min_eq_left (by omega)
  clear hlt
  go_enter Try.func75, Try.ntmps75
  go_wp2_with fail
  go_ret
  exact ⟨congrArg (fun z => Ending.returned (Value.int .u64 z)) HZ.out, rfl⟩

theorem has_any (c p : Nat) (hc : c < 2 ^ 64) (hp : p < 60) (w : World) : Calls Try.prog 97 #[.int .u64 (c : Int), .int .i64 (p : Int)] w fun e w' => e = .returned (.bool (c.testBit p)) ∧ w' = w := by
  have ha := and15 hc (show p < 64 by omega)
  have hn : ((((c &&& 2 ^ p : Nat) : Int)) != 0) = c.testBit p := by
    rw [Bool.eq_iff_iff, bne_iff_ne, ← and_bit]
    omega
  have HN : Hid _ := hn
  have hq := onlyPlace_any p hp
  generalize ((2 ^ p : Nat) : Int) = z at ha hq
  generalize ((c &&& 2 ^ p : Nat) : Int) = y at ha HN
  clear hn
  go_enter Try.func97, Try.ntmps97
  go_wp2_with fail
  refine (hq _).mono ?_
  rintro e w' ⟨rfl, rfl⟩
  clear hq
  go_wp2_with fail
  go_ret
  exact ⟨ret_bool HN.out, rfl⟩
end Go.Proofs.Ytghhphhnalfjaaa

namespace Go.Proofs.Ytghhphhnalfjaaa
open Go.RowKit

set_option linter.unusedVariables false

set_option maxRecDepth 100000


set_option maxHeartbeats 12800000 in
theorem told4_any (ds vw sq cl tg k : Int) (nm ot : ByteArray) (at_ va ep s rc rv : Int) (w : World) :
    Calls Try.prog 45 #[.agg #[.int .i64 4, .int .i64 ds, .int .i64 vw, .int .i64 sq, .int .i64 cl, .int .i64 tg, .int .i64 k, .string nm, .string ot, .int .i64 at_, .int .i64 va, .int .i64 ep, .int .i64 s, .int .i64 rc, .int .i64 rv]] w fun e w' => e = .returned (.agg #[.int .i64 4, .int .i64 ds, .int .i64 vw, .int .i64 sq, .int .i64 cl, .int .i64 tg, .int .i64 k, .string nm, .string ot, .int .i64 at_, .int .i64 va, .int .i64 ep, .int .i64 s, .int .i64 rc, .int .i64 rv]) ∧ Below w.heap.size w w' := by
  obtain ⟨W0, hW0, k0, k1, k2, d0, z0⟩ := box3 w #[.int .i64 4, .int .i64 ds, .int .i64 vw, .int .i64 sq, .int .i64 cl, .int .i64 tg, .int .i64 k, .string nm, .string ot, .int .i64 at_, .int .i64 va, .int .i64 ep, .int .i64 s, .int .i64 rc, .int .i64 rv] #[.int .i64 0, .int .i64 0, .int .i64 0, .int .i64 0, .int .i64 0, .int .i64 0, .int .i64 0, .string ⟨#[]⟩, .string ⟨#[]⟩, .int .i64 0, .int .i64 0, .int .i64 0, .int .i64 0, .int .i64 0, .int .i64 0] #[.int .i64 4, .int .i64 ds, .int .i64 vw, .int .i64 0, .int .i64 0, .int .i64 0, .int .i64 0, .string ⟨#[]⟩, .string ⟨#[]⟩, .int .i64 0, .int .i64 0, .int .i64 0, .int .i64 0, .int .i64 0, .int .i64 0] 38 38 38
  have HW0 : Hid (W0 = _) := hW0
  have p0 := at_cell k0 0
  have p1 := at_cell k0 1
  have p2 := at_cell k0 2
  have p3 := at_cell k0 3
  have p4 := at_cell k0 4
  have p5 := at_cell k0 5
  have p6 := at_cell k0 6
  have p7 := at_cell k0 7
  have p8 := at_cell k0 8
  have p9 := at_cell k0 9
  have p10 := at_cell k0 10
  have p11 := at_cell k0 11
  have p12 := at_cell k0 12
  have p13 := at_cell k0 13
  have p14 := at_cell k0 14
  clear hW0 z0
  have c3 := at_cell k2 3
  have c4 := at_cell k2 4
  have c5 := at_cell k2 5
  have c6 := at_cell k2 6
  have c7 := at_cell k2 7
  have c8 := at_cell k2 8
  have c9 := at_cell k2 9
  have c10 := at_cell k2 10
  have c11 := at_cell k2 11
  have c12 := at_cell k2 12
  have c13 := at_cell k2 13
  have c14 := at_cell k2 14
  have f3 := at_open k2 3
  have f4 := at_open k2 4
  have f5 := at_open k2 5
  have f6 := at_open k2 6
  have f7 := at_open k2 7
  have f8 := at_open k2 8
  have f9 := at_open k2 9
  have f10 := at_open k2 10
  have f11 := at_open k2 11
  have f12 := at_open k2 12
  have f13 := at_open k2 13
  have f14 := at_open k2 14
  obtain ⟨s1, s2, s3⟩ := putA (b := w.heap.size + 1 + 1) (by omega) k2 d0 (.int .i64 sq) (.int .i64 cl) (.int .i64 tg) (.int .i64 k) (.string nm) (.string ot) (.int .i64 at_) (.int .i64 va) (.int .i64 ep) (.int .i64 s) (.int .i64 rc) (.int .i64 rv)
  have e1 := (s3.block (w.heap.size + 1) (heap_lt k1) (by omega)).trans k1
  obtain ⟨W2, hW2⟩ : ∃ W2, W2 = ((((((((((((W0.setCell ⟨w.heap.size + 1 + 1, 3, none⟩ (.int .i64 sq)).setCell ⟨w.heap.size + 1 + 1, 4, none⟩ (.int .i64 cl)).setCell ⟨w.heap.size + 1 + 1, 5, none⟩ (.int .i64 tg)).setCell ⟨w.heap.size + 1 + 1, 6, none⟩ (.int .i64 k)).setCell ⟨w.heap.size + 1 + 1, 7, none⟩ (.string nm)).setCell ⟨w.heap.size + 1 + 1, 8, none⟩ (.string ot)).setCell ⟨w.heap.size + 1 + 1, 9, none⟩ (.int .i64 at_)).setCell ⟨w.heap.size + 1 + 1, 10, none⟩ (.int .i64 va)).setCell ⟨w.heap.size + 1 + 1, 11, none⟩ (.int .i64 ep)).setCell ⟨w.heap.size + 1 + 1, 12, none⟩ (.int .i64 s)).setCell ⟨w.heap.size + 1 + 1, 13, none⟩ (.int .i64 rc)).setCell ⟨w.heap.size + 1 + 1, 14, none⟩ (.int .i64 rv)) := ⟨_, rfl⟩
  rw [← hW2] at s1 s2 e1
  have HW2 : Hid (W2 = _) := hW2
  clear hW2
  have q0 := at_cell s1 0
  have q1 := at_cell s1 1
  have q2 := at_cell s1 2
  have q3 := at_cell s1 3
  have q4 := at_cell s1 4
  have q5 := at_cell s1 5
  have q6 := at_cell s1 6
  have q7 := at_cell s1 7
  have q8 := at_cell s1 8
  have q9 := at_cell s1 9
  have q10 := at_cell s1 10
  have q11 := at_cell s1 11
  have q12 := at_cell s1 12
  have q13 := at_cell s1 13
  have q14 := at_cell s1 14
  have g0 := at_open e1 0
  have g1 := at_open e1 1
  have g2 := at_open e1 2
  have g3 := at_open e1 3
  have g4 := at_open e1 4
  have g5 := at_open e1 5
  have g6 := at_open e1 6
  have g7 := at_open e1 7
  have g8 := at_open e1 8
  have g9 := at_open e1 9
  have g10 := at_open e1 10
  have g11 := at_open e1 11
  have g12 := at_open e1 12
  have g13 := at_open e1 13
  have g14 := at_open e1 14
  have r0 := at_cell e1 0
  have r1 := at_cell e1 1
  have r2 := at_cell e1 2
  have r3 := at_cell e1 3
  have r4 := at_cell e1 4
  have r5 := at_cell e1 5
  have r6 := at_cell e1 6
  have r7 := at_cell e1 7
  have r8 := at_cell e1 8
  have r9 := at_cell e1 9
  have r10 := at_cell e1 10
  have r11 := at_cell e1 11
  have r12 := at_cell e1 12
  have r13 := at_cell e1 13
  have r14 := at_cell e1 14
  have HS : Hid _ := putF (b := w.heap.size + 1) (by omega) e1 s2 (.int .i64 4) (.int .i64 ds) (.int .i64 vw) (.int .i64 sq) (.int .i64 cl) (.int .i64 tg) (.int .i64 k) (.string nm) (.string ot) (.int .i64 at_) (.int .i64 va) (.int .i64 ep) (.int .i64 s) (.int .i64 rc) (.int .i64 rv)

  clear s1 s2 s3 e1 k0 k1 k2 d0
  go_enter Try.func45, Try.ntmps45
  go_upto_region 9 with fail
  rw [← HW0.out]
  clear HW0
  go_region
  rw [← HW2.out]
  clear HW2 c3 f3 c4 f4 c5 f5 c6 f6 c7 f7 c8 f8 c9 f9 c10 f10 c11 f11 c12 f12 c13 f13 c14 f14
  go_wp2_with fail
  exact bodyPost_ret (v := .agg #[.int .i64 4, .int .i64 ds, .int .i64 vw, .int .i64 sq, .int .i64 cl, .int .i64 tg, .int .i64 k, .string nm, .string ot, .int .i64 at_, .int .i64 va, .int .i64 ep, .int .i64 s, .int .i64 rc, .int .i64 rv]) (by simp [results, Try.results45, go_sem, at_cell HS.out.1]) rfl ⟨rfl, HS.out.2.1.drew⟩
end Go.Proofs.Ytghhphhnalfjaaa

namespace Go.Proofs.Ytghhphhnalfjaaa
open Go.RowKit

set_option linter.unusedVariables false

set_option maxRecDepth 100000


theorem told_any (kd ds vw sq cl tg k : Int) (nm ot : ByteArray) (at_ va ep s rc rv : Int) (m : Mg) (h : told ⟨kd, ds, vw, ⟨sq, cl, tg, ⟨k, nm, ot, at_, va, ep⟩⟩, s, rc, rv⟩ = m) (w : World) :
    Calls Try.prog 45 #[.agg #[.int .i64 kd, .int .i64 ds, .int .i64 vw, .int .i64 sq, .int .i64 cl, .int .i64 tg, .int .i64 k, .string nm, .string ot, .int .i64 at_, .int .i64 va, .int .i64 ep, .int .i64 s, .int .i64 rc, .int .i64 rv]] w fun e w' => e = .returned (.agg #[.int .i64 m.kd, .int .i64 m.ds, .int .i64 m.vw, .int .i64 m.e.sq, .int .i64 m.e.cl, .int .i64 m.e.tg, .int .i64 m.e.o.k, .string m.e.o.nm, .string m.e.o.ot, .int .i64 m.e.o.at_, .int .i64 m.e.o.va, .int .i64 m.e.o.ep, .int .i64 m.s, .int .i64 m.rc, .int .i64 m.rv]) ∧ Below w.heap.size w w' := by
  subst h
  by_cases h1 : kd = 1
  · subst h1; exact told1_any ds vw sq cl tg k nm ot at_ va ep s rc rv w
  by_cases h2 : kd = 2
  · subst h2; exact told2_any ds vw sq cl tg k nm ot at_ va ep s rc rv w
  by_cases h3 : kd = 3
  · subst h3; exact told3_any ds vw sq cl tg k nm ot at_ va ep s rc rv w
  by_cases h4 : kd = 4
  · subst h4; exact told4_any ds vw sq cl tg k nm ot at_ va ep s rc rv w
  have e : told ⟨kd, ds, vw, ⟨sq, cl, tg, ⟨k, nm, ot, at_, va, ep⟩⟩, s, rc, rv⟩ = ⟨kd, ds, vw, Ent.zero, 0, 0, 0⟩ := by simp [told, h1, h2, h3, h4]
  rw [e]
  exact told0_any kd ds vw sq cl tg k nm ot at_ va ep s rc rv w h1 h2 h3 h4

set_option maxHeartbeats 3200000 in
theorem msg_equal (kd ds vw sq cl tg k : Int) (nm ot : ByteArray) (at_ va ep s rc rv : Int) (kd1 ds1 vw1 sq1 cl1 tg1 k1 at_1 va1 ep1 s1 rc1 rv1 : Int) (nm1 ot1 : ByteArray) (w : World) : (Op.equalIn 10000 38 (.agg #[.int .i64 kd, .int .i64 ds, .int .i64 vw, .int .i64 sq, .int .i64 cl, .int .i64 tg, .int .i64 k, .string nm, .string ot, .int .i64 at_, .int .i64 va, .int .i64 ep, .int .i64 s, .int .i64 rc, .int .i64 rv]) (.agg #[.int .i64 kd1, .int .i64 ds1, .int .i64 vw1, .int .i64 sq1, .int .i64 cl1, .int .i64 tg1, .int .i64 k1, .string nm1, .string ot1, .int .i64 at_1, .int .i64 va1, .int .i64 ep1, .int .i64 s1, .int .i64 rc1, .int .i64 rv1])).run Try.prog w = .ok (mgEq ⟨kd, ds, vw, ⟨sq, cl, tg, ⟨k, nm, ot, at_, va, ep⟩⟩, s, rc, rv⟩ ⟨kd1, ds1, vw1, ⟨sq1, cl1, tg1, ⟨k1, nm1, ot1, at_1, va1, ep1⟩⟩, s1, rc1, rv1⟩) w := by
  go_simp
  simp only [mgEq, entEq, oqEq, repEq, text_iff]
  by_cases e0 : kd = kd1
  case neg => simp [e0]
  rw [if_pos e0, decide_eq_true e0]
  by_cases e1 : ds = ds1
  case neg => simp [e1]
  rw [if_pos e1, decide_eq_true e1]
  by_cases e2 : vw = vw1
  case neg => simp [e2]
  rw [if_pos e2, decide_eq_true e2]
  by_cases e3 : sq = sq1
  case neg => simp [e3]
  rw [if_pos e3, decide_eq_true e3]
  by_cases e4 : cl = cl1
  case neg => simp [e4]
  rw [if_pos e4, decide_eq_true e4]
  by_cases e5 : tg = tg1
  case neg => simp [e5]
  rw [if_pos e5, decide_eq_true e5]
  by_cases e6 : k = k1
  case neg => simp [e6]
  rw [if_pos e6, decide_eq_true e6]
  by_cases e7 : nm = nm1
  case neg => simp [e7]
  rw [if_pos e7, decide_eq_true e7]
  by_cases e8 : ot = ot1
  case neg => simp [e8]
  rw [if_pos e8, decide_eq_true e8]
  by_cases e9 : at_ = at_1
  case neg => simp [e9]
  rw [if_pos e9, decide_eq_true e9]
  by_cases e10 : va = va1
  case neg => simp [e10]
  rw [if_pos e10, decide_eq_true e10]
  by_cases e11 : ep = ep1
  case neg => simp [e11]
  rw [if_pos e11, decide_eq_true e11]
  by_cases e12 : s = s1
  case neg => simp [e12]
  rw [if_pos e12, decide_eq_true e12]
  by_cases e13 : rc = rc1
  case neg => simp [e13]
  rw [if_pos e13, decide_eq_true e13]
  by_cases e14 : rv = rv1
  case neg => simp [e14]
  rw [if_pos e14, decide_eq_true e14]
  rfl

set_option maxHeartbeats 6400000 in
theorem implMsgOk_any (kd ds vw sq cl tg k : Int) (nm ot : ByteArray) (at_ va ep s rc rv : Int) (w : World) (hf : FitEnt ⟨sq, cl, tg, ⟨k, nm, ot, at_, va, ep⟩⟩) :
    Calls Try.prog 18 #[.agg #[.int .i64 kd, .int .i64 ds, .int .i64 vw, .int .i64 sq, .int .i64 cl, .int .i64 tg, .int .i64 k, .string nm, .string ot, .int .i64 at_, .int .i64 va, .int .i64 ep, .int .i64 s, .int .i64 rc, .int .i64 rv]] w fun e w' => e = .returned (.bool (msgOk ⟨kd, ds, vw, ⟨sq, cl, tg, ⟨k, nm, ot, at_, va, ep⟩⟩, s, rc, rv⟩)) ∧ Below w.heap.size w w' := by
  rw [msgOk_by]
  have HFT : Hid (FitEnt ⟨sq, cl, tg, ⟨k, nm, ot, at_, va, ep⟩⟩) := hf
  obtain ⟨m1, hm1⟩ : ∃ x, told ⟨kd, ds, vw, ⟨sq, cl, tg, ⟨k, nm, ot, at_, va, ep⟩⟩, s, rc, rv⟩ = x := ⟨_, rfl⟩
  have HB : Hid (msgBy ⟨kd, ds, vw, ⟨sq, cl, tg, ⟨k, nm, ot, at_, va, ep⟩⟩, s, rc, rv⟩ = (mgEq ⟨kd, ds, vw, ⟨sq, cl, tg, ⟨k, nm, ot, at_, va, ep⟩⟩, s, rc, rv⟩ m1 && inB vw 1 1000 && kindBy ⟨kd, ds, vw, ⟨sq, cl, tg, ⟨k, nm, ot, at_, va, ep⟩⟩, s, rc, rv⟩)) := by rw [Hid, msgBy, hm1]
  obtain ⟨W0, hW0, k0, d0, z0⟩ := box1 w #[.int .i64 kd, .int .i64 ds, .int .i64 vw, .int .i64 sq, .int .i64 cl, .int .i64 tg, .int .i64 k, .string nm, .string ot, .int .i64 at_, .int .i64 va, .int .i64 ep, .int .i64 s, .int .i64 rc, .int .i64 rv] 38
  have HW0 : Hid (W0 = _) := hW0
  have lw : w.heap.size < W0.heap.size := by omega
  have HT : ∀ q : BelowOf W0, Calls Try.prog 45 #[.agg #[.int .i64 kd, .int .i64 ds, .int .i64 vw, .int .i64 sq, .int .i64 cl, .int .i64 tg, .int .i64 k, .string nm, .string ot, .int .i64 at_, .int .i64 va, .int .i64 ep, .int .i64 s, .int .i64 rc, .int .i64 rv]] q.w' fun e w' => e = .returned (.agg #[.int .i64 m1.kd, .int .i64 m1.ds, .int .i64 m1.vw, .int .i64 m1.e.sq, .int .i64 m1.e.cl, .int .i64 m1.e.tg, .int .i64 m1.e.o.k, .string m1.e.o.nm, .string m1.e.o.ot, .int .i64 m1.e.o.at_, .int .i64 m1.e.o.va, .int .i64 m1.e.o.ep, .int .i64 m1.s, .int .i64 m1.rc, .int .i64 m1.rv]) ∧ Below q.w'.heap.size q.w' w' := fun q => told_any kd ds vw sq cl tg k nm ot at_ va ep s rc rv m1 hm1 q.w'
  have HV : ∀ q : BelowOf W0, Calls Try.prog 46 #[.int .i64 vw] q.w' fun e w' => e = .returned (.bool (inB vw 1 1000)) ∧ Below q.w'.heap.size q.w' w' := fun q => (viewNumberOk_any vw q.w').mono (by rintro e w' ⟨rfl, rfl⟩; exact ⟨rfl, Below.refl _ _⟩)
  clear hm1 hf
  obtain ⟨kd1, ds1, vw1, ⟨sq1, cl1, tg1, ⟨k1, nm1, ot1, at_1, va1, ep1⟩⟩, s1, rc1, rv1⟩ := m1
  simp only at HT
  obtain ⟨bb, hbb⟩ : ∃ b, mgEq ⟨kd, ds, vw, ⟨sq, cl, tg, ⟨k, nm, ot, at_, va, ep⟩⟩, s, rc, rv⟩ ⟨kd1, ds1, vw1, ⟨sq1, cl1, tg1, ⟨k1, nm1, ot1, at_1, va1, ep1⟩⟩, s1, rc1, rv1⟩ = b := ⟨_, rfl⟩
  have HEQ : ∀ W : World, (Op.equalIn 10000 38 (.agg #[.int .i64 kd, .int .i64 ds, .int .i64 vw, .int .i64 sq, .int .i64 cl, .int .i64 tg, .int .i64 k, .string nm, .string ot, .int .i64 at_, .int .i64 va, .int .i64 ep, .int .i64 s, .int .i64 rc, .int .i64 rv]) (.agg #[.int .i64 kd1, .int .i64 ds1, .int .i64 vw1, .int .i64 sq1, .int .i64 cl1, .int .i64 tg1, .int .i64 k1, .string nm1, .string ot1, .int .i64 at_1, .int .i64 va1, .int .i64 ep1, .int .i64 s1, .int .i64 rc1, .int .i64 rv1])).run Try.prog W = .ok bb W := fun W => by rw [← hbb]; exact msg_equal _ _ _ _ _ _ _ _ _ _ _ _ _ _ _ _ _ _ _ _ _ _ _ _ _ _ _ _ _ _ W
  rw [hbb] at HB
  have hg := Try.eqGuardType38
  clear hbb
  have hne := BelowOf.any W0
  have e0 := BelowOf.cell (show W0.cell? ⟨w.heap.size, 0, none⟩ = some (.int .i64 kd) from at_cell k0 0) lw
  have e1 := BelowOf.cell (show W0.cell? ⟨w.heap.size, 1, none⟩ = some (.int .i64 ds) from at_cell k0 1) lw
  have e2 := BelowOf.cell (show W0.cell? ⟨w.heap.size, 2, none⟩ = some (.int .i64 vw) from at_cell k0 2) lw
  have e3 := BelowOf.cell (show W0.cell? ⟨w.heap.size, 3, none⟩ = some (.int .i64 sq) from at_cell k0 3) lw
  have e4 := BelowOf.cell (show W0.cell? ⟨w.heap.size, 4, none⟩ = some (.int .i64 cl) from at_cell k0 4) lw
  have e5 := BelowOf.cell (show W0.cell? ⟨w.heap.size, 5, none⟩ = some (.int .i64 tg) from at_cell k0 5) lw
  have e6 := BelowOf.cell (show W0.cell? ⟨w.heap.size, 6, none⟩ = some (.int .i64 k) from at_cell k0 6) lw
  have e7 := BelowOf.cell (show W0.cell? ⟨w.heap.size, 7, none⟩ = some (.string nm) from at_cell k0 7) lw
  have e8 := BelowOf.cell (show W0.cell? ⟨w.heap.size, 8, none⟩ = some (.string ot) from at_cell k0 8) lw
  have e9 := BelowOf.cell (show W0.cell? ⟨w.heap.size, 9, none⟩ = some (.int .i64 at_) from at_cell k0 9) lw
  have e10 := BelowOf.cell (show W0.cell? ⟨w.heap.size, 10, none⟩ = some (.int .i64 va) from at_cell k0 10) lw
  have e11 := BelowOf.cell (show W0.cell? ⟨w.heap.size, 11, none⟩ = some (.int .i64 ep) from at_cell k0 11) lw
  have e12 := BelowOf.cell (show W0.cell? ⟨w.heap.size, 12, none⟩ = some (.int .i64 s) from at_cell k0 12) lw
  have e13 := BelowOf.cell (show W0.cell? ⟨w.heap.size, 13, none⟩ = some (.int .i64 rc) from at_cell k0 13) lw
  have e14 := BelowOf.cell (show W0.cell? ⟨w.heap.size, 14, none⟩ = some (.int .i64 rv) from at_cell k0 14) lw
  clear hW0 z0
  go_enter Try.func18, Try.ntmps18
  go_upto_region 1 with fail
  rw [← HW0.out]
  clear HW0
  cases bb
  · refine wp_region_of (by kernel_rfl) (by kernel_rfl) ?_
    repeat (go_big_quiet_step ((first | (go_at_call 45; exact calls_of (HT _)) | (go_at_call 46; exact calls_of (HV _)) | rfl)))
    refine wpQuiet_nil ?_
    intro w5 hw5
    obtain ⟨⟨wx, cx⟩, hwx⟩ := hw5
    have b5 : Below W0.heap.size W0 w5 := by rw [hwx]; exact cx
    replace d0 := bw_call d0 b5
    clear hwx cx wx hne HT HV HEQ hg e0 e1 e2 e3 e4 e5 e6 e7 e8 e9 e10 e11 e12 e13 e14
    go_wp2_with fail
    go_ret
    exact ⟨ret_bool (by rw [HB.out]; rfl), d0⟩
  obtain ⟨bv, hbv⟩ : ∃ b, inB vw 1 1000 = b := ⟨_, rfl⟩
  rw [hbv] at HV HB
  clear hbv
  cases bv
  · refine wp_region_of (by kernel_rfl) (by kernel_rfl) ?_
    repeat (go_big_quiet_step ((first | (go_at_call 45; exact calls_of (HT _)) | (go_at_call 46; exact calls_of (HV _)) | rfl)))
    refine wpQuiet_nil ?_
    intro w5 hw5
    obtain ⟨⟨wx, cx⟩, hwx⟩ := hw5
    have b5 : Below W0.heap.size W0 w5 := by rw [hwx]; exact cx
    replace d0 := bw_call d0 b5
    clear hwx cx wx hne HT HV HEQ hg e0 e1 e2 e3 e4 e5 e6 e7 e8 e9 e10 e11 e12 e13 e14
    go_wp2_with fail
    go_ret
    exact ⟨ret_bool (by rw [HB.out]; rfl), d0⟩
  refine wp_region_of (by kernel_rfl) (by kernel_rfl) ?_
  repeat (go_big_quiet_step ((first | (go_at_call 45; exact calls_of (HT _)) | (go_at_call 46; exact calls_of (HV _)) | rfl)))
  refine wpQuiet_nil ?_
  intro w5 hw5
  obtain ⟨⟨wx, cx⟩, hwx⟩ := hw5
  have b5 : Below W0.heap.size W0 w5 := by rw [hwx]; exact cx
  replace d0 := bw_call d0 b5
  replace k0 := (b5.block _ lw).trans k0
  clear hwx cx wx hne HT HV HEQ hg e0 e1 e2 e3 e4 e5 e6 e7 e8 e9 e10 e11 e12 e13 e14
  replace HB : Hid (msgBy ⟨kd, ds, vw, ⟨sq, cl, tg, ⟨k, nm, ot, at_, va, ep⟩⟩, s, rc, rv⟩ = kindBy ⟨kd, ds, vw, ⟨sq, cl, tg, ⟨k, nm, ot, at_, va, ep⟩⟩, s, rc, rv⟩) := by rw [Hid, HB.out]; rfl
  obtain ⟨⟨hn, ho⟩, -, -, -, fk, fa, fv, fe⟩ := HFT.out
  simp only at hn ho fk fa fv fe
  have p0 := at_cell k0 0
  have p1 := at_cell k0 1
  have p2 := at_cell k0 2
  have p3 := at_cell k0 3
  have p4 := at_cell k0 4
  have p5 := at_cell k0 5
  have p6 := at_cell k0 6
  have p7 := at_cell k0 7
  have p8 := at_cell k0 8
  have p9 := at_cell k0 9
  have p10 := at_cell k0 10
  have p11 := at_cell k0 11
  have p12 := at_cell k0 12
  have p13 := at_cell k0 13
  have p14 := at_cell k0 14
  by_cases h1 : kd = 1
  · subst h1
    go_wp2_with fail
    refine (houseIdOk_any ds _).mono ?_
    rintro e w' ⟨rfl, rfl⟩
    obtain ⟨bd, hbd⟩ : ∃ b, inB ds 0 3 = b := ⟨_, rfl⟩
    have HBD : Hid (inB ds 0 3 = bd) := hbd
    rw [hbd]
    clear hbd
    cases bd
    · go_wp2_with fail
      go_ret
      exact ⟨ret_bool (by rw [HB.out]; simp [kindBy, HBD.out]), d0⟩
    go_wp2_with fail
    refine (askedOk_any sq cl tg k nm ot at_ va ep _ HFT.out).mono ?_
    rintro e w1 ⟨rfl, b1⟩
    replace d0 := bw_call d0 b1
    go_wp2_with fail
    go_ret
    exact ⟨ret_bool (by rw [HB.out]; simp [kindBy, HBD.out]), d0⟩
  by_cases h2 : kd = 2
  · subst h2
    go_wp2_with fail
    refine (houseIdOk_any ds _).mono ?_
    rintro e w' ⟨rfl, rfl⟩
    obtain ⟨bd, hbd⟩ : ∃ b, inB ds 0 3 = b := ⟨_, rfl⟩
    have HBD : Hid (inB ds 0 3 = bd) := hbd
    rw [hbd]
    clear hbd
    cases bd
    · go_wp2_with fail
      go_ret
      exact ⟨ret_bool (by rw [HB.out]; simp [kindBy, HBD.out]), d0⟩
    go_wp2_with fail
    refine (implEntryOk_any sq cl tg k nm ot at_ va ep _ HFT.out).mono ?_
    rintro e w1 ⟨rfl, b1⟩
    replace d0 := bw_call d0 b1
    go_wp2_with fail
    go_ret
    exact ⟨ret_bool (by rw [HB.out]; simp [kindBy, HBD.out]), d0⟩
  by_cases h3 : kd = 3
  · subst h3
    go_wp2_with fail
    refine (houseIdOk_any ds _).mono ?_
    rintro e w' ⟨rfl, rfl⟩
    obtain ⟨bd, hbd⟩ : ∃ b, inB ds 0 3 = b := ⟨_, rfl⟩
    have HBD : Hid (inB ds 0 3 = bd) := hbd
    rw [hbd]
    clear hbd
    cases bd
    · go_wp2_with fail
      go_ret
      exact ⟨ret_bool (by rw [HB.out]; simp [kindBy, HBD.out]), d0⟩
    go_wp2_with fail
    refine (within_any s 1 120 _).mono ?_
    rintro e w' ⟨rfl, rfl⟩
    go_wp2_with fail
    go_ret
    exact ⟨ret_bool (by rw [HB.out]; simp [kindBy, HBD.out]), d0⟩
  by_cases h4 : kd = 4
  · subst h4
    by_cases ht : ds = cl
    case neg =>
      go_wp2_with fail
      go_ret
      exact ⟨ret_bool (by rw [HB.out]; simp [kindBy, ht]), d0⟩
    subst ht
    go_wp2_with fail
    refine (askedOk_any sq ds tg k nm ot at_ va ep _ HFT.out).mono ?_
    rintro e w1 ⟨rfl, b1⟩
    replace d0 := bw_call d0 b1
    have l1 := heap_lt k0
    replace k0 := (b1.block _ l1).trans k0
    obtain ⟨ba, hba⟩ : ∃ b, asked ⟨sq, ds, tg, ⟨k, nm, ot, at_, va, ep⟩⟩ = b := ⟨_, rfl⟩
    have HBA : Hid (asked ⟨sq, ds, tg, ⟨k, nm, ot, at_, va, ep⟩⟩ = ba) := hba
    rw [hba]
    clear hba
    clear p0 p1 p2 p3 p4 p5 p6 p7 p8 p9 p10 p11 p12 p13 p14
    have p0 := at_cell k0 0
    have p1 := at_cell k0 1
    have p2 := at_cell k0 2
    have p3 := at_cell k0 3
    have p4 := at_cell k0 4
    have p5 := at_cell k0 5
    have p6 := at_cell k0 6
    have p7 := at_cell k0 7
    have p8 := at_cell k0 8
    have p9 := at_cell k0 9
    have p10 := at_cell k0 10
    have p11 := at_cell k0 11
    have p12 := at_cell k0 12
    have p13 := at_cell k0 13
    have p14 := at_cell k0 14
    cases ba
    · go_wp2_with fail
      go_ret
      exact ⟨ret_bool (by rw [HB.out]; simp [kindBy, HBA.out]), d0⟩
    go_wp2_with fail
    refine (within_any s 0 120 _).mono ?_
    rintro e w' ⟨rfl, rfl⟩
    obtain ⟨bi, hbi⟩ : ∃ b, inB s 0 120 = b := ⟨_, rfl⟩
    have HBI : Hid (inB s 0 120 = bi) := hbi
    rw [hbi]
    clear hbi
    cases bi
    · go_wp2_with fail
      go_ret
      exact ⟨ret_bool (by rw [HB.out]; simp [kindBy, HBA.out, HBI.out]), d0⟩
    go_wp2_with fail
    refine (implReplyOk_any rc rv _).mono ?_
    rintro e w2 ⟨rfl, b2⟩
    replace d0 := bw_call d0 b2
    go_wp2_with fail
    go_ret
    exact ⟨ret_bool (by rw [HB.out]; simp [kindBy, HBA.out, HBI.out]), d0⟩
  go_wp2_with fail
  go_ret
  exact ⟨ret_bool (by rw [HB.out]; simp [kindBy, h1, h2, h3, h4]), d0⟩
end Go.Proofs.Ytghhphhnalfjaaa

namespace Go.Proofs.Ytghhphhnalfjaaa
open Go.RowKit

set_option linter.unusedVariables false

set_option maxRecDepth 100000


/-! a step of the range, a line's making -/
section
variable {P : Program} {ops : Array Oper} {rest : List Oper} {o : Oper} {a : Act} {Q : Exit → Act → World → Prop}
theorem ranges_block {w w' : World} {b r n : Nat} {D : DataW Unit} {left : Lit → Bool} {cnt : Nat} (h : w.ranges Try.prog 38 bagR b r n D left cnt) (e1 : w'.heap[b]? = w.heap[b]?) (e2 : w'.heap[r]? = w.heap[r]?) : w'.ranges Try.prog 38 bagR b r n D left cnt := by
  obtain ⟨es, clock, since, seen, c0, hb, F, hs, hD, hr, rest⟩ := h
  exact ⟨es, clock, since, seen, c0, e1.trans hb, F, hs, hD, e2.trans hr, rest⟩

theorem ranges_below {w w' : World} {b r n : Nat} {D : DataW Unit} {left : Lit → Bool} {cnt : Nat} (h : w.ranges Try.prog 38 bagR b r n D left cnt) (k : Below w.heap.size w w') : w'.ranges Try.prog 38 bagR b r n D left cnt :=
  ranges_block h (k.block _ h.owns.lt) (k.block _ h.lt)

theorem ranges_upto {w w' : World} {b r n g : Nat} {D : DataW Unit} {left : Lit → Bool} {cnt : Nat} (h : w.ranges Try.prog 38 bagR b r n D left cnt) (k : Upto g w w') (h1 : b ≠ g) (h2 : r ≠ g) : w'.ranges Try.prog 38 bagR b r n D left cnt :=
  ranges_block h (k.block _ h.owns.lt h1) (k.block _ h.lt h2)

theorem wpList_next_bag (w : World) (hg : o.guard = none) (it : Operand) (hop : o.op = Op.next it false) (b r n : Nat) (D : DataW Unit) (f : Nat → Option Mg) (hB : BagD D f) (left : Lit → Bool) (cnt : Nat) (hsub : ∀ kl, left kl = true → Maps.has D kl = true)
    (hit : a.eval it = .pointer (some ⟨r, 0, none⟩)) (h : w.ranges Try.prog 38 bagR b r n D left cnt)
    (hDone : (∀ kl, left kl = false) → wpList Try.prog ops Q rest (a.put o.dst (.tuple #[.bool false])) w)
    (hMore : ∀ (m : Mg) (c : Nat) (kl : Lit) (w' : World) (cnt' : Nat), FitMsg m → keyOf Try.prog 38 (mgV m) = some kl → left kl = true → MaskOf c f m → w'.ranges Try.prog 38 bagR b r n D (fun z => left z && !z.sameKey kl) cnt' → cnt' < cnt →
      w.grownBy w' (some r) → w'.heap.size = w.heap.size → (Instr.entry (.pointer (some ⟨r, 0, none⟩))).run Try.prog w' = .ok (.tuple #[mgV m, .int .u64 (c : Int)]) w' → wpList Try.prog ops Q rest (a.put o.dst (.tuple #[.bool true, mgV m, .int .u64 (c : Int)])) w') :
    wpList Try.prog ops Q (o :: rest) a w := by
  refine wpList_plain hg fun K' hK' => ?_
  unfold Oper.wp
  rcases h.next bagKeys o.type with ⟨h0, hl, hrun⟩ | ⟨key, v, kl, y, w', cnt', hkey, hlk, hv, hat, hrun, hrg, hlt, hgr, hsz, hen⟩
  · simp [execOp, hop, hit, hrun, Result.andThen]
    exact hK' _ _ (hDone hl)
  · obtain ⟨m, hfm, hkm⟩ := hB.known kl (hsub kl hlk)
    obtain rfl := bagKeys.inj hkey hkm
    obtain ⟨x, rfl, rfl, hwx⟩ := plainElem_int_inv Try.underlying107 hv
    obtain ⟨c, hc, hm⟩ := hB.at_ m kl hkm
    have e := (hat (setD 0)).symm.trans hc
    simp only [setD, DataW.lit.injEq, Lit.int.injEq, true_and] at e
    subst e
    simp [execOp, hop, hit, hrun, Result.andThen]
    exact hK' _ _ (hMore m c kl w' cnt' hfm hkm hlk hm hrg hlt hgr hsz hen)

theorem wpList_index_of {w : World} (hgd : o.guard = none) (t : TypeId) (x ix : Operand) (ho : o.op = .index t x ix) (u i : Value) (hu : a.eval x = u) (hi : a.eval ix = i) (v : Value) (hr : (Instr.index t u i).run P w = .ok v w) (h : wpList P ops Q rest (a.put o.dst v) w) : wpList P ops Q (o :: rest) a w :=
  wpList_plain hgd fun K hK => by
    have hKK := hK _ _ h
    unfold Oper.wp execOp
    simp only [ho, hu, hi, Sem.run_bind, Sem.run_pure, Result.andThen_ok, hr]
    exact hKK

theorem wpList_storeAt_of {w : World} (hgd : o.guard = none) (p x : Operand) (t : TypeId) (ho : o.op = .store t p x) (ad v : Value) (hp : a.eval p = ad) (hx : a.eval x = v) (w' : World) (hr : (Instr.storeAt t ad v).run P w = .ok () w') (h : wpList P ops Q rest (a.put o.dst undef) w') : wpList P ops Q (o :: rest) a w :=
  wpList_plain hgd fun K hK => by
    have hKK := hK _ _ h
    unfold Oper.wp execOp
    simp only [ho, hp, hx, Sem.run_bind, Sem.run_pure, Result.andThen_ok, hr]
    exact hKK

end

/-- The cells of sixty letters. -/
def lineC (l : List Mg) : Array Value := (l.flatMap mgC).toArray

theorem lineC_size (l : List Mg) : (lineC l).size = l.length * 15 := by
  unfold lineC
  rw [List.size_toArray, flat_length mgC_len]

theorem lineC_one (l : List Mg) : (lineC l).all (·.oneCell') = true := by
  rw [Array.all_eq_true_iff_forall_mem]
  intro u hu
  exact msgs_one l u (by simpa [lineC] using hu)

def zeros60 : List Mg := List.replicate 60 Mg.zero

theorem zc60 : Try.zeroCells110 = lineC zeros60 := by kernel_rfl

theorem size60 : (Try.prog.info? 110).map (·.size) = some 900 := by kernel_rfl

theorem sizeMsg15 : (Try.prog.info? 38).map (·.size) = some 15 := by kernel_rfl

theorem index60 (W : World) (l : List Mg) (i : Nat) (hi : i < 60) (m : Mg) (hm : l[i]? = some m) : (Instr.index 110 (.agg (lineC l)) (.int .i64 (i : Int))).run Try.prog W = .ok (mgV m) W := by
  have h15 := sizeMsg15
  have h0 : (0 : Int) ≤ (i : Int) := by omega
  have h1 : (i : Int) < 60 := by omega
  have e : (lineC l).extract (i * 15) (i * 15 + 15) = #[.int .i64 m.kd, .int .i64 m.ds, .int .i64 m.vw, .int .i64 m.e.sq, .int .i64 m.e.cl, .int .i64 m.e.tg, .int .i64 m.e.o.k, .string m.e.o.nm, .string m.e.o.ot, .int .i64 m.e.o.at_, .int .i64 m.e.o.va, .int .i64 m.e.o.ep, .int .i64 m.s, .int .i64 m.rc, .int .i64 m.rv] := by
    have hil : i < l.length := by
      rcases Nat.lt_or_ge i l.length with q | q
      · exact q
      · rw [List.getElem?_eq_none q] at hm; cases hm
    apply Array.ext_getElem?
    intro j
    rw [Array.getElem?_extract]
    have hs := lineC_size l
    by_cases hj : j < 15
    · rw [if_pos (by rw [hs]; omega)]
      show (l.flatMap mgC).toArray[i * 15 + j]? = _
      rw [List.getElem?_toArray, flat_get mgC_len l i j m hm hj]
      show (mgC m)[j]? = (mgC m).toArray[j]?
      rw [List.getElem?_toArray]
    · rw [if_neg (by rw [hs]; omega)]
      rw [Array.getElem?_eq_none (by simp; omega)]
  cases hq : Try.prog.info? 38 with
  | none => rw [hq] at h15; cases h15
  | some i0 =>
    rw [hq] at h15
    simp only [Option.map_some, Option.some.injEq] at h15
    simp [Instr.index, asIntOf, run_underlying Try.underlying110, run_underlying Try.underlying38, sizeOf, typeInfo, hq, h15, h0, part, isAgg, e, mgV]
    intro h
    omega

/-- All letters of a bag that is nothing but a list's are right just where the list's are. -/
theorem right_yes {D : DataW Unit} {l : List Mg} (hB : BagD D (placesOf l)) (hl : l.length ≤ 60) (hf : FitPost l) (h : ∀ m kl, keyOf Try.prog 38 (mgV m) = some kl → Maps.has D kl = true → msgOk m = true) : allOk l = true := by
  unfold allOk
  rw [List.all_eq_true]
  intro m hm
  obtain ⟨i, hi, e⟩ := List.getElem_of_mem hm
  obtain ⟨kl, hkl⟩ := key_of (hf m hm)
  exact h m kl hkl (hB.all i m kl (by omega) (by rw [placesOf, List.getElem?_eq_getElem hi, e]) hkl)

theorem right_no {D : DataW Unit} {l : List Mg} (hT : Tight D (placesOf l)) {m : Mg} {kl : Lit} (hk : keyOf Try.prog 38 (mgV m) = some kl) (hh : Maps.has D kl = true) (h : msgOk m = false) : allOk l = false := by
  obtain ⟨p, hp, e⟩ := hT m kl hk hh
  unfold placesOf at e
  have hpl : p < l.length := by
    rcases Nat.lt_or_ge p l.length with q | q
    · exact q
    · rw [List.getElem?_eq_none q] at e; cases e
  refine allOk_no hpl ?_
  rw [List.getElem?_eq_getElem hpl] at e
  cases e
  exact h

set_option maxHeartbeats 1600000 in
theorem right_any (b n : Nat) (l : List Mg) (w : World) (T : BagT w b n (placesOf l)) (hl : l.length ≤ 60) (hf : FitPost l) :
    Calls Try.prog 76 #[.map (some b)] w fun e w' => e = .returned (.bool (allOk l)) ∧ Below w.heap.size w w' := by
  have hbw := T.lt
  obtain ⟨D, own, hB, hT⟩ := T.ex
  clear T
  go_enter Try.func76, Try.ntmps76
  go_wp2_with (first
    | (at_range; refine wpList_range_own _ rfl _ 68 rfl 38 107 bagKeys Try.underlying68 bagR b n D rfl own ?_; intro w0 hrg0 hg0 hs0)
    | fail)
  go_frame
  have d0 : Below w.heap.size w w0 := (Below.refl _ _).grown hg0 (by omega) (fun j hj => by cases hj)
  go_loopw [2] (fun i wr => i = .bool false ∧ ∃ (left : Lit → Bool) (cnt : Nat), wr.ranges Try.prog 38 bagR b w.heap.size n D left cnt ∧ Below w.heap.size w wr ∧ (∀ kl, left kl = true → Maps.has D kl = true) ∧ (∀ m kl, keyOf Try.prog 38 (mgV m) = some kl → Maps.has D kl = true → left kl = true ∨ msgOk m = true))
    (fun _ wr => wr.rangeLeft b w.heap.size)
  case atStart => exact ⟨rfl, _, _, hrg0, d0, fun _ h => h, fun _ _ _ h => .inl h⟩
  case round =>
    clear hrg0 d0 hg0 hs0
    obtain ⟨rfl, left, cnt, hrg, hd, hsub, hdo⟩ := hrel
    have HDO : Hid _ := hdo
    have HSUB : Hid _ := hsub
    clear hdo
    go_wp2_with (first
      | (at_next; refine wpList_next_bag _ rfl _ rfl b w.heap.size n D (placesOf l) hB left cnt hsub rfl hrg ?_ ?_)
      | fail)
    · intro hl0
      have HV : Hid (allOk l = true) := right_yes hB hl hf fun m kl hk hh => (HDO.out m kl hk hh).elim (fun q => by rw [hl0] at q; cases q) id
      go_wp2_with fail
      go_ret
      exact ⟨ret_bool HV.out.symm, hd⟩
    · intro m c kl w1 cnt1 hfm hkm hlk hmask hrg1 hlt hg1 hs1 hen
      have hd1 : Below w.heap.size w w1 := hd.grown hg1 hd.size (fun j hj => by cases hj; exact Nat.le_refl _)
      have hlw := hrg1.lt
      have HK : Hid _ := And.intro hkm (And.intro hlk (And.intro hrg1 hlt))
      obtain ⟨kd, ds, vw, ⟨sq, cl, tg, ⟨k, nm, ot, at_, va, ep⟩⟩, s, rc, rv⟩ := m
      have HFE : Hid (FitEnt ⟨sq, cl, tg, ⟨k, nm, ot, at_, va, ep⟩⟩) := hfm.1
      simp only [mgV] at hen ⊢
      clear hkm hlk hmask hrg1 hg1 hfm
      go_wp2_with (first
        | (with_reducible refine wpList_store_arr rfl _ _ 38 rfl w1.heap.size rfl #[.int .i64 kd, .int .i64 ds, .int .i64 vw, .int .i64 sq, .int .i64 cl, .int .i64 tg, .int .i64 k, .string nm, .string ot, .int .i64 at_, .int .i64 va, .int .i64 ep, .int .i64 s, .int .i64 rc, .int .i64 rv] rfl _ 38 (heap_alloc_new w1 _) sizeMsg15 rfl rfl ?_)
        | fail)
      refine (implMsgOk_any kd ds vw sq cl tg k nm ot at_ va ep s rc rv _ HFE.out).mono ?_
      rintro e w2 ⟨rfl, b2⟩
      have hb2 : Below w1.heap.size w1 w2 := bw_call (bw_alloc (Below.refl _ _)) b2
      have hd2 := bw_call hd1 hb2
      have hrg2 := ranges_below HK.out.2.2.1 hb2
      have hcnt : w2.rangeLeft b w.heap.size < wr.rangeLeft b w.heap.size := by rw [hrg2.left_eq, hrg.left_eq]; exact hlt
      cases hok : msgOk ⟨kd, ds, vw, ⟨sq, cl, tg, ⟨k, nm, ot, at_, va, ep⟩⟩, s, rc, rv⟩
      · have HV : Hid (allOk l = false) := right_no hT HK.out.1 (HSUB.out kl HK.out.2.1) hok
        clear hok hrg2 b2 hb2
        go_wp2_with fail
        go_ret
        exact ⟨ret_bool HV.out.symm, hd2⟩
      · have HN : Hid _ := And.intro hrg2 (And.intro hd2 (And.intro hcnt hok))
        clear hok hrg2 b2 hb2 hd2 hcnt
        go_wp2_with fail
        go_roundw
        case rel =>
          refine ⟨rfl, _, cnt1, HN.out.1, HN.out.2.1, fun kl' h => HSUB.out kl' (Bool.and_eq_true_iff.1 h).1, fun m' kl' hk' hh => ?_⟩
          rcases HDO.out m' kl' hk' hh with q | q
          · by_cases e : kl' = kl
            · subst e
              obtain rfl := key_same HK.out.1 hk'
              exact .inr HN.out.2.2.2
            · exact .inl (by rw [q, Maps.sameKey_ne e]; rfl)
          · exact .inr q
        case measure => exact HN.out.2.2.1
end Go.Proofs.Ytghhphhnalfjaaa

