/-
  Contracts and plain laws, one chapter behind the other.
-/
import Derived.Orders
import Derived.WalkKit
import Derived.Deep.DeepCutAuto
import Derived.Deep.RegionHeld3
import Derived.Laws.CopyOwn
import Derived.Deep.MidRow
import Derived.Test.YtibhepekmihagaaGreatDoorM01
import Derived.Test.YtibhepekmihagaaGreatDoorM02
import Derived.Test.YtibhepekmihagaaGreatDoorM03
import Derived.Test.YtibhepekmihagaaGreatDoorM05
import Derived.Test.YtibhepekmihagaaGreatDoorM07
import Derived.Test.YtibhepekmihagaaGreatDoorM11
import Derived.Test.YtibhepekmihagaaGreatDoorM18
import Derived.Test.YtibhepekmihagaaGreatDoorM30
namespace Go.Proofs.YtibhepekmihagaaGreatDoor
open Go.RowKit

set_option linter.unusedVariables false

set_option maxRecDepth 100000


theorem filter_le' {p q : Nat → Bool} : ∀ (l : List Nat), (∀ x ∈ l, q x = true → p x = true) → (l.filter q).length ≤ (l.filter p).length
  | [], _ => Nat.le_refl _
  | x :: l, h => by
    have ih := filter_le' l (fun y hy => h y (List.mem_cons_of_mem _ hy))
    have hx := h x (List.mem_cons_self ..)
    rw [List.filter_cons, List.filter_cons]
    cases hq : q x
    · cases hp : p x
      · simpa using ih
      · simp only [Bool.false_eq_true, if_false, if_true, List.length_cons]; omega
    · rw [hx hq]
      simp only [if_true, List.length_cons]; omega

theorem filter_lt' {p q : Nat → Bool} {i : Nat} (hp : p i = true) (hq : q i = false) : ∀ (l : List Nat), (∀ x ∈ l, q x = true → p x = true) → i ∈ l → (l.filter q).length < (l.filter p).length
  | [], _, h => by simp at h
  | x :: l, hpq, h => by
    have hle := filter_le' l (fun y hy => hpq y (List.mem_cons_of_mem _ hy))
    rw [List.filter_cons, List.filter_cons]
    rcases List.mem_cons.1 h with rfl | h'
    · rw [hp, hq]
      simp only [Bool.false_eq_true, if_false, if_true, List.length_cons]; omega
    · have ih := filter_lt' hp hq l (fun y hy => hpq y (List.mem_cons_of_mem _ hy)) h'
      have hx := hpq x (List.mem_cons_self ..)
      cases hq2 : q x
      · cases hp2 : p x
        · simpa using ih
        · simp only [Bool.false_eq_true, if_false, if_true, List.length_cons]; omega
      · rw [hx hq2]
        simp only [if_true, List.length_cons]; omega

section
variable {P : Program} {ops : Array Oper} {Q : Exit → Act → World → Prop} {md : Region.Mode}

theorem ready_mem {L : Array Bool} {i : Nat} (h : i ∈ Region.ready md ops L) : i < ops.size ∧ L.getD i true = false ∧ ∃ o, ops[i]? = some o ∧ ∀ e ∈ o.after, Region.binds md e = true → L.getD e.on false = true := by
  simp only [Region.ready, List.mem_filter, List.mem_range, Bool.and_eq_true, Bool.not_eq_true'] at h
  obtain ⟨h1, h2, h3⟩ := h
  refine ⟨h1, h2, ops[i], Array.getElem?_eq_getElem h1, fun e he hb => ?_⟩
  rw [Array.getElem?_eq_getElem h1] at h3
  simp only [Option.map_some, Option.getD_some, Array.all_eq_true_iff_forall_mem] at h3
  have := h3 e he
  rw [hb] at this
  simpa using this

/-- Does operation i wait for operation k? -/
def depB (md : Region.Mode) (ops : Array Oper) (i k : Nat) : Bool := ((ops[i]?).map (fun o => o.after.any (fun e => e.on == k && Region.binds md e))).getD false

/-- What is done has done what it waits for. -/
def Down (md : Region.Mode) (ops : Array Oper) (L : Array Bool) : Prop := ∀ i k, L.getD i false = true → depB md ops i k = true → L.getD k false = true

theorem ready_dep {L : Array Bool} {i k : Nat} (h : i ∈ Region.ready md ops L) (hk : depB md ops i k = true) : L.getD k false = true := by
  obtain ⟨-, -, o, ho, hd⟩ := ready_mem h
  unfold depB at hk
  rw [ho] at hk
  simp only [Option.map_some, Option.getD_some, Array.any_eq_true'] at hk
  obtain ⟨e, he, hk⟩ := hk
  simp only [Bool.and_eq_true, beq_iff_eq] at hk
  rw [← hk.1]
  exact hd e he hk.2

theorem Down.not {L : Array Bool} {i k : Nat} (h : Down md ops L) (hk : depB md ops i k = true) (hn : L.getD k true = false) : L.getD i false = false := by
  rw [Bool.eq_false_iff]
  intro hi
  have := h i k hi hk
  simp only [Array.getD_eq_getD_getElem?] at this hn
  cases hL : L[k]? with
  | none => rw [hL] at hn; simp at hn
  | some b => rw [hL] at hn this; simp only [Option.getD_some] at hn this; rw [hn] at this; cases this

theorem Down.step {L : Array Bool} {i : Nat} (h : Down md ops L) (hz : L.size = ops.size) (hi : i ∈ Region.ready md ops L) : Down md ops (L.setIfInBounds i true) := fun j k hj hk => by
  have up : ∀ k, L.getD k false = true → (L.setIfInBounds i true).getD k false = true := fun k hk => by
    by_cases e : i = k
    · subst e
      have := (ready_mem hi).1
      simp [Array.getD_eq_getD_getElem?, hz, this]
    · simpa [Array.getD_eq_getD_getElem?, e] using hk
  by_cases e : i = j
  · subst e
    exact up k (ready_dep hi hk)
  · exact up k (h j k (by simpa [Array.getD_eq_getD_getElem?, e] using hj) hk)

theorem not_done {L : Array Bool} {i : Nat} (hn : L.getD i true = false) : L.getD i false = false := by
  simp only [Array.getD_eq_getD_getElem?] at hn ⊢
  cases hL : L[i]? with
  | none => rw [hL] at hn; simp at hn
  | some b => rw [hL] at hn; simpa using hn

/-- Where each operation waits for earlier ones alone and nothing is ready, all is done. -/
def backB (md : Region.Mode) (ops : Array Oper) : Bool := (List.range ops.size).all (fun i => ((ops[i]?).map (fun o => o.after.toList.all (fun e => !Region.binds md e || decide (e.on < i)))).getD false)

theorem all_done {L : Array Bool} (hz : L.size = ops.size) (hr : Region.ready md ops L = []) (hb : backB md ops = true) : ∀ i, i < ops.size → L.getD i false = true := by
  intro i
  induction i using Nat.strongRecOn with
  | _ i ih =>
    intro hi
    refine Classical.byContradiction fun hc => ?_
    have hni : L.getD i true = false := by
      simp only [Array.getD_eq_getD_getElem?] at hc ⊢
      rw [Array.getElem?_eq_getElem (by omega)] at hc ⊢
      simpa using hc
    have hm : i ∈ Region.ready md ops L := by
      simp only [Region.ready, List.mem_filter, List.mem_range, Bool.and_eq_true, Bool.not_eq_true']
      refine ⟨hi, hni, ?_⟩
      rw [Array.getElem?_eq_getElem hi]
      simp only [Option.map_some, Option.getD_some, Array.all_eq_true_iff_forall_mem]
      intro e he
      unfold backB at hb
      rw [List.all_eq_true] at hb
      have h1 := hb i (List.mem_range.2 hi)
      rw [Array.getElem?_eq_getElem hi] at h1
      simp only [Option.map_some, Option.getD_some, List.all_eq_true] at h1
      have h2 := h1 e (by simpa using he)
      cases hbi : Region.binds md e
      · rfl
      · rw [hbi] at h2
        have h3 : e.on < i := by simpa using h2
        rw [ih e.on h3 (by omega)]
        rfl
    rw [hr] at hm
    simp at hm

theorem wpAny_inv {I : Array Bool → Act → World → Prop} (hs : ∀ L a x i, L.size = ops.size → Down md ops L → i ∈ Region.ready md ops L → I L a x → wpOp P ops Q i (I (L.setIfInBounds i true)) a x) (he : ∀ L a x, L.size = ops.size → Down md ops L → Region.ready md ops L = [] → I L a x → Q .normal a x) :
    ∀ (fuel : Nat) (L : Array Bool) (a : Act) (x : World), L.size = ops.size → Down md ops L → ((List.range ops.size).filter (fun i => !L.getD i true)).length ≤ fuel → I L a x → wpAny P md ops Q fuel L a x := by
  intro fuel
  induction fuel with
  | zero =>
    intro L a x hz hD hc h
    have hr : Region.ready md ops L = [] := by
      rw [List.eq_nil_iff_forall_not_mem]
      intro i hi
      obtain ⟨h1, h2, -⟩ := ready_mem hi
      have : i ∈ (List.range ops.size).filter (fun i => !L.getD i true) := by
        rw [List.mem_filter]
        exact ⟨List.mem_range.2 h1, by rw [h2]; rfl⟩
      rw [List.length_eq_zero_iff.1 (Nat.le_zero.1 hc)] at this
      simp at this
    exact ⟨hr, he L a x hz hD hr h⟩
  | succ fuel ih =>
    intro L a x hz hD hc h
    refine ⟨fun hr => he L a x hz hD hr h, fun i hi => wpOp_mono (fun a' x' h' => ih _ a' x' (by rw [Array.size_setIfInBounds]; exact hz) (hD.step hz hi) ?_ h') (hs L a x i hz hD hi h)⟩
    obtain ⟨h1, h2, -⟩ := ready_mem hi
    have hlt := filter_lt' (p := fun j => !L.getD j true) (q := fun j => !(L.setIfInBounds i true).getD j true) (i := i) (by simp only [h2]; rfl) (by simp only [Array.getD_eq_getD_getElem?, Array.getElem?_setIfInBounds_self, hz, h1]; simp) (List.range ops.size) (fun j _ hj => by
      by_cases e : i = j
      · subst e
        simp only [Array.getD_eq_getD_getElem?, Array.getElem?_setIfInBounds_self, hz, h1] at hj
        simp at hj
      · simp only [Array.getD_eq_getD_getElem?, Array.getElem?_setIfInBounds, e, if_false] at hj ⊢
        exact hj) (List.mem_range.2 h1)
    omega

theorem wp_region_inv {I : Array Bool → Act → World → Prop} {id : Nat} {a : Act} {w : World} (hm : P.follows .mixedOrders = true) (h0 : I (Array.replicate ops.size false) a w.drew)
    (hs : ∀ L a x i, L.size = ops.size → Down .any ops L → i ∈ Region.ready .any ops L → I L a x → wpOp P ops Q i (I (L.setIfInBounds i true)) a x) (he : ∀ L a x, L.size = ops.size → Down .any ops L → Region.ready .any ops L = [] → I L a x → Q .normal a x) : (Code.region id ops true).wp P Q a w :=
  wp_region_any hm (wpAny_inv hs he ops.size _ a _ (by simp) (fun i k hi => by rw [Array.getD_eq_getD_getElem?, Array.getElem?_replicate] at hi; split at hi <;> simp at hi) (by refine Nat.le_trans (List.length_filter_le ..) ?_; simp) h0)

end
end Go.Proofs.YtibhepekmihagaaGreatDoor

namespace Go.Proofs.YtibhepekmihagaaGreatDoor
open Go.RowKit

set_option linter.unusedVariables false

set_option maxRecDepth 100000


section
variable {P : Program} {ops : Array Oper} {Q : Exit → Act → World → Prop}

theorem wpOp_of {i : Nat} {o : Oper} {K : Act → World → Prop} {a : Act} {x : World} (ho : ops[i]? = some o) (hg : o.guard = none) (h : o.wp P a x K Q) : wpOp P ops Q i K a x := by
  unfold wpOp
  rw [ho]
  simp only
  rw [if_pos (by simp [Region.wanted, hg])]
  exact .inl h

theorem op_store {o : Oper} {K : Act → World → Prop} {a : Act} {x : World} (t : TypeId) (p v : Tmp) (ho : o.op = .store t (.tmp p) (.tmp v)) (hdst : o.dst = none) (g : Nat) (hp : a.tmps.getD p undef = .pointer (some ⟨g, 0, none⟩)) (cs : Array Value) (hx : a.tmps.getD v undef = .agg cs) (old : Array Value) (ty : TypeId) (hg : x.heap[g]? = some (.cells old ty (0, 0)))
    (hi : (P.info? t).map (·.size) = some cs.size) (hs : old.size = cs.size) (h1 : cs.all (·.oneCell') = true) (h : K a (x.setRow g cs)) : o.wp P a x K Q := by
  have hr := run_storeVar_row (P := P) x g ty t old cs hg hi hs h1
  have hp' : a.eval (.tmp p) = .pointer (some ⟨g, 0, none⟩) := hp
  have hx' : a.eval (.tmp v) = .agg cs := hx
  unfold Oper.wp execOp
  simp only [ho, hp', hx', Instr.storeAt, Instr.sureAddr, Sem.run_bind, Sem.run_pure, Result.andThen_ok, hr]
  show K (a.put o.dst undef) (x.setRow g cs)
  rw [hdst]
  exact h

/-- What is known while the region runs: of each operation that is done, its answer; all other slots as they were. p, q: the two stores. -/
structure RInv (ops : Array Oper) (p q : Nat) (R : Bool → Bool → Nat → Value → World → Prop) (a0 : Act) (W : World) (L : Array Bool) (a : Act) (x : World) : Prop where
  df : a.defers = a0.defers
  sz : a.tmps.size = a0.tmps.size
  old : ∀ s, ops.toList.all (fun o => o.dst != some s) = true → a.tmps.getD s undef = a0.tmps.getD s undef
  rel : ∀ j s, L.getD j false = true → ((ops[j]?).bind (·.dst)) = some s → R (L.getD p false) (L.getD q false) j (a.tmps.getD s undef) x
  bel : Below W.heap.size W x

variable {p q : Nat} {R : Bool → Bool → Nat → Value → World → Prop} {a0 : Act} {W : World} {L : Array Bool} {a : Act} {x : World}

theorem RInv.start (ops : Array Oper) (p q : Nat) (R : Bool → Bool → Nat → Value → World → Prop) (a0 : Act) (W : World) : RInv ops p q R a0 W (Array.replicate ops.size false) a0 W.drew :=
  ⟨rfl, rfl, fun _ _ => rfl, fun j s h => by
    rw [Array.getD_eq_getD_getElem?, Array.getElem?_replicate] at h
    split at h <;> simp at h, bw_drew (Below.refl _ _)⟩

theorem getD_self {L : Array Bool} {i : Nat} (h : i < L.size) : (L.setIfInBounds i true).getD i false = true := by simp [Array.getD_eq_getD_getElem?, h]

theorem getD_other {L : Array Bool} {i j : Nat} (h : i ≠ j) (d : Bool) : (L.setIfInBounds i true).getD j d = L.getD j d := by simp [Array.getD_eq_getD_getElem?, h]

theorem tmps_self {T : Array Value} {s : Nat} (v : Value) (h : s < T.size) : (T.setIfInBounds s v).getD s undef = v := by simp [Array.getD_eq_getD_getElem?, h]

theorem tmps_other {T : Array Value} {s r : Nat} (v : Value) (h : s ≠ r) : (T.setIfInBounds s v).getD r undef = T.getD r undef := by simp [Array.getD_eq_getD_getElem?, h]

/-- No other operation answers into slot s. -/
def uniqB (ops : Array Oper) (s i : Nat) : Bool := (List.range ops.size).all (fun j => ((ops[j]?).bind (·.dst)) != some s || j == i)

theorem uniq_of {s i : Nat} (h : uniqB ops s i = true) (j : Nat) (hj : ((ops[j]?).bind (·.dst)) = some s) : j = i := by
  have hlt : j < ops.size := by
    rcases Nat.lt_or_ge j ops.size with g | g
    · exact g
    · rw [Array.getElem?_eq_none g] at hj; simp at hj
  unfold uniqB at h
  rw [List.all_eq_true] at h
  have := h j (List.mem_range.2 hlt)
  rw [hj] at this
  simpa using this

/-- An operation that answers. -/
theorem RInv.val (h : RInv ops p q R a0 W L a x) (i s : Nat) (v : Value) (x' : World) (hp : i ≠ p) (hq : i ≠ q) (hi : ((ops[i]?).bind (·.dst)) = some s) (hs : s < a0.tmps.size) (hd : (ops.toList.all (fun o => o.dst != some s)) = false) (hu : uniqB ops s i = true)
    (hb : Below x.heap.size x x') (hv : R (L.getD p false) (L.getD q false) i v x') (hm : ∀ b c j u, R b c j u x → R b c j u x') : RInv ops p q R a0 W (L.setIfInBounds i true) (a.put (some s) v) x' := by
  refine ⟨h.df, by show (a.tmps.setIfInBounds s v).size = _; rw [Array.size_setIfInBounds]; exact h.sz, fun r hr => ?_, fun j r hj hr => ?_, bw_call h.bel hb⟩
  · have hne : s ≠ r := fun e => by subst e; rw [hd] at hr; cases hr
    exact (tmps_other v hne).trans (h.old r hr)
  · rw [getD_other hp, getD_other hq]
    show R _ _ j ((a.tmps.setIfInBounds s v).getD r undef) x'
    by_cases e : i = j
    · subst e
      rw [hi] at hr
      cases hr
      rw [tmps_self v (by rw [h.sz]; exact hs)]
      exact hv
    · have hne : s ≠ r := fun e2 => by subst e2; exact e (uniq_of hu j hr).symm
      rw [tmps_other v hne]
      rw [getD_other e] at hj
      exact hm _ _ j _ (h.rel j r hj hr)

/-- A frame whose slots in S are put anew. -/
def Act.puts (a : Act) (f : Nat → Value) : List Nat → Act
  | [] => a
  | s :: S => Act.puts (a.put (some s) (f s)) f S

theorem puts_defers (f : Nat → Value) : ∀ (S : List Nat) (a : Act), (Act.puts a f S).defers = a.defers
  | [], a => rfl
  | s :: S, a => puts_defers f S (a.put (some s) (f s))

theorem puts_size (f : Nat → Value) : ∀ (S : List Nat) (a : Act), (Act.puts a f S).tmps.size = a.tmps.size
  | [], a => rfl
  | s :: S, a => (puts_size f S (a.put (some s) (f s))).trans (by show (a.tmps.setIfInBounds s (f s)).size = _; rw [Array.size_setIfInBounds])

theorem puts_at (f : Nat → Value) : ∀ (S : List Nat) (a : Act) (r : Nat), r < a.tmps.size → (Act.puts a f S).tmps.getD r undef = if r ∈ S then f r else a.tmps.getD r undef
  | [], a, r, h => by simp [Act.puts]
  | s :: S, a, r, h => by
    have h2 : r < (a.put (some s) (f s)).tmps.size := by show r < (a.tmps.setIfInBounds s (f s)).size; rw [Array.size_setIfInBounds]; exact h
    rw [Act.puts, puts_at f S _ r h2]
    by_cases hS : r ∈ S
    · rw [if_pos hS, if_pos (List.mem_cons_of_mem _ hS)]
    · rw [if_neg hS]
      show (a.tmps.setIfInBounds s (f s)).getD r undef = _
      by_cases e : s = r
      · subst e
        rw [tmps_self _ h, if_pos (List.mem_cons_self ..)]
      · rw [tmps_other _ e, if_neg (fun hm => by rcases List.mem_cons.1 hm with rfl | hm; exact e rfl; exact hS hm)]

theorem arr_ext {T U : Array Value} (hs : T.size = U.size) (h : ∀ r, r < T.size → T.getD r undef = U.getD r undef) : T = U := by
  refine Array.ext hs (fun i h1 h2 => ?_)
  have := h i h1
  simpa [Array.getD_eq_getD_getElem?, h1, h2] using this

/-- The operations answer into the slots of S alone. -/
def frameB (ops : Array Oper) (S : List Nat) (n : Nat) : Bool := (List.range n).all (fun s => S.contains s || ops.toList.all (fun o => o.dst != some s))

theorem frame_of {S : List Nat} {n : Nat} (h : frameB ops S n = true) (s : Nat) (hs : s < n) (hm : s ∉ S) : ops.toList.all (fun o => o.dst != some s) = true := by
  unfold frameB at h
  rw [List.all_eq_true] at h
  have := h s (List.mem_range.2 hs)
  rw [Bool.or_eq_true] at this
  rcases this with h1 | h1
  · exact absurd (List.contains_iff_mem.1 h1) hm
  · exact h1

theorem RInv.frame (h : RInv ops p q R a0 W L a x) (S : List Nat) (hS : frameB ops S a0.tmps.size = true) : a = Act.puts a0 (fun s => a.tmps.getD s undef) S := by
  have hd : a.defers = (Act.puts a0 (fun s => a.tmps.getD s undef) S).defers := by rw [puts_defers]; exact h.df
  have ht : a.tmps = (Act.puts a0 (fun s => a.tmps.getD s undef) S).tmps := by
    refine arr_ext (by rw [puts_size]; exact h.sz) (fun r hr => ?_)
    rw [puts_at _ S a0 r (by rw [← h.sz]; exact hr)]
    by_cases hm : r ∈ S
    · rw [if_pos hm]
    · rw [if_neg hm]
      exact h.old r (frame_of hS r (by rw [← h.sz]; exact hr) hm)
  generalize Act.puts a0 (fun s => a.tmps.getD s undef) S = b at hd ht
  cases a
  cases b
  simp only at hd ht
  rw [hd, ht]

end
end Go.Proofs.YtibhepekmihagaaGreatDoor

namespace Go.Proofs.YtibhepekmihagaaGreatDoor
open Go.RowKit

set_option linter.unusedVariables false

set_option maxRecDepth 100000

/-- What is known while the region runs. p: the store; G: what it makes of the world. -/
structure R1 (ops : Array Oper) (p : Nat) (R : Nat → Value → Prop) (a0 : Act) (W : World) (G : World → World) (L : Array Bool) (a : Act) (x : World) : Prop where
  df : a.defers = a0.defers
  sz : a.tmps.size = a0.tmps.size
  old : ∀ s, ops.toList.all (fun o => o.dst != some s) = true → a.tmps.getD s undef = a0.tmps.getD s undef
  rel : ∀ j s, L.getD j false = true → ((ops[j]?).bind (·.dst)) = some s → R j (a.tmps.getD s undef)
  bel : L.getD p false = false → Below W.heap.size W x
  fin : L.getD p false = true → ∃ X, Below W.heap.size W X ∧ x = G X

theorem R1.start (ops : Array Oper) (p : Nat) (R : Nat → Value → Prop) (a0 : Act) (W : World) (G : World → World) : R1 ops p R a0 W G (Array.replicate ops.size false) a0 W.drew := by
  have hn : ∀ j, (Array.replicate ops.size false).getD j false = false := fun j => by
    rw [Array.getD_eq_getD_getElem?, Array.getElem?_replicate]
    split <;> rfl
  exact ⟨rfl, rfl, fun _ _ => rfl, (fun j s h => by rw [hn] at h; cases h), fun _ => bw_drew (Below.refl _ _), (fun h => by rw [hn] at h; cases h)⟩

theorem R1.val {ops : Array Oper} {p : Nat} {R : Nat → Value → Prop} {a0 : Act} {W : World} {G : World → World} {L : Array Bool} {a : Act} {x : World} (h : R1 ops p R a0 W G L a x) (i s : Nat) (v : Value) (x' : World) (hp : i ≠ p) (hi : ((ops[i]?).bind (·.dst)) = some s) (hs : s < a0.tmps.size) (hd : (ops.toList.all (fun o => o.dst != some s)) = false) (hu : uniqB ops s i = true)
    (hb : (L.getD p false = false ∧ Below x.heap.size x x') ∨ x' = x) (hv : R i v) : R1 ops p R a0 W G (L.setIfInBounds i true) (a.put (some s) v) x' := by
  refine ⟨h.df, by show (a.tmps.setIfInBounds s v).size = _; rw [Array.size_setIfInBounds]; exact h.sz, fun r hr => ?_, fun j r hj hr => ?_, fun hl => ?_, fun hl => ?_⟩
  · have hne : s ≠ r := fun e => by subst e; rw [hd] at hr; cases hr
    exact (tmps_other v hne).trans (h.old r hr)
  · show R j ((a.tmps.setIfInBounds s v).getD r undef)
    by_cases e : i = j
    · subst e
      rw [hi] at hr
      cases hr
      rw [tmps_self v (by rw [h.sz]; exact hs)]
      exact hv
    · have hne : s ≠ r := fun e2 => by subst e2; exact e (uniq_of hu j hr).symm
      rw [tmps_other v hne]
      rw [getD_other e] at hj
      exact h.rel j r hj hr
  · rw [getD_other hp] at hl
    rcases hb with ⟨-, hb⟩ | rfl
    · exact bw_call (h.bel hl) hb
    · exact h.bel hl
  · rw [getD_other hp] at hl
    rcases hb with ⟨hb, -⟩ | rfl
    · rw [hb] at hl; cases hl
    · exact h.fin hl

theorem R1.store {ops : Array Oper} {p : Nat} {R : Nat → Value → Prop} {a0 : Act} {W : World} {G : World → World} {L : Array Bool} {a : Act} {x : World} (h : R1 ops p R a0 W G L a x) (hp : p < L.size) (hn : L.getD p false = false) (hd : ((ops[p]?).bind (·.dst)) = none) : R1 ops p R a0 W G (L.setIfInBounds p true) a (G x) := by
  refine ⟨h.df, h.sz, h.old, fun j r hj hr => ?_, fun hl => ?_, fun _ => ⟨x, h.bel hn, rfl⟩⟩
  · by_cases e : p = j
    · subst e; rw [hd] at hr; cases hr
    · rw [getD_other e] at hj
      exact h.rel j r hj hr
  · rw [getD_self hp] at hl; cases hl

theorem R1.frame {ops : Array Oper} {p : Nat} {R : Nat → Value → Prop} {a0 : Act} {W : World} {G : World → World} {L : Array Bool} {a : Act} {x : World} (h : R1 ops p R a0 W G L a x) (S : List Nat) (hS : frameB ops S a0.tmps.size = true) : a = Act.puts a0 (fun s => a.tmps.getD s undef) S := by
  have hd : a.defers = (Act.puts a0 (fun s => a.tmps.getD s undef) S).defers := by rw [puts_defers]; exact h.df
  have ht : a.tmps = (Act.puts a0 (fun s => a.tmps.getD s undef) S).tmps := by
    refine arr_ext (by rw [puts_size]; exact h.sz) (fun r hr => ?_)
    rw [puts_at _ S a0 r (by rw [← h.sz]; exact hr)]
    by_cases hm : r ∈ S
    · rw [if_pos hm]
    · rw [if_neg hm]
      exact h.old r (frame_of hS r (by rw [← h.sz]; exact hr) hm)
  generalize Act.puts a0 (fun s => a.tmps.getD s undef) S = b at hd ht
  cases a
  cases b
  simp only at hd ht
  rw [hd, ht]
end Go.Proofs.YtibhepekmihagaaGreatDoor

namespace Go.Proofs.YtibhepekmihagaaGreatDoor
open Go.RowKit

set_option linter.unusedVariables false

theorem add_offM (g a j : Nat) : (⟨g, a, none⟩ : Addr).add j = ⟨g, a + j, none⟩ := by unfold Addr.add; split <;> simp_all
end Go.Proofs.YtibhepekmihagaaGreatDoor

