/-
  Contracts and plain laws, one chapter behind the other.
-/
import Derived.Orders
import Derived.WalkKit
import Derived.Deep.DeepCutAuto
import Derived.Deep.RegionHeld3
import Derived.Deep.RegionLaw
import Derived.Laws.CopyOwn
import Derived.Deep.MidRow
import Derived.Test.YtjhfeegilhmgkaaGreatDoorM01
import Derived.Test.YtjhfeegilhmgkaaGreatDoorM02
import Derived.Test.YtjhfeegilhmgkaaGreatDoorM03
import Derived.Test.YtjhfeegilhmgkaaGreatDoorM05
import Derived.Test.YtjhfeegilhmgkaaGreatDoorM06
import Derived.Test.YtjhfeegilhmgkaaGreatDoorM08
import Derived.Test.YtjhfeegilhmgkaaGreatDoorM09
namespace Go.Proofs.YtjhfeegilhmgkaaGreatDoor
open Go.RowKit

set_option linter.unusedVariables false

set_option maxRecDepth 100000


theorem filter_le' {p q : Nat → Bool} : ∀ (l : List Nat), (∀ x ∈ l, q x = true → p x = true) → (l.filter q).length ≤ (l.filter p).length
  | [], _ => Nat.le_refl _
  | x :: l, h => by
    have ih := filter_le' l (fun y hy => h y (List.mem_cons_of_mem _ hy))
    have hx := h x (List.mem_cons_self ..)
    rw [List.filter_cons, List.filter_cons]
    cases hq : q x
    · cases hp : p x
      · simpa using ih
      · simp only [Bool.false_eq_true, if_false, if_true, List.length_cons]; omega
    · rw [hx hq]
      simp only [if_true, List.length_cons]; omega

theorem filter_lt' {p q : Nat → Bool} {i : Nat} (hp : p i = true) (hq : q i = false) : ∀ (l : List Nat), (∀ x ∈ l, q x = true → p x = true) → i ∈ l → (l.filter q).length < (l.filter p).length
  | [], _, h => by simp at h
  | x :: l, hpq, h => by
    have hle := filter_le' l (fun y hy => hpq y (List.mem_cons_of_mem _ hy))
    rw [List.filter_cons, List.filter_cons]
    rcases List.mem_cons.1 h with rfl | h'
    · rw [hp, hq]
      simp only [Bool.false_eq_true, if_false, if_true, List.length_cons]; omega
    · have ih := filter_lt' hp hq l (fun y hy => hpq y (List.mem_cons_of_mem _ hy)) h'
      have hx := hpq x (List.mem_cons_self ..)
      cases hq2 : q x
      · cases hp2 : p x
        · simpa using ih
        · simp only [Bool.false_eq_true, if_false, if_true, List.length_cons]; omega
      · rw [hx hq2]
        simp only [if_true, List.length_cons]; omega

section
variable {P : Program} {ops : Array Oper} {Q : Exit → Act → World → Prop} {md : Region.Mode}
theorem ready_mem {L : Array Bool} {i : Nat} (h : i ∈ Region.ready md ops L) : i < ops.size ∧ L.getD i true = false ∧ ∃ o, ops[i]? = some o ∧ ∀ e ∈ o.after, Region.binds md e = true → L.getD e.on false = true := by
  simp only [Region.ready, List.mem_filter, List.mem_range, Bool.and_eq_true, Bool.not_eq_true'] at h
  obtain ⟨h1, h2, h3⟩ := h
  refine ⟨h1, h2, ops[i], Array.getElem?_eq_getElem h1, fun e he hb => ?_⟩
  rw [Array.getElem?_eq_getElem h1] at h3
  simp only [Option.map_some, Option.getD_some, Array.all_eq_true_iff_forall_mem] at h3
  have := h3 e he
  rw [hb] at this
  simpa using this

/-- Does operation i wait for operation k? -/
def depB (md : Region.Mode) (ops : Array Oper) (i k : Nat) : Bool := ((ops[i]?).map (fun o => o.after.any (fun e => e.on == k && Region.binds md e))).getD false

/-- What is done has done what it waits for. -/
def Down (md : Region.Mode) (ops : Array Oper) (L : Array Bool) : Prop := ∀ i k, L.getD i false = true → depB md ops i k = true → L.getD k false = true

theorem ready_dep {L : Array Bool} {i k : Nat} (h : i ∈ Region.ready md ops L) (hk : depB md ops i k = true) : L.getD k false = true := by
  obtain ⟨-, -, o, ho, hd⟩ := ready_mem h
  unfold depB at hk
  rw [ho] at hk
  simp only [Option.map_some, Option.getD_some, Array.any_eq_true'] at hk
  obtain ⟨e, he, hk⟩ := hk
  simp only [Bool.and_eq_true, beq_iff_eq] at hk
  rw [← hk.1]
  exact hd e he hk.2

theorem Down.not {L : Array Bool} {i k : Nat} (h : Down md ops L) (hk : depB md ops i k = true) (hn : L.getD k true = false) : L.getD i false = false := by
  rw [Bool.eq_false_iff]
  intro hi
  have := h i k hi hk
  simp only [Array.getD_eq_getD_getElem?] at this hn
  cases hL : L[k]? with
  | none => rw [hL] at hn; simp at hn
  | some b => rw [hL] at hn this; simp only [Option.getD_some] at hn this; rw [hn] at this; cases this

theorem Down.step {L : Array Bool} {i : Nat} (h : Down md ops L) (hz : L.size = ops.size) (hi : i ∈ Region.ready md ops L) : Down md ops (L.setIfInBounds i true) := fun j k hj hk => by
  have up : ∀ k, L.getD k false = true → (L.setIfInBounds i true).getD k false = true := fun k hk => by
    by_cases e : i = k
    · subst e
      have := (ready_mem hi).1
      simp [Array.getD_eq_getD_getElem?, hz, this]
    · simpa [Array.getD_eq_getD_getElem?, e] using hk
  by_cases e : i = j
  · subst e
    exact up k (ready_dep hi hk)
  · exact up k (h j k (by simpa [Array.getD_eq_getD_getElem?, e] using hj) hk)

theorem not_done {L : Array Bool} {i : Nat} (hn : L.getD i true = false) : L.getD i false = false := by
  simp only [Array.getD_eq_getD_getElem?] at hn ⊢
  cases hL : L[i]? with
  | none => rw [hL] at hn; simp at hn
  | some b => rw [hL] at hn; simpa using hn

/-- Where each operation waits for earlier ones alone and nothing is ready, all is done. -/
def backB (md : Region.Mode) (ops : Array Oper) : Bool := (List.range ops.size).all (fun i => ((ops[i]?).map (fun o => o.after.toList.all (fun e => !Region.binds md e || decide (e.on < i)))).getD false)

theorem all_done {L : Array Bool} (hz : L.size = ops.size) (hr : Region.ready md ops L = []) (hb : backB md ops = true) : ∀ i, i < ops.size → L.getD i false = true := by
  intro i
  induction i using Nat.strongRecOn with
  | _ i ih =>
    intro hi
    refine Classical.byContradiction fun hc => ?_
    have hni : L.getD i true = false := by
      simp only [Array.getD_eq_getD_getElem?] at hc ⊢
      rw [Array.getElem?_eq_getElem (by omega)] at hc ⊢
      simpa using hc
    have hm : i ∈ Region.ready md ops L := by
      simp only [Region.ready, List.mem_filter, List.mem_range, Bool.and_eq_true, Bool.not_eq_true']
      refine ⟨hi, hni, ?_⟩
      rw [Array.getElem?_eq_getElem hi]
      simp only [Option.map_some, Option.getD_some, Array.all_eq_true_iff_forall_mem]
      intro e he
      unfold backB at hb
      rw [List.all_eq_true] at hb
      have h1 := hb i (List.mem_range.2 hi)
      rw [Array.getElem?_eq_getElem hi] at h1
      simp only [Option.map_some, Option.getD_some, List.all_eq_true] at h1
      have h2 := h1 e (by simpa using he)
      cases hbi : Region.binds md e
      · rfl
      · rw [hbi] at h2
        have h3 : e.on < i := by simpa using h2
        rw [ih e.on h3 (by omega)]
        rfl
    rw [hr] at hm
    simp at hm

theorem wpAny_inv {I : Array Bool → Act → World → Prop} (hs : ∀ L a x i, L.size = ops.size → Down md ops L → i ∈ Region.ready md ops L → I L a x → wpOp P ops Q i (I (L.setIfInBounds i true)) a x) (he : ∀ L a x, L.size = ops.size → Down md ops L → Region.ready md ops L = [] → I L a x → Q .normal a x) :
    ∀ (fuel : Nat) (L : Array Bool) (a : Act) (x : World), L.size = ops.size → Down md ops L → ((List.range ops.size).filter (fun i => !L.getD i true)).length ≤ fuel → I L a x → wpAny P md ops Q fuel L a x := by
  intro fuel
  induction fuel with
  | zero =>
    intro L a x hz hD hc h
    have hr : Region.ready md ops L = [] := by
      rw [List.eq_nil_iff_forall_not_mem]
      intro i hi
      obtain ⟨h1, h2, -⟩ := ready_mem hi
      have : i ∈ (List.range ops.size).filter (fun i => !L.getD i true) := by
        rw [List.mem_filter]
        exact ⟨List.mem_range.2 h1, by rw [h2]; rfl⟩
      rw [List.length_eq_zero_iff.1 (Nat.le_zero.1 hc)] at this
      simp at this
    exact ⟨hr, he L a x hz hD hr h⟩
  | succ fuel ih =>
    intro L a x hz hD hc h
    refine ⟨fun hr => he L a x hz hD hr h, fun i hi => wpOp_mono (fun a' x' h' => ih _ a' x' (by rw [Array.size_setIfInBounds]; exact hz) (hD.step hz hi) ?_ h') (hs L a x i hz hD hi h)⟩
    obtain ⟨h1, h2, -⟩ := ready_mem hi
    have hlt := filter_lt' (p := fun j => !L.getD j true) (q := fun j => !(L.setIfInBounds i true).getD j true) (i := i) (by simp only [h2]; rfl) (by simp only [Array.getD_eq_getD_getElem?, Array.getElem?_setIfInBounds_self, hz, h1]; simp) (List.range ops.size) (fun j _ hj => by
      by_cases e : i = j
      · subst e
        simp only [Array.getD_eq_getD_getElem?, Array.getElem?_setIfInBounds_self, hz, h1] at hj
        simp at hj
      · simp only [Array.getD_eq_getD_getElem?, Array.getElem?_setIfInBounds, e, if_false] at hj ⊢
        exact hj) (List.mem_range.2 h1)
    omega

theorem wp_region_inv {I : Array Bool → Act → World → Prop} {id : Nat} {a : Act} {w : World} (hm : P.follows .mixedOrders = true) (h0 : I (Array.replicate ops.size false) a w.drew)
    (hs : ∀ L a x i, L.size = ops.size → Down .any ops L → i ∈ Region.ready .any ops L → I L a x → wpOp P ops Q i (I (L.setIfInBounds i true)) a x) (he : ∀ L a x, L.size = ops.size → Down .any ops L → Region.ready .any ops L = [] → I L a x → Q .normal a x) : (Code.region id ops true).wp P Q a w :=
  wp_region_any hm (wpAny_inv hs he ops.size _ a _ (by simp) (fun i k hi => by rw [Array.getD_eq_getD_getElem?, Array.getElem?_replicate] at hi; split at hi <;> simp at hi) (by refine Nat.le_trans (List.length_filter_le ..) ?_; simp) h0)

end
end Go.Proofs.YtjhfeegilhmgkaaGreatDoor

namespace Go.Proofs.YtjhfeegilhmgkaaGreatDoor
open Go.RowKit

set_option linter.unusedVariables false

set_option maxRecDepth 100000


section
variable {P : Program} {ops : Array Oper} {Q : Exit → Act → World → Prop}
theorem wpOp_of {i : Nat} {o : Oper} {K : Act → World → Prop} {a : Act} {x : World} (ho : ops[i]? = some o) (hg : o.guard = none) (h : o.wp P a x K Q) : wpOp P ops Q i K a x := by
  unfold wpOp
  rw [ho]
  simp only
  rw [if_pos (by simp [Region.wanted, hg])]
  exact .inl h

theorem op_store {o : Oper} {K : Act → World → Prop} {a : Act} {x : World} (t : TypeId) (p v : Tmp) (ho : o.op = .store t (.tmp p) (.tmp v)) (hdst : o.dst = none) (g : Nat) (hp : a.tmps.getD p undef = .pointer (some ⟨g, 0, none⟩)) (cs : Array Value) (hx : a.tmps.getD v undef = .agg cs) (old : Array Value) (ty : TypeId) (hg : x.heap[g]? = some (.cells old ty (0, 0)))
    (hi : (P.info? t).map (·.size) = some cs.size) (hs : old.size = cs.size) (h1 : cs.all (·.oneCell') = true) (h : K a (x.setRow g cs)) : o.wp P a x K Q := by
  have hr := run_storeVar_row (P := P) x g ty t old cs hg hi hs h1
  have hp' : a.eval (.tmp p) = .pointer (some ⟨g, 0, none⟩) := hp
  have hx' : a.eval (.tmp v) = .agg cs := hx
  unfold Oper.wp execOp
  simp only [ho, hp', hx', Instr.storeAt, Instr.sureAddr, Sem.run_bind, Sem.run_pure, Result.andThen_ok, hr]
  show K (a.put o.dst undef) (x.setRow g cs)
  rw [hdst]
  exact h

/-- What is known while the region runs: of each operation that is done, its answer; all other slots as they were. p, q: the two stores. -/
structure RInv (ops : Array Oper) (p q : Nat) (R : Bool → Bool → Nat → Value → World → Prop) (a0 : Act) (W : World) (L : Array Bool) (a : Act) (x : World) : Prop where
  df : a.defers = a0.defers
  sz : a.tmps.size = a0.tmps.size
  old : ∀ s, ops.toList.all (fun o => o.dst != some s) = true → a.tmps.getD s undef = a0.tmps.getD s undef
  rel : ∀ j s, L.getD j false = true → ((ops[j]?).bind (·.dst)) = some s → R (L.getD p false) (L.getD q false) j (a.tmps.getD s undef) x
  bel : Below W.heap.size W x

variable {p q : Nat} {R : Bool → Bool → Nat → Value → World → Prop} {a0 : Act} {W : World} {L : Array Bool} {a : Act} {x : World}
theorem RInv.start (ops : Array Oper) (p q : Nat) (R : Bool → Bool → Nat → Value → World → Prop) (a0 : Act) (W : World) : RInv ops p q R a0 W (Array.replicate ops.size false) a0 W.drew :=
  ⟨rfl, rfl, fun _ _ => rfl, fun j s h => by
    rw [Array.getD_eq_getD_getElem?, Array.getElem?_replicate] at h
    split at h <;> simp at h, bw_drew (Below.refl _ _)⟩

theorem getD_self {L : Array Bool} {i : Nat} (h : i < L.size) : (L.setIfInBounds i true).getD i false = true := by simp [Array.getD_eq_getD_getElem?, h]

theorem getD_other {L : Array Bool} {i j : Nat} (h : i ≠ j) (d : Bool) : (L.setIfInBounds i true).getD j d = L.getD j d := by simp [Array.getD_eq_getD_getElem?, h]

theorem tmps_self {T : Array Value} {s : Nat} (v : Value) (h : s < T.size) : (T.setIfInBounds s v).getD s undef = v := by simp [Array.getD_eq_getD_getElem?, h]

theorem tmps_other {T : Array Value} {s r : Nat} (v : Value) (h : s ≠ r) : (T.setIfInBounds s v).getD r undef = T.getD r undef := by simp [Array.getD_eq_getD_getElem?, h]

/-- No other operation answers into slot s. -/
def uniqB (ops : Array Oper) (s i : Nat) : Bool := (List.range ops.size).all (fun j => ((ops[j]?).bind (·.dst)) != some s || j == i)

theorem uniq_of {s i : Nat} (h : uniqB ops s i = true) (j : Nat) (hj : ((ops[j]?).bind (·.dst)) = some s) : j = i := by
  have hlt : j < ops.size := by
    rcases Nat.lt_or_ge j ops.size with g | g
    · exact g
    · rw [Array.getElem?_eq_none g] at hj; simp at hj
  unfold uniqB at h
  rw [List.all_eq_true] at h
  have := h j (List.mem_range.2 hlt)
  rw [hj] at this
  simpa using this

/-- An operation that answers. -/
theorem RInv.val (h : RInv ops p q R a0 W L a x) (i s : Nat) (v : Value) (x' : World) (hp : i ≠ p) (hq : i ≠ q) (hi : ((ops[i]?).bind (·.dst)) = some s) (hs : s < a0.tmps.size) (hd : (ops.toList.all (fun o => o.dst != some s)) = false) (hu : uniqB ops s i = true)
    (hb : Below x.heap.size x x') (hv : R (L.getD p false) (L.getD q false) i v x') (hm : ∀ b c j u, R b c j u x → R b c j u x') : RInv ops p q R a0 W (L.setIfInBounds i true) (a.put (some s) v) x' := by
  refine ⟨h.df, by show (a.tmps.setIfInBounds s v).size = _; rw [Array.size_setIfInBounds]; exact h.sz, fun r hr => ?_, fun j r hj hr => ?_, bw_call h.bel hb⟩
  · have hne : s ≠ r := fun e => by subst e; rw [hd] at hr; cases hr
    exact (tmps_other v hne).trans (h.old r hr)
  · rw [getD_other hp, getD_other hq]
    show R _ _ j ((a.tmps.setIfInBounds s v).getD r undef) x'
    by_cases e : i = j
    · subst e
      rw [hi] at hr
      cases hr
      rw [tmps_self v (by rw [h.sz]; exact hs)]
      exact hv
    · have hne : s ≠ r := fun e2 => by subst e2; exact e (uniq_of hu j hr).symm
      rw [tmps_other v hne]
      rw [getD_other e] at hj
      exact hm _ _ j _ (h.rel j r hj hr)

/-- A frame whose slots in S are put anew. -/
def Act.puts (a : Act) (f : Nat → Value) : List Nat → Act
  | [] => a
  | s :: S => Act.puts (a.put (some s) (f s)) f S

theorem puts_defers (f : Nat → Value) : ∀ (S : List Nat) (a : Act), (Act.puts a f S).defers = a.defers
  | [], a => rfl
  | s :: S, a => puts_defers f S (a.put (some s) (f s))

theorem puts_size (f : Nat → Value) : ∀ (S : List Nat) (a : Act), (Act.puts a f S).tmps.size = a.tmps.size
  | [], a => rfl
  | s :: S, a => (puts_size f S (a.put (some s) (f s))).trans (by show (a.tmps.setIfInBounds s (f s)).size = _; rw [Array.size_setIfInBounds])

theorem puts_at (f : Nat → Value) : ∀ (S : List Nat) (a : Act) (r : Nat), r < a.tmps.size → (Act.puts a f S).tmps.getD r undef = if r ∈ S then f r else a.tmps.getD r undef
  | [], a, r, h => by simp [Act.puts]
  | s :: S, a, r, h => by
    have h2 : r < (a.put (some s) (f s)).tmps.size := by show r < (a.tmps.setIfInBounds s (f s)).size; rw [Array.size_setIfInBounds]; exact h
    rw [Act.puts, puts_at f S _ r h2]
    by_cases hS : r ∈ S
    · rw [if_pos hS, if_pos (List.mem_cons_of_mem _ hS)]
    · rw [if_neg hS]
      show (a.tmps.setIfInBounds s (f s)).getD r undef = _
      by_cases e : s = r
      · subst e
        rw [tmps_self _ h, if_pos (List.mem_cons_self ..)]
      · rw [tmps_other _ e, if_neg (fun hm => by rcases List.mem_cons.1 hm with rfl | hm; exact e rfl; exact hS hm)]

theorem arr_ext {T U : Array Value} (hs : T.size = U.size) (h : ∀ r, r < T.size → T.getD r undef = U.getD r undef) : T = U := by
  refine Array.ext hs (fun i h1 h2 => ?_)
  have := h i h1
  simpa [Array.getD_eq_getD_getElem?, h1, h2] using this

/-- The operations answer into the slots of S alone. -/
def frameB (ops : Array Oper) (S : List Nat) (n : Nat) : Bool := (List.range n).all (fun s => S.contains s || ops.toList.all (fun o => o.dst != some s))

theorem frame_of {S : List Nat} {n : Nat} (h : frameB ops S n = true) (s : Nat) (hs : s < n) (hm : s ∉ S) : ops.toList.all (fun o => o.dst != some s) = true := by
  unfold frameB at h
  rw [List.all_eq_true] at h
  have := h s (List.mem_range.2 hs)
  rw [Bool.or_eq_true] at this
  rcases this with h1 | h1
  · exact absurd (List.contains_iff_mem.1 h1) hm
  · exact h1

theorem RInv.frame (h : RInv ops p q R a0 W L a x) (S : List Nat) (hS : frameB ops S a0.tmps.size = true) : a = Act.puts a0 (fun s => a.tmps.getD s undef) S := by
  have hd : a.defers = (Act.puts a0 (fun s => a.tmps.getD s undef) S).defers := by rw [puts_defers]; exact h.df
  have ht : a.tmps = (Act.puts a0 (fun s => a.tmps.getD s undef) S).tmps := by
    refine arr_ext (by rw [puts_size]; exact h.sz) (fun r hr => ?_)
    rw [puts_at _ S a0 r (by rw [← h.sz]; exact hr)]
    by_cases hm : r ∈ S
    · rw [if_pos hm]
    · rw [if_neg hm]
      exact h.old r (frame_of hS r (by rw [← h.sz]; exact hr) hm)
  generalize Act.puts a0 (fun s => a.tmps.getD s undef) S = b at hd ht
  cases a
  cases b
  simp only at hd ht
  rw [hd, ht]

end
end Go.Proofs.YtjhfeegilhmgkaaGreatDoor

namespace Go.Proofs.YtjhfeegilhmgkaaGreatDoor
open Go.RowKit

set_option linter.unusedVariables false

set_option maxRecDepth 100000

/-- What is known while the region runs. p: the store; G: what it makes of the world. -/
structure R1 (ops : Array Oper) (p : Nat) (R : Nat → Value → Prop) (a0 : Act) (W : World) (G : World → World) (L : Array Bool) (a : Act) (x : World) : Prop where
  df : a.defers = a0.defers
  sz : a.tmps.size = a0.tmps.size
  old : ∀ s, ops.toList.all (fun o => o.dst != some s) = true → a.tmps.getD s undef = a0.tmps.getD s undef
  rel : ∀ j s, L.getD j false = true → ((ops[j]?).bind (·.dst)) = some s → R j (a.tmps.getD s undef)
  bel : L.getD p false = false → Below W.heap.size W x
  fin : L.getD p false = true → ∃ X, Below W.heap.size W X ∧ x = G X

theorem R1.start (ops : Array Oper) (p : Nat) (R : Nat → Value → Prop) (a0 : Act) (W : World) (G : World → World) : R1 ops p R a0 W G (Array.replicate ops.size false) a0 W.drew := by
  have hn : ∀ j, (Array.replicate ops.size false).getD j false = false := fun j => by
    rw [Array.getD_eq_getD_getElem?, Array.getElem?_replicate]
    split <;> rfl
  exact ⟨rfl, rfl, fun _ _ => rfl, (fun j s h => by rw [hn] at h; cases h), fun _ => bw_drew (Below.refl _ _), (fun h => by rw [hn] at h; cases h)⟩

theorem R1.val {ops : Array Oper} {p : Nat} {R : Nat → Value → Prop} {a0 : Act} {W : World} {G : World → World} {L : Array Bool} {a : Act} {x : World} (h : R1 ops p R a0 W G L a x) (i s : Nat) (v : Value) (x' : World) (hp : i ≠ p) (hi : ((ops[i]?).bind (·.dst)) = some s) (hs : s < a0.tmps.size) (hd : (ops.toList.all (fun o => o.dst != some s)) = false) (hu : uniqB ops s i = true)
    (hb : (L.getD p false = false ∧ Below x.heap.size x x') ∨ x' = x) (hv : R i v) : R1 ops p R a0 W G (L.setIfInBounds i true) (a.put (some s) v) x' := by
  refine ⟨h.df, by show (a.tmps.setIfInBounds s v).size = _; rw [Array.size_setIfInBounds]; exact h.sz, fun r hr => ?_, fun j r hj hr => ?_, fun hl => ?_, fun hl => ?_⟩
  · have hne : s ≠ r := fun e => by subst e; rw [hd] at hr; cases hr
    exact (tmps_other v hne).trans (h.old r hr)
  · show R j ((a.tmps.setIfInBounds s v).getD r undef)
    by_cases e : i = j
    · subst e
      rw [hi] at hr
      cases hr
      rw [tmps_self v (by rw [h.sz]; exact hs)]
      exact hv
    · have hne : s ≠ r := fun e2 => by subst e2; exact e (uniq_of hu j hr).symm
      rw [tmps_other v hne]
      rw [getD_other e] at hj
      exact h.rel j r hj hr
  · rw [getD_other hp] at hl
    rcases hb with ⟨-, hb⟩ | rfl
    · exact bw_call (h.bel hl) hb
    · exact h.bel hl
  · rw [getD_other hp] at hl
    rcases hb with ⟨hb, -⟩ | rfl
    · rw [hb] at hl; cases hl
    · exact h.fin hl

theorem R1.store {ops : Array Oper} {p : Nat} {R : Nat → Value → Prop} {a0 : Act} {W : World} {G : World → World} {L : Array Bool} {a : Act} {x : World} (h : R1 ops p R a0 W G L a x) (hp : p < L.size) (hn : L.getD p false = false) (hd : ((ops[p]?).bind (·.dst)) = none) : R1 ops p R a0 W G (L.setIfInBounds p true) a (G x) := by
  refine ⟨h.df, h.sz, h.old, fun j r hj hr => ?_, fun hl => ?_, fun _ => ⟨x, h.bel hn, rfl⟩⟩
  · by_cases e : p = j
    · subst e; rw [hd] at hr; cases hr
    · rw [getD_other e] at hj
      exact h.rel j r hj hr
  · rw [getD_self hp] at hl; cases hl

theorem R1.frame {ops : Array Oper} {p : Nat} {R : Nat → Value → Prop} {a0 : Act} {W : World} {G : World → World} {L : Array Bool} {a : Act} {x : World} (h : R1 ops p R a0 W G L a x) (S : List Nat) (hS : frameB ops S a0.tmps.size = true) : a = Act.puts a0 (fun s => a.tmps.getD s undef) S := by
  have hd : a.defers = (Act.puts a0 (fun s => a.tmps.getD s undef) S).defers := by rw [puts_defers]; exact h.df
  have ht : a.tmps = (Act.puts a0 (fun s => a.tmps.getD s undef) S).tmps := by
    refine arr_ext (by rw [puts_size]; exact h.sz) (fun r hr => ?_)
    rw [puts_at _ S a0 r (by rw [← h.sz]; exact hr)]
    by_cases hm : r ∈ S
    · rw [if_pos hm]
    · rw [if_neg hm]
      exact h.old r (frame_of hS r (by rw [← h.sz]; exact hr) hm)
  generalize Act.puts a0 (fun s => a.tmps.getD s undef) S = b at hd ht
  cases a
  cases b
  simp only at hd ht
  rw [hd, ht]
end Go.Proofs.YtjhfeegilhmgkaaGreatDoor

namespace Go.Proofs.YtjhfeegilhmgkaaGreatDoor
open Go.RowKit

set_option linter.unusedVariables false

theorem add_offM (g a j : Nat) : (⟨g, a, none⟩ : Addr).add j = ⟨g, a + j, none⟩ := by unfold Addr.add; split <;> simp_all
end Go.Proofs.YtjhfeegilhmgkaaGreatDoor

namespace Go.Proofs.YtjhfeegilhmgkaaGreatDoor
open Go.RowKit

set_option linter.unusedVariables false

theorem notNil_rep (g off n cap : Nat) (W : World) : (binOp BinOp.eql 31 (.slice (some ⟨g, off, none⟩) n cap) (.slice none 0 0)).run Tryz.prog W = .ok (.bool false) W := by kernel_rfl

theorem cloneReps_any (g off cap : Nat) (rs : List (Int × Int)) (w : World) (hn : rs.length ≤ 1048576) (h : ReadsR 2 repC w.heap.size w (.slice (some ⟨g, off, none⟩) rs.length cap) rs) :
    Calls Tryz.prog 197 #[.slice (some ⟨g, off, none⟩) rs.length cap] w fun e w' => ∃ v' : Value, e = .returned v' ∧ w'.ownsRow w.heap.size 43 2 v' rs.length (rs.flatMap repC) ∧ v' ≠ .slice none 0 0 ∧ Below w.heap.size w w' := by
  obtain ⟨j0, ji, jz0, jz1, jz2⟩ := info_parts Tryz.infoRep
  have own0 : (w.alloc (.cells #[] 43)).ownsRow w.heap.size 43 2 (.slice (some ⟨w.heap.size, 0, none⟩) 0 0) 0 [] := World.ownsRow_lit w #[] 0 (Nat.le_refl _) (Nat.zero_le _) rfl
  have d0 : Below w.heap.size w (w.alloc (.cells #[] 43)) := bw_alloc (Below.refl _ _)
  have HC : Hid (∀ j u, (rs.flatMap repC)[j]? = some u → ∃ g' off', some (⟨g, off, none⟩ : Addr) = some ⟨g', off', none⟩ ∧ (w.alloc (.cells #[] 43)).cell? ⟨g', off' + j, none⟩ = some u) := fun j u hj => by
    have q := flat_srcM repC_len (by decide) (h.below d0) j u hj
    rw [add_offM] at q
    exact ⟨g, off, rfl, q⟩
  have hnl : ∀ W : World, (binOp BinOp.eql 31 (.slice (some ⟨g, off, none⟩) rs.length cap) (.slice none 0 0)).run Tryz.prog W = .ok (.bool false) W := fun W => notNil_rep g off rs.length cap W
  clear h
  go_enter Tryz.func197, Tryz.ntmps197
  go_wp2_with (at_builtin; refine wpList_append_reads rfl _ _ 31 rfl w.heap.size 43 j0 (.agg #[.int .i64 0, .int .i64 0]) 2 16 Tryz.underlying31 ji jz0 jz1 jz2 rfl (by decide) _ 0 [] rfl own0 (some ⟨g, off, none⟩) rs.length cap (rs.flatMap repC) rfl ?c0 HC.out ?c2 ?c3 ?c4 ?c5 ?_)
  case c0 => exact flat_length repC_len rs
  case c2 => exact reps_one rs
  case c3 => unfold maxLen; omega
  case c4 => omega
  case c5 => simp
  intro v' w' hown hgrow hnil
  have hown2 : w'.ownsRow w.heap.size 43 2 v' rs.length (rs.flatMap repC) := by simpa using hown
  have hnn : v' ≠ .slice none 0 0 := hnil
  have hb : Below w.heap.size w w' := d0.grown hgrow (by simp) (fun q hq => (own0.lt q hq).1)
  clear hown hgrow hnil own0 d0 HC
  go_wp2_with fail
  go_ret
  exact ⟨v', rfl, hown2, hnn, hb⟩

set_option maxRecDepth 100000 in
set_option maxHeartbeats 3200000 in
theorem memo_any (a b c d a0 a1 b0 b1 c0 c1 e0 e1 : Int) (w : World) :
    Calls Tryz.prog 176 #[.agg #[.int .i64 a, .int .i64 b, .int .i64 c, .int .i64 d, .int .i64 a0, .int .i64 a1, .int .i64 b0, .int .i64 b1, .int .i64 c0, .int .i64 c1, .int .i64 e0, .int .i64 e1]] w fun e w' => ∃ u1 u2 : Value, e = .returned (.agg #[u1, u2]) ∧ OwnM w.heap.size w' u1 u2 [a, b, c, d] [(a0, a1), (b0, b1), (c0, c1), (e0, e1)] ∧ Below w.heap.size w w' := by
  obtain ⟨W0, hW0, k0, k1, d0, z0⟩ := box2 w #[.int .i64 a, .int .i64 b, .int .i64 c, .int .i64 d, .int .i64 a0, .int .i64 a1, .int .i64 b0, .int .i64 b1, .int .i64 c0, .int .i64 c1, .int .i64 e0, .int .i64 e1] #[.slice none 0 0, .slice none 0 0] 196 33
  have HW0 : Hid (W0 = _) := hW0
  have s0 := heap_lt k0
  have s1 := heap_lt k1
  have RT : Hid (∀ X, Below W0.heap.size W0 X → Reads X.heap.size X (.slice (some ⟨w.heap.size, 0, none⟩) 4 4) ([a, b, c, d].map (Value.int .i64))) := fun X b => by
    have k := (b.block _ s0).trans k0
    refine ⟨some ⟨w.heap.size, 0, none⟩, 4, rfl, by unfold maxLen; simp, fun j u hj => ⟨w.heap.size, 0, rfl, Nat.lt_of_lt_of_le s0 b.size, ?_⟩, by simp⟩
    rw [at_cell k]
    match j, hj with
    | 0, hj | 1, hj | 2, hj | 3, hj => simpa using hj
  have RR : Hid (∀ X, Below W0.heap.size W0 X → ReadsR 2 repC X.heap.size X (.slice (some ⟨w.heap.size, 4, none⟩) 4 4) [(a0, a1), (b0, b1), (c0, c1), (e0, e1)]) := fun X b => by
    have k := (b.block _ s0).trans k0
    refine ⟨some ⟨w.heap.size, 4, none⟩, 4, rfl, by unfold maxLen; simp, fun i x hx => ⟨w.heap.size, 4, rfl, Nat.lt_of_lt_of_le s0 b.size, fun j u hj => ?_⟩, by simp⟩
    rw [at_cell k]
    match i, hx with
    | 0, hx | 1, hx | 2, hx | 3, hx =>
      simp at hx
      subst hx
      match j, hj with
      | 0, hj | 1, hj => simpa [repC] using hj
  have HK1 : Hid _ := k1
  clear hW0 k0 z0
  go_enter Tryz.func176, Tryz.ntmps176
  go_upto_region 1 with fail
  rw [← HW0.out]
  clear HW0 k1
  go_region_law (first
    | (go_simp; go_at_call 196; refine (sameNumbers_any _ [a, b, c, d] _ (by simp) (RT.out W0.drew (bw_drew (Below.refl _ _)))).mono ?_; rintro e w5 ⟨v5, rfl, own5, hn5, b5⟩; obtain ⟨o5, c5, rfl⟩ := own_slice own5; have B5 : Below W0.heap.size W0 w5 := bw_call (bw_drew (Below.refl _ _)) b5; dsimp only)
    | (go_simp; go_at_call 197; refine (cloneReps_any w.heap.size 4 4 [(a0, a1), (b0, b1), (c0, c1), (e0, e1)] _ (by simp) (RR.out w5 B5)).mono ?_; rintro e w6 ⟨v6, rfl, own6, hn6, b6⟩; obtain ⟨o6, c6, rfl⟩ := own_slice own6; have B6 : Below W0.heap.size W0 w6 := bw_call B5 b6; have k6 := (B6.block _ s1).trans HK1.out; have q0 := at_cell k6 0; have q1 := at_cell k6 1; have f0 := at_open k6 0; have f1 := at_open k6 1; dsimp only))
  all_goals
    have ow : OwnM w.heap.size w6 (.slice o5 4 c5) (.slice o6 4 c6) [a, b, c, d] [(a0, a1), (b0, b1), (c0, c1), (e0, e1)] := ⟨owns_mono (owns_below own5 b6) d0.size, owns_mono own6 (Nat.le_trans d0.size B5.size)⟩
    have HS : Hid _ := mem_end w w6 _ _ _ _ (w.heap.size + 1) [a, b, c, d] [(a0, a1), (b0, b1), (c0, c1), (e0, e1)] (by omega) k6 ow (bw_call d0 B6)
    clear ow own5 own6 b5 b6 B5 B6 k6 q0 q1 f0 f1 RT RR HK1 hn5 hn6
    go_wp2_with fail
    exact bodyPost_ret (v := .agg #[.slice o5 4 c5, .slice o6 4 c6]) (by simp [results, Tryz.results176, go_sem, at_cell HS.out.1]) rfl ⟨_, _, rfl, HS.out.2⟩
end Go.Proofs.YtjhfeegilhmgkaaGreatDoor

namespace Go.Proofs.YtjhfeegilhmgkaaGreatDoor
open Go.RowKit

set_option linter.unusedVariables false

set_option maxRecDepth 100000 in
set_option maxHeartbeats 3200000 in
theorem implNewMemo_any (w : World) :
    Calls Tryz.prog 129 #[] w fun e w' => ∃ u1 u2 : Value, e = .returned (.agg #[u1, u2]) ∧ OwnM w.heap.size w' u1 u2 [0, 0, 0, 0] [(0, 0), (0, 0), (0, 0), (0, 0)] ∧ Below w.heap.size w w' := by
  obtain ⟨W0, hW0, k0, d0, z0⟩ := box1 w #[.slice none 0 0, .slice none 0 0] 33
  have HW0 : Hid (W0 = _) := hW0
  clear hW0 z0
  go_enter Tryz.func129, Tryz.ntmps129
  go_upto_region 1 with fail
  rw [← HW0.out]
  clear HW0
  go_wp2_with fail
  refine (memo_any 0 0 0 0 0 0 0 0 0 0 0 0 _).mono ?_
  rintro e w1 ⟨u1, u2, rfl, own, b1⟩
  replace k0 := (b1.block _ (heap_lt k0)).trans k0
  obtain ⟨o1, c1, hu1⟩ := own_slice own.t
  obtain ⟨o2, c2, hu2⟩ := own_slice own.r
  have hu1' : u1 = .slice o1 4 c1 := hu1
  have hu2' : u2 = .slice o2 4 c2 := hu2
  subst hu1' hu2'
  clear hu1 hu2
  have HS : Hid _ := mem_end w w1 _ _ _ _ w.heap.size _ _ (Nat.le_refl _) k0 (own.mono d0.size) (bw_call d0 b1)
  have q0 := at_cell k0 0
  have q1 := at_cell k0 1
  have f0 := at_open k0 0
  have f1 := at_open k0 1
  clear own k0 b1 d0
  go_wp2_with fail
  exact bodyPost_ret (v := .agg #[.slice o1 4 c1, .slice o2 4 c2]) (by simp [results, Tryz.results129, go_sem, at_cell HS.out.1]) rfl ⟨_, _, rfl, HS.out.2⟩
end Go.Proofs.YtjhfeegilhmgkaaGreatDoor

namespace Go.Proofs.YtjhfeegilhmgkaaGreatDoor
open Go.RowKit

set_option linter.unusedVariables false

set_option maxRecDepth 100000


def newM : List Int × List (Int × Int) := ([0, 0, 0, 0], [(0, 0), (0, 0), (0, 0), (0, 0)])

theorem specNewMemoM_any (w : World) :
    Calls Tryz.prog 135 #[] w fun e w' => ∃ u1 u2 : Value, e = .returned (.agg #[u1, u2]) ∧ OwnM w.heap.size w' u1 u2 newM.1 newM.2 ∧ Below w.heap.size w w' := specNewMemo_any w
end Go.Proofs.YtjhfeegilhmgkaaGreatDoor

namespace Go.Proofs.YtjhfeegilhmgkaaGreatDoor
open Go.RowKit

set_option linter.unusedVariables false

set_option maxRecDepth 100000


set_option maxHeartbeats 1600000 in
theorem specEntryOk_any (sq cl tg k : Int) (nm ot : ByteArray) (at_ va ep : Int) (w : World) (hn : nm.size ≤ maxLen) (ho : ot.size ≤ maxLen) :
    Calls Tryz.prog 130 #[.agg #[.int .i64 sq, .int .i64 cl, .int .i64 tg, .int .i64 k, .string nm, .string ot, .int .i64 at_, .int .i64 va, .int .i64 ep]] w fun e w' => e = .returned (.bool (entOk ⟨sq, cl, tg, ⟨k, nm, ot, at_, va, ep⟩⟩)) ∧ Below w.heap.size w w' := by
  obtain ⟨W0, hW0, k0, d0, z0⟩ := box1 w #[.int .i64 sq, .int .i64 cl, .int .i64 tg, .int .i64 k, .string nm, .string ot, .int .i64 at_, .int .i64 va, .int .i64 ep] 39
  have HW0 : Hid (W0 = _) := hW0
  have p0 := at_cell k0 0
  have p1 := at_cell k0 1
  have p2 := at_cell k0 2
  have p3 := at_cell k0 3
  have p4 := at_cell k0 4
  have p5 := at_cell k0 5
  have p6 := at_cell k0 6
  have p7 := at_cell k0 7
  have p8 := at_cell k0 8
  have HB : Hid (entOk ⟨sq, cl, tg, ⟨k, nm, ot, at_, va, ep⟩⟩ = ((decide (1 ≤ sq) && decide (sq ≤ 1000)) && (decide (1 ≤ tg) && decide (tg ≤ 1000)) && (decide (0 ≤ cl) && decide (cl ≤ 3)) && changes ⟨k, nm, ot, at_, va, ep⟩)) := rfl
  clear hW0 z0 k0
  go_enter Tryz.func130, Tryz.ntmps130
  go_wp2_with fail
  rw [← HW0.out]
  clear HW0
  refine (l1In_any sq 1 1000 _).mono ?_
  rintro e w' ⟨rfl, rfl⟩
  generalize (decide (1 ≤ sq) && decide (sq ≤ 1000)) = c0 at *
  cases c0
  · go_wp2_with fail
    go_ret
    exact ⟨ret_bool (by rw [HB.out]; rfl), d0⟩
  go_wp2_with fail
  refine (l1In_any tg 1 1000 _).mono ?_
  rintro e w' ⟨rfl, rfl⟩
  generalize (decide (1 ≤ tg) && decide (tg ≤ 1000)) = c1 at *
  cases c1
  · go_wp2_with fail
    go_ret
    exact ⟨ret_bool (by rw [HB.out]; rfl), d0⟩
  go_wp2_with fail
  refine (l1In_any cl 0 3 _).mono ?_
  rintro e w' ⟨rfl, rfl⟩
  generalize (decide (0 ≤ cl) && decide (cl ≤ 3)) = c2 at *
  cases c2
  · go_wp2_with fail
    go_ret
    exact ⟨ret_bool (by rw [HB.out]; rfl), d0⟩
  go_wp2_with fail
  refine (specChanges_any k nm ot at_ va ep _ hn ho).mono ?_
  rintro e w1 ⟨rfl, b1⟩
  replace d0 := bw_call d0 b1
  generalize changes ⟨k, nm, ot, at_, va, ep⟩ = c3 at *
  go_wp2_with fail
  go_ret
  exact ⟨ret_bool (by rw [HB.out]; rfl), d0⟩

theorem nine_cells {B : Nat} {w : World} {o : Option Addr} {l : List Ent} (hc : ∀ i x, l[i]? = some x → ∃ g off, o = some ⟨g, off, none⟩ ∧ g < B ∧ ∀ j u, (entC x)[j]? = some u → w.cell? ⟨g, off + i * 9 + j, none⟩ = some u) (i : Nat) (hi : i < l.length) :
    ∃ g off, o = some ⟨g, off, none⟩ ∧ g < B ∧ w.cell? ⟨g, off + i * 9, none⟩ = some (.int .i64 l[i].sq) ∧ w.cell? ⟨g, off + i * 9 + 1, none⟩ = some (.int .i64 l[i].cl) ∧ w.cell? ⟨g, off + i * 9 + 2, none⟩ = some (.int .i64 l[i].tg) ∧ w.cell? ⟨g, off + i * 9 + 3, none⟩ = some (.int .i64 l[i].o.k) ∧ w.cell? ⟨g, off + i * 9 + 4, none⟩ = some (.string l[i].o.nm) ∧ w.cell? ⟨g, off + i * 9 + 5, none⟩ = some (.string l[i].o.ot) ∧ w.cell? ⟨g, off + i * 9 + 6, none⟩ = some (.int .i64 l[i].o.at_) ∧ w.cell? ⟨g, off + i * 9 + 7, none⟩ = some (.int .i64 l[i].o.va) ∧ w.cell? ⟨g, off + i * 9 + 8, none⟩ = some (.int .i64 l[i].o.ep) := by
  obtain ⟨g, off, e, hg, hx⟩ := hc i l[i] (List.getElem?_eq_getElem hi)
  exact ⟨g, off, e, hg, hx 0 _ rfl, hx 1 _ rfl, hx 2 _ rfl, hx 3 _ rfl, hx 4 _ rfl, hx 5 _ rfl, hx 6 _ rfl, hx 7 _ rfl, hx 8 _ rfl⟩

/-- Numbers of 64 bits, texts that can be. -/
def FitEnt (e : Ent) : Prop := (e.o.nm.size ≤ maxLen ∧ e.o.ot.size ≤ maxLen) ∧ I64 e.sq ∧ I64 e.cl ∧ I64 e.tg ∧ I64 e.o.k ∧ I64 e.o.at_ ∧ I64 e.o.va ∧ I64 e.o.ep

def FitLog (l : List Ent) : Prop := ∀ e ∈ l, FitEnt e

theorem logOk_of {l : List Ent} {n : Nat} (h : inOrd 0 tags0 l = n) : logOk l = (decide (l.length ≤ 120) && decide (n = l.length)) := by rw [logOk, h]

set_option maxHeartbeats 3200000 in
theorem specLogOk_any (v : Value) (l : List Ent) (w : World) (hf : FitLog l) (r : ReadsR 9 entC w.heap.size w v l) :
    Calls Tryz.prog 78 #[v] w fun e w' => e = .returned (.bool (logOk l)) ∧ Below w.heap.size w w' := by
  obtain ⟨o, cap, rfl, hm, hc, -⟩ := r
  have HC : Hid _ := nine_cells hc
  have HF : Hid _ := hf
  obtain ⟨M, -, hmk, hown⟩ := made_ints 4 (by omega)
  have e4 : ((4 : Nat) : Int) = 4 := rfl
  rw [e4] at hmk
  have own0 := hown w w.heap.size (Nat.le_refl _)
  have bd0 : Below w.heap.size w (w.alloc (.cells M 2)) := bw_alloc (Below.refl _ _)
  unfold maxLen at hm
  clear hown hc hf e4
  go_enter Tryz.func78, Tryz.ntmps78
  go_wp2_with fail
  generalize w.alloc (.cells M 2) = W0 at own0 bd0 ⊢
  clear hmk
  go_loopw [4] (fun i wr => ∃ (k : Nat) (t : List Int), k ≤ l.length ∧ i = .int .i64 k ∧ t.length = 4 ∧ inOrd 0 tags0 l = inOrd k t (l.drop k) ∧ wr.ownsRow w.heap.size 2 1 (.slice (some ⟨w.heap.size, 0, none⟩) 4 4) 4 (t.map (Value.int .i64)) ∧ Below w.heap.size w wr) (fun i _ => l.length - (intOf i).toNat)
  case atStart => exact ⟨0, tags0, Nat.zero_le _, rfl, rfl, rfl, own0, bd0⟩
  case round =>
    clear own0 bd0
    obtain ⟨k, t, hk, rfl, htl, hin, own, hb⟩ := hrel
    by_cases hlt : k < l.length
    · obtain ⟨g, off, rfl, hg, a0, a1, a2, a3, a4, a5, a6, a7, a8⟩ := HC.out k hlt
      have hfe := HF.out l[k] (List.getElem_mem hlt)
      have HY : Hid (stepOk k t l[k] = true → inOrd 0 tags0 l = inOrd (k + 1) (t.set l[k].cl.toNat l[k].tg) (l.drop (k + 1))) := fun h => hin.trans (inOrd_yes hlt h)
      have HN : Hid (stepOk k t l[k] = false → logOk l = false) := fun h => by rw [logOk_of (hin.trans (inOrd_no hlt h)), decide_eq_false (show ¬ k = l.length by omega), Bool.and_false]
      generalize l[k] = x at a0 a1 a2 a3 a4 a5 a6 a7 a8 hfe HY HN
      obtain ⟨sq, cl, tg, ⟨k1, nm, ot, at_, va, ep⟩⟩ := x
      simp only at a0 a1 a2 a3 a4 a5 a6 a7 a8
      obtain ⟨⟨hn, ho⟩, -⟩ := hfe
      simp only at hn ho
      replace a0 := (hb.cell (p := ⟨g, off + k * 9, none⟩) hg).trans a0
      replace a1 := (hb.cell (p := ⟨g, off + k * 9 + 1, none⟩) hg).trans a1
      replace a2 := (hb.cell (p := ⟨g, off + k * 9 + 2, none⟩) hg).trans a2
      replace a3 := (hb.cell (p := ⟨g, off + k * 9 + 3, none⟩) hg).trans a3
      replace a4 := (hb.cell (p := ⟨g, off + k * 9 + 4, none⟩) hg).trans a4
      replace a5 := (hb.cell (p := ⟨g, off + k * 9 + 5, none⟩) hg).trans a5
      replace a6 := (hb.cell (p := ⟨g, off + k * 9 + 6, none⟩) hg).trans a6
      replace a7 := (hb.cell (p := ⟨g, off + k * 9 + 7, none⟩) hg).trans a7
      replace a8 := (hb.cell (p := ⟨g, off + k * 9 + 8, none⟩) hg).trans a8
      obtain ⟨W5, hW5, k5, d5, z5⟩ := box1 wr #[.int .i64 sq, .int .i64 cl, .int .i64 tg, .int .i64 k1, .string nm, .string ot, .int .i64 at_, .int .i64 va, .int .i64 ep] 39
      have HW5 : Hid (W5 = _) := hW5
      have HO : Hid (W5.ownsRow w.heap.size 2 1 (.slice (some ⟨w.heap.size, 0, none⟩) 4 4) 4 (t.map (Value.int .i64))) := owns_below own d5
      have hb5 := bw_call hb d5
      have HS : Hid (stepOk k t ⟨sq, cl, tg, ⟨k1, nm, ot, at_, va, ep⟩⟩ = (entOk ⟨sq, cl, tg, ⟨k1, nm, ot, at_, va, ep⟩⟩ && decide (sq = (k : Int) + 1) && decide (t.getD cl.toNat 0 < tg))) := rfl
      have s5 := heap_lt k5
      have HIN : Hid _ := hin
      clear hW5 own hb d5 HC HF hin z5
      go_wp2_with fail
      rw [← HW5.out]
      clear HW5 a0 a1 a2 a3 a4 a5 a6 a7 a8
      have hne := BelowOf.any W5
      have q0 := BelowOf.cell (at_cell k5 0) s5
      have q1 := BelowOf.cell (at_cell k5 1) s5
      have q2 := BelowOf.cell (at_cell k5 2) s5
      have q3 := BelowOf.cell (at_cell k5 3) s5
      have q4 := BelowOf.cell (at_cell k5 4) s5
      have q5 := BelowOf.cell (at_cell k5 5) s5
      have q6 := BelowOf.cell (at_cell k5 6) s5
      have q7 := BelowOf.cell (at_cell k5 7) s5
      have q8 := BelowOf.cell (at_cell k5 8) s5
      obtain ⟨okv, hok⟩ : ∃ x, entOk ⟨sq, cl, tg, ⟨k1, nm, ot, at_, va, ep⟩⟩ = x := ⟨_, rfl⟩
      have HEQ : ∀ q : BelowOf W5, Calls Tryz.prog 130 #[.agg #[.int .i64 sq, .int .i64 cl, .int .i64 tg, .int .i64 k1, .string nm, .string ot, .int .i64 at_, .int .i64 va, .int .i64 ep]] q.w' fun e w' => e = .returned (.bool okv) ∧ Below q.w'.heap.size q.w' w' := fun q => by have h := specEntryOk_any sq cl tg k1 nm ot at_ va ep q.w' hn ho; rwa [hok] at h
      have HOK : Hid (entOk ⟨sq, cl, tg, ⟨k1, nm, ot, at_, va, ep⟩⟩ = okv) := hok
      have hw1 : IntKind.i64.wrap ((k : Int) + 1) = (k : Int) + 1 := by rw [IntKind.wrap_i64]; omega
      clear hok
      cases okv
      · have HX : Hid (stepOk k t ⟨sq, cl, tg, ⟨k1, nm, ot, at_, va, ep⟩⟩ = false) := by rw [Hid, HS.out, HOK.out]; rfl
        refine wp_region_of (by kernel_rfl) (by kernel_rfl) ?_
        repeat (go_big_quiet_step ((first | (go_at_call 130; exact calls_of (HEQ _)) | rfl)))
        refine wpQuiet_nil ?_
        intro w6 hw6
        obtain ⟨⟨wx, cx⟩, hwx⟩ := hw6
        have b6 : Below W5.heap.size W5 w6 := by rw [hwx]; exact cx
        have hb6 := bw_call hb5 b6
        clear hwx cx wx hne q0 q1 q2 q3 q4 q5 q6 q7 q8 HEQ
        go_wp2_with fail
        go_ret
        exact ⟨ret_bool (HN.out HX.out).symm, hb6⟩
      have hbd := entOk_bd HOK.out
      simp only at hbd
      obtain ⟨C, rfl⟩ := Int.eq_ofNat_of_zero_le hbd.2.2.1.1
      have hC : C < 4 := by omega
      clear hbd
      by_cases hsq : sq = (k : Int) + 1
      · have hj1 : (sq != (k : Int) + 1) = false := by rw [hsq]; simp
        have HSQ : Hid (sq = (k : Int) + 1) := hsq
        clear hsq
        have t0 := HO.out.cellAt C (by omega)
        rw [List.getElem?_map, List.getElem?_eq_getElem (show C < t.length by omega)] at t0
        simp only [Option.map_some] at t0
        have HG : Hid (t.getD C 0 = t[C]) := by simp [Hid, List.getD, show C < t.length by omega]
        have qt := BelowOf.cell t0 (HO.out.lt _ rfl).2
        have i0 : (0 : Int) ≤ (C : Int) := by omega
        have i1 : (C : Int) < 4 := by omega
        generalize t[C] = y at t0 qt HG
        by_cases hty : tg ≤ y
        · have HX : Hid (stepOk k t ⟨sq, (C : Int), tg, ⟨k1, nm, ot, at_, va, ep⟩⟩ = false) := by rw [Hid, HS.out, show ((C : Int)).toNat = C from rfl, HG.out, decide_eq_false (show ¬ y < tg by omega), Bool.and_false]
          have hj2 : decide (tg ≤ y) = true := decide_eq_true hty
          clear hty
          refine wp_region_of (by kernel_rfl) (by kernel_rfl) ?_
          repeat (go_big_quiet_step ((first | (go_at_call 130; exact calls_of (HEQ _)) | rfl)))
          refine wpQuiet_nil ?_
          intro w6 hw6
          obtain ⟨⟨wx, cx⟩, hwx⟩ := hw6
          have b6 : Below W5.heap.size W5 w6 := by rw [hwx]; exact cx
          have hb6 := bw_call hb5 b6
          clear hwx cx wx hne q0 q1 q2 q3 q4 q5 q6 q7 q8 HEQ qt
          go_wp2_with fail
          go_ret
          exact ⟨ret_bool (HN.out HX.out).symm, hb6⟩
        have HX : Hid (stepOk k t ⟨sq, (C : Int), tg, ⟨k1, nm, ot, at_, va, ep⟩⟩ = true) := by rw [Hid, HS.out, show ((C : Int)).toNat = C from rfl, HG.out, HOK.out, decide_eq_true (show y < tg by omega), decide_eq_true HSQ.out]; rfl
        have hj2 : decide (tg ≤ y) = false := decide_eq_false hty
        clear hty
        have HIX : Hid _ := HY.out HX.out
        refine wp_region_of (by kernel_rfl) (by kernel_rfl) ?_
        repeat (go_big_quiet_step ((first | (go_at_call 130; exact calls_of (HEQ _)) | rfl)))
        refine wpQuiet_nil ?_
        intro w6 hw6
        obtain ⟨⟨wx, cx⟩, hwx⟩ := hw6
        have b6 : Below W5.heap.size W5 w6 := by rw [hwx]; exact cx
        have hb6 := bw_call hb5 b6
        have own6 := owns_below HO.out b6
        have k6 := (b6.block _ s5).trans k5
        have p1 := at_cell k6 1
        have p2 := at_cell k6 2
        have t6 := own6.cellAt C (by omega)
        have f6 := own6.frozenAt C
        rw [List.getElem?_map, List.getElem?_eq_getElem (show C < t.length by omega)] at t6
        simp only [Option.map_some] at t6
        generalize t[C] = y6 at t6
        obtain ⟨hst, hgr⟩ := own6.stored C (.int .i64 tg)
        rw [← List.map_set] at hst
        have hbf : Below w.heap.size w (w6.setCell ⟨w.heap.size, C, none⟩ (.int .i64 tg)) := bw_set (p := ⟨w.heap.size, C, none⟩) hb6 (by simp) _
        have HFI : Hid _ := And.intro hst hbf
        have htl2 : (t.set C tg).length = 4 := by simpa using htl
        have HTL : Hid ((t.set C tg).length = 4) := htl2
        clear hwx cx wx hne q0 q1 q2 q3 q4 q5 q6 q7 q8 HEQ qt t0 hst hbf hgr own6 htl2 b6 hb6 HO hb5 HS HY HN HOK HG HX HIN k6 k5 htl
        go_wp2_with fail
        go_roundw
        case rel => exact ⟨k + 1, t.set C tg, by omega, by go_num, HTL.out, HIX.out, HFI.out.1, HFI.out.2⟩
        case measure => simp [intOf]; omega
      · have hj1 : (sq != (k : Int) + 1) = true := by rw [bne_iff_ne]; exact hsq
        have HX : Hid (stepOk k t ⟨sq, (C : Int), tg, ⟨k1, nm, ot, at_, va, ep⟩⟩ = false) := by rw [Hid, HS.out, decide_eq_false hsq, Bool.and_false]; rfl
        clear hsq
        refine wp_region_of (by kernel_rfl) (by kernel_rfl) ?_
        repeat (go_big_quiet_step ((first | (go_at_call 130; exact calls_of (HEQ _)) | rfl)))
        refine wpQuiet_nil ?_
        intro w6 hw6
        obtain ⟨⟨wx, cx⟩, hwx⟩ := hw6
        have b6 : Below W5.heap.size W5 w6 := by rw [hwx]; exact cx
        have hb6 := bw_call hb5 b6
        clear hwx cx wx hne q0 q1 q2 q3 q4 q5 q6 q7 q8 HEQ
        go_wp2_with fail
        go_ret
        exact ⟨ret_bool (HN.out HX.out).symm, hb6⟩
    · have HE : Hid (logOk l = decide ((l.length : Int) ≤ 120)) := by
        rw [Hid, logOk_of (hin.trans (inOrd_end hlt)), decide_eq_true (show k = l.length by omega), Bool.and_true]
        congr 1
        rw [eq_iff_iff]
        omega
      clear HC HF hin own
      go_wp2_with fail
      go_ret
      exact ⟨ret_bool HE.out.symm, hb⟩
end Go.Proofs.YtjhfeegilhmgkaaGreatDoor

