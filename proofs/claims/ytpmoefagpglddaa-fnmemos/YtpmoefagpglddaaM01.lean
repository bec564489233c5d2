/-
  Contracts and plain laws, one chapter behind the other.
-/
import Derived.WalkKit
import Derived.Below
import Derived.Laws.AppendOwn
import Derived.Deep.QuietTactic
import Derived.BigQuiet
import Derived.Test.YtpmoefagpglddaaChecked
import Derived.Laws.OwnMore
import Derived.OwnWalk
import Derived.Laws.MakeOwn
import Derived.WalkSpells
namespace Go.Proofs.Ytpmoefagpglddaa

set_option linter.unusedVariables false

set_option maxRecDepth 100000


structure Oq where
  k : Int
  nm : ByteArray
  ot : ByteArray
  at_ : Int
  va : Int
  ep : Int

def Oq.zero : Oq := ⟨0, ByteArray.empty, ByteArray.empty, 0, 0, 0⟩

def inB (x lo hi : Int) : Bool := decide (lo ≤ x) && decide (x ≤ hi)

theorem inB_iff (x lo hi : Int) : inB x lo hi = true ↔ lo ≤ x ∧ x ≤ hi := by simp [inB]
end Go.Proofs.Ytpmoefagpglddaa

namespace Go.Proofs.Ytpmoefagpglddaa

set_option linter.unusedVariables false

set_option maxRecDepth 100000


def repOk (c v : Int) : Bool := inB c 0 9 && inB v 0 1000 && (decide (c = 0) || decide (v = 0))

/-- As the program asks: the highest first. -/
theorem repOk_by (c v : Int) : repOk c v = (inB c 0 9 && inB v 0 (if c = 0 then 1000 else 0)) := by
  unfold repOk
  by_cases h : c = 0
  · rw [if_pos h]
    simp [h]
  · rw [if_neg h, Bool.eq_iff_iff]
    simp only [Bool.and_eq_true, inB_iff, Bool.or_eq_true, decide_eq_true_eq]
    omega
end Go.Proofs.Ytpmoefagpglddaa

namespace Go.Proofs.Ytpmoefagpglddaa

set_option linter.unusedVariables false

set_option maxRecDepth 100000


def memAt (t : Int) (r : Int × Int) : Bool := inB t 0 1000 && repOk r.1 r.2 && (!decide (t = 0) || decide (r = (0, 0)))

def memN (ts : List Int) (rs : List (Int × Int)) (n : Nat) : Bool := (List.range n).all fun j => memAt (ts.getD j 0) (rs.getD j (0, 0))

def memOk (ts : List Int) (rs : List (Int × Int)) : Bool := decide (ts.length = 4) && decide (rs.length = 4) && memN ts rs 4

/-- As the program asks: first the tags, then the replies. -/
def tagAt (t : Int) : Bool := !(!decide (t = 0) && !inB t 1 1000)

def tagN (ts : List Int) (n : Nat) : Bool := (List.range n).all fun j => tagAt (ts.getD j 0)

def repAt (t : Int) (r : Int × Int) : Bool := repOk r.1 r.2 && (!decide (t = 0) || decide (r = (0, 0)))

def repN (ts : List Int) (rs : List (Int × Int)) (n : Nat) : Bool := (List.range n).all fun j => repAt (ts.getD j 0) (rs.getD j (0, 0))

theorem allB_succ (p : Nat → Bool) (n : Nat) : (List.range (n + 1)).all p = ((List.range n).all p && p n) := by
  rw [List.range_succ, List.all_append]; simp

theorem allB_false (p : Nat → Bool) (n j : Nat) (hj : j < n) (h : p j = false) : (List.range n).all p = false := by
  rw [List.all_eq_false]; exact ⟨j, List.mem_range.2 hj, by rw [h]; decide⟩

theorem allB_and (p q : Nat → Bool) (n : Nat) : ((List.range n).all fun j => p j && q j) = ((List.range n).all p && (List.range n).all q) := by
  induction n with
  | zero => rfl
  | succ n ih => rw [allB_succ, allB_succ, allB_succ, ih]; cases (List.range n).all p <;> cases (List.range n).all q <;> cases p n <;> cases q n <;> rfl

theorem memAt_by (t : Int) (r : Int × Int) : memAt t r = (tagAt t && repAt t r) := by
  have h : inB t 0 1000 = tagAt t := by
    rw [Bool.eq_iff_iff, inB_iff, tagAt]
    cases hb : inB t 1 1000 with
    | true => rw [inB_iff] at hb; simp; omega
    | false =>
      have hb' : ¬ (1 ≤ t ∧ t ≤ 1000) := fun h => by rw [← inB_iff, hb] at h; cases h
      simp; omega
  rw [memAt, repAt, h, Bool.and_assoc]

theorem memN_by (ts : List Int) (rs : List (Int × Int)) (n : Nat) : memN ts rs n = (tagN ts n && repN ts rs n) := by
  unfold memN tagN repN
  rw [← allB_and]
  congr 1
  funext j
  exact memAt_by _ _

theorem memOk_by {ts : List Int} {rs : List (Int × Int)} (h1 : ts.length = 4) (h2 : rs.length = 4) : memOk ts rs = (tagN ts 4 && repN ts rs 4) := by
  rw [memOk, h1, h2, memN_by]; rfl

theorem memOk_no {ts : List Int} {rs : List (Int × Int)} (h : ¬ (ts.length = 4 ∧ rs.length = 4)) : memOk ts rs = false := by
  rw [memOk]
  by_cases h1 : ts.length = 4
  · have h2 : ¬ rs.length = 4 := fun e => h ⟨h1, e⟩
    rw [decide_eq_false h2, Bool.and_false, Bool.false_and]
  · rw [decide_eq_false h1, Bool.false_and, Bool.false_and]

theorem memOk_len {ts : List Int} {rs : List (Int × Int)} (h : memOk ts rs = true) : ts.length = 4 ∧ rs.length = 4 := by
  by_cases hc : ts.length = 4 ∧ rs.length = 4
  · exact hc
  · rw [memOk_no hc] at h; cases h

theorem memOk_at {ts : List Int} {rs : List (Int × Int)} (h : memOk ts rs = true) (j : Nat) (hj : j < 4) : memAt (ts.getD j 0) (rs.getD j (0, 0)) = true := by
  rw [memOk, Bool.and_eq_true] at h
  exact List.all_eq_true.1 h.2 j (List.mem_range.2 hj)

def knownIn (ts : List Int) (client tag : Int) : Int := if ts.getD client.toNat 0 < tag then 0 else if tag = ts.getD client.toNat 0 then 1 else 2

/-- As the program looks it up, where the memo is right. -/
def knownT (ts : List Int) (client tag : Int) : Int := if inB client 0 3 = true ∧ inB tag 1 1000 = true then knownIn ts client tag else -1

def knownM (ts : List Int) (rs : List (Int × Int)) (client tag : Int) : Int := if memOk ts rs = true then knownT ts client tag else -1

def notedM (ts : List Int) (rs : List (Int × Int)) (client tag : Int) (r : Int × Int) : (List Int × List (Int × Int)) × Bool :=
  if memOk ts rs = true then (if knownT ts client tag = 0 ∧ repOk r.1 r.2 = true then ((ts.set client.toNat tag, rs.set client.toNat r), true) else ((ts, rs), false)) else (([], []), false)

theorem knownIn_bd (ts : List Int) (client tag : Int) : 0 ≤ knownIn ts client tag ∧ knownIn ts client tag ≤ 2 := by
  unfold knownIn; split
  · omega
  · split <;> omega

theorem knownT_bd (ts : List Int) (client tag : Int) : -1 ≤ knownT ts client tag ∧ knownT ts client tag ≤ 2 := by
  unfold knownT; split
  · have := knownIn_bd ts client tag; omega
  · omega

theorem knownT_new {ts : List Int} {client tag : Int} (h : knownT ts client tag = 0) : (0 ≤ client ∧ client ≤ 3) ∧ (1 ≤ tag ∧ tag ≤ 1000) ∧ ts.getD client.toNat 0 < tag := by
  unfold knownT at h
  split at h
  · rename_i hc
    rw [inB_iff, inB_iff] at hc
    refine ⟨hc.1, hc.2, ?_⟩
    unfold knownIn at h
    split at h
    · assumption
    · split at h <;> omega
  · omega

theorem getD_set_self {α : Type} (xs : List α) (i : Nat) (x d : α) (h : i < xs.length) : (xs.set i x).getD i d = x := by
  rw [List.getD_eq_getElem?_getD, List.getElem?_set_self h]; rfl

theorem getD_set_other {α : Type} (xs : List α) (i j : Nat) (x d : α) (h : i ≠ j) : (xs.set i x).getD j d = xs.getD j d := by
  rw [List.getD_eq_getElem?_getD, List.getElem?_set_ne h, ← List.getD_eq_getElem?_getD]

/-- What is noted is right again. -/
theorem memOk_set {ts : List Int} {rs : List (Int × Int)} {client tag : Int} {r : Int × Int} (h : memOk ts rs = true) (hk : knownT ts client tag = 0) (hr : repOk r.1 r.2 = true) : memOk (ts.set client.toNat tag) (rs.set client.toNat r) = true := by
  obtain ⟨h1, h2⟩ := memOk_len h
  obtain ⟨hc, ht, hlt⟩ := knownT_new hk
  rw [memOk, List.length_set, List.length_set, h1, h2, Bool.and_eq_true]
  refine ⟨rfl, ?_⟩
  unfold memN
  rw [List.all_eq_true]
  intro j hj
  rw [List.mem_range] at hj
  by_cases e : client.toNat = j
  · subst e
    rw [getD_set_self _ _ _ _ (by omega), getD_set_self _ _ _ _ (by omega), memAt, hr, (inB_iff tag 0 1000).2 (by omega), decide_eq_false (show ¬ tag = 0 by omega)]
    rfl
  · rw [getD_set_other _ _ _ _ _ e, getD_set_other _ _ _ _ _ e]
    exact memOk_at h j hj

theorem known_last {ts : List Int} {rs : List (Int × Int)} {client tag : Int} {r : Int × Int} (h : memOk ts rs = true) (hk : knownT ts client tag = 0) (hr : repOk r.1 r.2 = true) : knownM (ts.set client.toNat tag) (rs.set client.toNat r) client tag = 1 := by
  obtain ⟨h1, h2⟩ := memOk_len h
  obtain ⟨hc, ht, hlt⟩ := knownT_new hk
  rw [knownM, if_pos (memOk_set h hk hr), knownT, if_pos ⟨(inB_iff _ _ _).2 hc, (inB_iff _ _ _).2 ht⟩, knownIn, getD_set_self _ _ _ _ (by omega), if_neg (by omega), if_pos rfl]

theorem known_old {ts : List Int} {rs : List (Int × Int)} {client tag : Int} {r : Int × Int} (h : memOk ts rs = true) (hk : knownT ts client tag = 0) (hr : repOk r.1 r.2 = true) (h1t : ¬ tag = 1) : knownM (ts.set client.toNat tag) (rs.set client.toNat r) client (tag - 1) = 2 := by
  obtain ⟨h1, h2⟩ := memOk_len h
  obtain ⟨hc, ht, hlt⟩ := knownT_new hk
  rw [knownM, if_pos (memOk_set h hk hr), knownT, if_pos ⟨(inB_iff _ _ _).2 hc, (inB_iff _ _ _).2 (by omega)⟩, knownIn, getD_set_self _ _ _ _ (by omega), if_neg (by omega), if_neg (by omega)]

theorem memOk_zero : memOk [0, 0, 0, 0] [(0, 0), (0, 0), (0, 0), (0, 0)] = true := by decide
end Go.Proofs.Ytpmoefagpglddaa

namespace Go.Proofs.Ytpmoefagpglddaa
open Go.RowKit


structure Upto (c : Nat) (w w' : World) : Prop where
  os : w'.os = w.os
  tape : w'.tape = w.tape
  output : w'.output = w.output
  size : w.heap.size ≤ w'.heap.size
  block : ∀ k, k < w.heap.size → k ≠ c → w'.heap[k]? = w.heap[k]?

theorem Upto.refl (c : Nat) (w : World) : Upto c w w := ⟨rfl, rfl, rfl, Nat.le_refl _, fun _ _ _ => rfl⟩

theorem Upto.trans {c : Nat} {a b d : World} (h : Upto c a b) (k : Upto c b d) : Upto c a d :=
  ⟨k.os.trans h.os, k.tape.trans h.tape, k.output.trans h.output, Nat.le_trans h.size k.size, fun i hi hc => (k.block i (Nat.lt_of_lt_of_le hi h.size) hc).trans (h.block i hi hc)⟩

theorem Upto.drew {c : Nat} {a w : World} (h : Upto c a w) : Upto c a w.drew := ⟨h.os, h.tape, h.output, h.size, h.block⟩

theorem Upto.drewN {c : Nat} {a w : World} (h : Upto c a w) (n : Nat) : Upto c a (w.drewN n) := ⟨h.os, h.tape, h.output, h.size, h.block⟩

theorem Upto.below {c : Nat} {a w w' : World} (h : Upto c a w) (k : Below w.heap.size w w') : Upto c a w' :=
  ⟨k.os.trans h.os, k.tape.trans h.tape, k.output.trans h.output, Nat.le_trans h.size k.size, fun i hi hc => (k.block i (Nat.lt_of_lt_of_le hi h.size)).trans (h.block i hi hc)⟩

theorem Upto.ofBelow {c : Nat} {w w' : World} (k : Below w.heap.size w w') : Upto c w w' := (Upto.refl c w).below k

theorem Upto.alloc {c : Nat} {a w : World} (h : Upto c a w) (o : Obj) : Upto c a (w.alloc o) := h.below ((Below.refl _ _).alloc (Nat.le_refl _) o)

theorem Upto.setCell {c : Nat} {a w : World} (h : Upto c a w) (p : Addr) (hp : p.block = c ∨ a.heap.size ≤ p.block) (u : Value) : Upto c a (w.setCell p u) :=
  ⟨h.os, h.tape, h.output, by simpa [World.setCell] using h.size, fun i hi hc => (Below.heap_setCell w p u i (by rcases hp with e | e <;> omega)).trans (h.block i hi hc)⟩

theorem Upto.toBelow {c B : Nat} {w w' : World} (h : Upto c w w') (hB : B ≤ w.heap.size) (hc : B ≤ c) : Below B w w' :=
  ⟨h.os, h.tape, h.output, h.size, fun k hk => h.block k (by omega) (by omega)⟩

theorem Upto.cell {c : Nat} {w w' : World} (h : Upto c w w') {p : Addr} (hp : p.block < w.heap.size) (hc : p.block ≠ c) : w'.cell? p = w.cell? p := World.cell?_of_block (w := w) (h.block p.block hp hc)

theorem Upto.frozen {c : Nat} {w w' : World} (h : Upto c w w') {p : Addr} (hp : p.block < w.heap.size) (hc : p.block ≠ c) : w'.frozen? p = w.frozen? p := World.frozen?_of_block (w := w) (h.block p.block hp hc)

theorem Upto.grown {c : Nat} {a w w' : World} {row : Option Nat} (h : Upto c a w) (hg : w.grownBy w' row) (hr : ∀ k, row = some k → a.heap.size ≤ k ∨ k = c) : Upto c a w' := by
  have hb : Below 0 w w' := (Below.refl 0 w).grown hg (Nat.zero_le _) (fun _ _ => Nat.zero_le _)
  exact ⟨hb.os.trans h.os, hb.tape.trans h.tape, hb.output.trans h.output, Nat.le_trans h.size hb.size, fun i hi hc => by
    refine (hg.block i (Nat.lt_of_lt_of_le hi h.size) ?_).trans (h.block i hi hc)
    intro e
    rcases hr i e.symm with e' | e' <;> omega⟩

theorem ownsRow_upto {w w' : World} {c base : Nat} {e : TypeId} {size : Nat} {v : Value} {n : Nat} {xs : List Value} (h : w.ownsRow base e size v n xs) (u : Upto c w w') (hb : c < base) : w'.ownsRow base e size v n xs := by
  obtain ⟨h1, h2⟩ := h
  refine ⟨h1, ?_⟩
  rcases h2 with h2 | ⟨g, cap, cur, hv, hg, hh, r⟩
  · exact Or.inl h2
  · have hlt : g < w.heap.size := by
      rcases Nat.lt_or_ge g w.heap.size with q | q
      · exact q
      · simp [Array.getElem?_eq_none q] at hh
    exact Or.inr ⟨g, cap, cur, hv, hg, by rw [u.block g hlt (by omega)]; exact hh, r⟩

/-- The worlds in which nothing that was there in w has turned: as a type, so that facts on cells are plain rules. -/
structure BelowOf (w : World) where
  w' : World
  h : Below w.heap.size w w'

theorem BelowOf.any (w : World) : Nonempty (BelowOf w) := ⟨⟨w, Below.refl _ _⟩⟩

theorem BelowOf.cell {w : World} {a : Addr} {v : Value} (h : w.cell? a = some v) (ha : a.block < w.heap.size) : ∀ p : BelowOf w, p.w'.cell? a = some v := fun p => (p.h.cell ha).trans h

theorem wp_region_of {P : Program} {id : Nat} {Q : Exit → Act → World → Prop} {a : Act} {w : World} {l : List Oper} (hm : P.follows .mixedOrders = true) (hB : Region.lexB .any l.toArray = true)
    (h : wpQuiet P l.toArray (fun w' => ∃ p : BelowOf w, w' = p.w') (fun a' => ∀ w', (∃ p : BelowOf w, w' = p.w') → Q .normal a' w') l a) : (Code.region id l.toArray true).wp P Q a w :=
  wp_region_quiet (C := fun w' => ∃ p : BelowOf w, w' = p.w') hm hB ⟨⟨{ w with drawn := w.drawn + 1 }, ⟨rfl, rfl, rfl, Nat.le_refl _, fun _ _ => rfl⟩⟩, rfl⟩ (by simpa using h)

theorem calls_of {P : Program} {f : FuncId} {args : Array Value} {w : World} {v : Value} {p : BelowOf w}
    (h : Calls P f args p.w' fun e w' => e = .returned v ∧ Below p.w'.heap.size p.w' w') : Calls P f args p.w' fun e w'' => e = .returned v ∧ ∃ q : BelowOf w, w'' = q.w' :=
  h.mono fun _ w'' ⟨he, hk⟩ => ⟨he, ⟨w'', p.h.trans (hk.mono p.h.size)⟩, rfl⟩

structure Cur (w : World) (c : Nat) (x : Option Addr) (len cap : Nat) : Prop where
  lt : c < w.heap.size
  hm : len ≤ maxLen
  b : w.cell? ⟨c, 0, none⟩ = some (.slice x len cap)
  ih : ∃ (i : Nat) (h : Int), i ≤ len ∧ w.cell? ⟨c, 1, none⟩ = some (.int .i64 i) ∧ w.cell? ⟨c, 2, none⟩ = some (.int .i64 h)
  f1 : w.frozen? ⟨c, 1, none⟩ = false
  f2 : w.frozen? ⟨c, 2, none⟩ = false
  src : ∀ j, j < len → ∃ b off z, x = some ⟨b, off, none⟩ ∧ b < c ∧ w.cell? ⟨b, off + j, none⟩ = some (.int .u8 z) ∧ 0 ≤ z ∧ z ≤ 255

/-- A cursor stays one where neither its block nor those below it turn. -/
theorem Cur.same {w w' : World} {c : Nat} {x : Option Addr} {len cap : Nat} (h : Cur w c x len cap) (k : Below (c + 1) w w') : Cur w' c x len cap := by
  obtain ⟨i, q, hi, h1, h2⟩ := h.ih
  have hc : ∀ o, w'.cell? ⟨c, o, none⟩ = w.cell? ⟨c, o, none⟩ := fun o => k.cell (p := ⟨c, o, none⟩) (Nat.lt_succ_self c)
  have hf : ∀ o, w'.frozen? ⟨c, o, none⟩ = w.frozen? ⟨c, o, none⟩ := fun o => k.frozen (p := ⟨c, o, none⟩) (Nat.lt_succ_self c)
  refine ⟨Nat.lt_of_lt_of_le h.lt k.size, h.hm, (hc 0).trans h.b, ⟨i, q, hi, (hc 1).trans h1, (hc 2).trans h2⟩, (hf 1).trans h.f1, (hf 2).trans h.f2, fun j hj => ?_⟩
  obtain ⟨b, off, z, e, hb, hz, h3, h4⟩ := h.src j hj
  exact ⟨b, off, z, e, hb, (k.cell (p := ⟨b, off + j, none⟩) (Nat.lt_succ_of_lt hb)).trans hz, h3, h4⟩

theorem Cur.alloc {w : World} {c : Nat} {x : Option Addr} {len cap : Nat} (h : Cur w c x len cap) (o : Obj) : Cur (w.alloc o) c x len cap :=
  h.same ((Below.refl _ _).alloc h.lt o)

theorem Cur.drew {w : World} {c : Nat} {x : Option Addr} {len cap : Nat} (h : Cur w c x len cap) : Cur w.drew c x len cap :=
  h.same ((Below.refl _ _).drew)

theorem Cur.below {w w' : World} {c : Nat} {x : Option Addr} {len cap : Nat} (h : Cur w c x len cap) (k : Below w.heap.size w w') : Cur w' c x len cap :=
  h.same (k.mono h.lt)

/-- What a step of the cursor leaves: two of its cells at most. -/
theorem Cur.step {w w' : World} {c : Nat} {x : Option Addr} {len cap : Nat} (h : Cur w c x len cap) (k : Upto c w w') (i : Nat) (q : Int) (hi : i ≤ len) (h0 : w'.cell? ⟨c, 0, none⟩ = w.cell? ⟨c, 0, none⟩)
    (h1 : w'.cell? ⟨c, 1, none⟩ = some (.int .i64 i)) (h2 : w'.cell? ⟨c, 2, none⟩ = some (.int .i64 q)) (g1 : w'.frozen? ⟨c, 1, none⟩ = false) (g2 : w'.frozen? ⟨c, 2, none⟩ = false) : Cur w' c x len cap := by
  refine ⟨Nat.lt_of_lt_of_le h.lt k.size, h.hm, h0.trans h.b, ⟨i, q, hi, h1, h2⟩, g1, g2, fun j hj => ?_⟩
  obtain ⟨b, off, z, e, hb, hz, h3, h4⟩ := h.src j hj
  exact ⟨b, off, z, e, hb, (k.cell (p := ⟨b, off + j, none⟩) (Nat.lt_trans hb h.lt) (Nat.ne_of_lt hb)).trans hz, h3, h4⟩
end Go.Proofs.Ytpmoefagpglddaa

namespace Go.Proofs.Ytpmoefagpglddaa
open Go.RowKit

set_option linter.unusedVariables false

set_option maxRecDepth 100000

theorem Try.infoI64 : (Try.prog.info? 2).map (fun i => (i.zero, i.size, i.bytes)) = some (some (.int .i64 0), 1, 8) := by kernel_rfl

theorem owns_below {w w' : World} {base : Nat} {e : TypeId} {size : Nat} {v : Value} {n : Nat} {xs : List Value} (h : w.ownsRow base e size v n xs) (k : Below w.heap.size w w') : w'.ownsRow base e size v n xs := by
  obtain ⟨h1, h2⟩ := h
  refine ⟨h1, ?_⟩
  rcases h2 with h2 | ⟨g, cap, cur, hv, hg, hh, r⟩
  · exact Or.inl h2
  · have hlt : g < w.heap.size := by
      rcases Nat.lt_or_ge g w.heap.size with q | q
      · exact q
      · simp [Array.getElem?_eq_none q] at hh
    exact Or.inr ⟨g, cap, cur, hv, hg, by rw [k.block g hlt]; exact hh, r⟩

theorem owns_form {w : World} {base : Nat} {e : TypeId} {size : Nat} {v : Value} {n : Nat} {xs : List Value} (h : w.ownsRow base e size v (n + 1) xs) : ∃ g cap, v = .slice (some ⟨g, 0, none⟩) (n + 1) cap := by
  rcases h.2 with ⟨_, hn⟩ | ⟨g, cap, cur, hv, _⟩
  · omega
  · exact ⟨g, cap, hv⟩

/-- A slice that is read: its length, and each of its cells, which lie below block B. -/
def Reads (B : Nat) (w : World) (v : Value) (xs : List Value) : Prop :=
  ∃ o cap, v = .slice o xs.length cap ∧ xs.length ≤ maxLen ∧ (∀ j u, xs[j]? = some u → ∃ g off, o = some ⟨g, off, none⟩ ∧ g < B ∧ w.cell? ⟨g, off + j, none⟩ = some u) ∧ xs.length ≤ cap

theorem Reads.below {B : Nat} {w w' : World} {v : Value} {xs : List Value} (h : Reads B w v xs) (k : Below B w w') : Reads B w' v xs := by
  obtain ⟨o, cap, hv, hm, hc, hr⟩ := h
  refine ⟨o, cap, hv, hm, fun j u hj => ?_, hr⟩
  obtain ⟨g, off, e, hg, hx⟩ := hc j u hj
  exact ⟨g, off, e, hg, (k.cell (p := ⟨g, off + j, none⟩) hg).trans hx⟩

theorem Reads.mono {B B' : Nat} {w : World} {v : Value} {xs : List Value} (h : Reads B w v xs) (k : B ≤ B') : Reads B' w v xs := by
  obtain ⟨o, cap, hv, hm, hc, hr⟩ := h
  refine ⟨o, cap, hv, hm, fun j u hj => ?_, hr⟩
  obtain ⟨g, off, e, hg, hx⟩ := hc j u hj
  exact ⟨g, off, e, Nat.lt_of_lt_of_le hg k, hx⟩

theorem Reads.of_own {w : World} {base n : Nat} {e : TypeId} {v : Value} {xs : List Value} (h : w.ownsRow base e 1 v n xs) : Reads w.heap.size w v xs := by
  have hn : xs.length = n := by simpa using h.1
  subst hn
  rcases h.2 with ⟨rfl, hn⟩ | ⟨g, cap, cur, rfl, hg, hh, hnc, hcm, hcs, htk⟩
  · have : xs = [] := List.length_eq_zero_iff.1 hn
    subst this
    exact ⟨none, 0, rfl, Nat.zero_le _, fun j u hj => absurd hj (by simp), Nat.le_refl _⟩
  · refine ⟨some ⟨g, 0, none⟩, cap, rfl, Nat.le_trans hnc hcm, fun j u hj => ⟨g, 0, rfl, ?_, ?_⟩, hnc⟩
    · rcases Nat.lt_or_ge g w.heap.size with q | q
      · exact q
      · simp [Array.getElem?_eq_none q] at hh
    · have hj' := (List.getElem?_eq_some_iff.1 hj).1
      rw [Nat.zero_add, h.cellAt j (by omega), hj]

/-- A block of cells that lies open. -/
theorem at_cell {W : World} {b : Nat} {cs : Array Value} {t : TypeId} (h : W.heap[b]? = some (.cells cs t (0, 0))) (i : Nat) : W.cell? ⟨b, i, none⟩ = cs[i]? := by simp [World.cell?, h]

theorem at_open {W : World} {b : Nat} {cs : Array Value} {t : TypeId} (h : W.heap[b]? = some (.cells cs t (0, 0))) (i : Nat) : W.frozen? ⟨b, i, none⟩ = false := by simp [World.frozen?, h]

theorem owns_mono {w : World} {base base' : Nat} {e : TypeId} {size : Nat} {v : Value} {n : Nat} {xs : List Value} (h : w.ownsRow base e size v n xs) (k : base' ≤ base) : w.ownsRow base' e size v n xs := by
  obtain ⟨h1, h2⟩ := h
  refine ⟨h1, ?_⟩
  rcases h2 with h2 | ⟨g, cap, cur, hv, hg, r⟩
  · exact Or.inl h2
  · exact Or.inr ⟨g, cap, cur, hv, by omega, r⟩

/-- Both cells of a block of two are written. -/
theorem set_0 {W : World} {b : Nat} {x0 y0 : Value} {t : TypeId} (h : W.heap[b]? = some (.cells #[x0, y0] t (0, 0))) (x : Value) : (W.setCell ⟨b, 0, none⟩ x).heap[b]? = some (.cells #[x, y0] t (0, 0)) := by
  obtain ⟨hlt, hk⟩ := Array.getElem?_eq_some_iff.1 h
  show (W.heap.modify b _)[b]? = _
  rw [Array.getElem?_eq_getElem (by rw [Array.size_modify]; exact hlt), Array.getElem_modify_self, hk]
  rfl

theorem set_1 {W : World} {b : Nat} {x0 y0 : Value} {t : TypeId} (h : W.heap[b]? = some (.cells #[x0, y0] t (0, 0))) (y : Value) : (W.setCell ⟨b, 1, none⟩ y).heap[b]? = some (.cells #[x0, y] t (0, 0)) := by
  obtain ⟨hlt, hk⟩ := Array.getElem?_eq_some_iff.1 h
  show (W.heap.modify b _)[b]? = _
  rw [Array.getElem?_eq_getElem (by rw [Array.size_modify]; exact hlt), Array.getElem_modify_self, hk]
  rfl

theorem set_two {W : World} {b : Nat} {x0 y0 : Value} {t : TypeId} (h : W.heap[b]? = some (.cells #[x0, y0] t (0, 0))) (x y : Value) :
    ((W.setCell ⟨b, 0, none⟩ x).setCell ⟨b, 1, none⟩ y).heap[b]? = some (.cells #[x, y] t (0, 0)) ∧ Upto b W ((W.setCell ⟨b, 0, none⟩ x).setCell ⟨b, 1, none⟩ y) :=
  ⟨set_1 (set_0 h x) y, ((Upto.refl b W).setCell _ (.inl rfl) _).setCell _ (.inl rfl) _⟩

/-- What lies below stays so behind a block that is laid, a cell of a new block that is written, a callee that writes nothing old. -/
theorem bw_alloc {w W : World} {o : Obj} (h : Below w.heap.size w W) : Below w.heap.size w (W.alloc o) := h.alloc h.size o

theorem bw_drew {w W : World} (h : Below w.heap.size w W) : Below w.heap.size w W.drew := ⟨h.os, h.tape, h.output, h.size, h.block⟩

theorem bw_call {w W W' : World} (h : Below w.heap.size w W) (b : Below W.heap.size W W') : Below w.heap.size w W' := h.trans (b.mono h.size)
end Go.Proofs.Ytpmoefagpglddaa

namespace Go.Proofs.Ytpmoefagpglddaa
open Go.RowKit

set_option linter.unusedVariables false

set_option maxRecDepth 100000

theorem cells_add {w : World} {g off : Nat} {xs : List Value} (h : ∀ j u, xs[j]? = some u → w.cell? ⟨g, off + j, none⟩ = some u) : ∀ j u, xs[j]? = some u → w.cell? ((⟨g, off, none⟩ : Addr).add j) = some u := fun j u hj => by
  have e : (⟨g, off, none⟩ : Addr).add j = ⟨g, off + j, none⟩ := by unfold Addr.add; split <;> simp_all
  rw [e]; exact h j u hj

/-- Appending what is read, of whatever address, to a row of one's own. -/
theorem run_append_reads {P : Program} (w : World) (base : Nat) (t ty e : TypeId) (i : TypeInfo) (z : Value) (size bytes : Nat) (ht : P.underlying t = some (.slice e)) (hi : P.info? e = some i) (hz : i.zero = some z)
    (hsize : i.size = size) (hby : i.bytes = bytes) (hzs : z.cells.size = size) (hsz : 0 < size)
    (v : Value) (n : Nat) (xs : List Value) (hown : w.ownsRow base e size v n xs)
    (o : Option Addr) (m c : Nat) (news : List Value) (hl : news.length = m * size) (hnews : ∀ j u, news[j]? = some u → ∃ g off, o = some ⟨g, off, none⟩ ∧ w.cell? ⟨g, off + j, none⟩ = some u) (h1 : ∀ u ∈ news, u.oneCell' = true)
    (h63 : n + m ≤ maxLen) (hbytes : (n + m) * bytes ≤ 140737488355328) (hbase : base ≤ w.heap.size) :
    ∃ v' w', (Builtin.append_ #[t, t] ty #[v, .slice o m c]).run P w = .ok v' w' ∧ w'.ownsRow base e size v' (n + m) (xs ++ news) ∧ w.grownBy w' v.ownBlock ∧
      (v' = .slice none 0 0 ↔ v = .slice none 0 0 ∧ m = 0) := by
  cases o with
  | none =>
    have hn : news = [] := by
      cases news with
      | nil => rfl
      | cons a l => obtain ⟨_, _, h, _⟩ := hnews 0 a rfl; cases h
    subst hn
    have hm : m = 0 := by
      rcases Nat.eq_zero_or_pos m with h | h
      · exact h
      · have := Nat.mul_pos h hsz; simp at hl; omega
    subst hm
    refine ⟨v, w, ?_, by simpa using hown, ⟨rfl, rfl, rfl, Nat.le_refl _, fun _ _ _ => rfl⟩, by simp⟩
    rcases hown.2 with ⟨rfl, rfl⟩ | ⟨g, cap, cur, rfl, _, _, hnc, _⟩
    · simp [Builtin.append_, run_underlying ht, sizeOf, typeInfo, hi, Builtin.lenOf, Builtin.firstCells]
    · simp [Builtin.append_, run_underlying ht, sizeOf, typeInfo, hi, Builtin.lenOf, Builtin.firstCells, hnc, storeCells]
  | some ad =>
    refine run_append_own (P := P) w base t ty e i z size bytes ht hi hz hsize hby hzs hsz v n xs hown ad m c news hl (fun j u hj => ?_) h1 h63 hbytes hbase
    obtain ⟨g, off, hg, hc⟩ := hnews j u hj
    cases hg
    have ea : (⟨g, off, none⟩ : Addr).add j = ⟨g, off + j, none⟩ := by unfold Addr.add; split <;> simp_all
    rw [ea]; exact hc

theorem wp_append_reads {P : Program} {w : World} {o : Oper} {a : Act} {K : Act → World → Prop} {Q : Exit → Act → World → Prop} (s x : Operand) (t : TypeId)
    (ho : o.op = .call { callee := .builtin .append, args := #[s, x], argTypes := #[t, t] })
    (base : Nat) (e : TypeId) (i : TypeInfo) (z : Value) (size bytes : Nat) (ht : P.underlying t = some (.slice e)) (hi : P.info? e = some i) (hz : i.zero = some z)
    (hsize : i.size = size) (hby : i.bytes = bytes) (hzs : z.cells.size = size) (hsz : 0 < size)
    (v : Value) (n : Nat) (xs : List Value) (hs : a.eval s = v) (hown : w.ownsRow base e size v n xs)
    (ad : Option Addr) (m c : Nat) (news : List Value) (hx : a.eval x = .slice ad m c) (hl : news.length = m * size) (hnews : ∀ j u, news[j]? = some u → ∃ g off, ad = some ⟨g, off, none⟩ ∧ w.cell? ⟨g, off + j, none⟩ = some u) (h1 : ∀ u ∈ news, u.oneCell' = true)
    (h63 : n + m ≤ maxLen) (hbytes : (n + m) * bytes ≤ 140737488355328) (hbase : base ≤ w.heap.size)
    (h : ∀ v' w', w'.ownsRow base e size v' (n + m) (xs ++ news) → w.grownBy w' v.ownBlock → (v' = .slice none 0 0 ↔ v = .slice none 0 0 ∧ m = 0) → K (a.put o.dst v') w') : o.wp P a w K Q := by
  obtain ⟨v', w', hr, h2, h3, h4⟩ := run_append_reads (P := P) w base t o.type e i z size bytes ht hi hz hsize hby hzs hsz v n xs hown ad m c news hl hnews h1 h63 hbytes hbase
  unfold Oper.wp execOp
  simp only [ho, resolve, invoke, builtin, Sem.run_bind, Sem.run_pure, Result.andThen_ok, List.map_toArray, List.map_cons, List.map_nil, hs, hx, hr]
  exact h v' w' h2 h3 h4

theorem wpList_append_reads {P : Program} {w : World} {ops : Array Oper} {rest : List Oper} {o : Oper} {a : Act} {Q : Exit → Act → World → Prop} (hgd : o.guard = none) (s x : Operand) (t : TypeId)
    (ho : o.op = .call { callee := .builtin .append, args := #[s, x], argTypes := #[t, t] })
    (base : Nat) (e : TypeId) (i : TypeInfo) (z : Value) (size bytes : Nat) (ht : P.underlying t = some (.slice e)) (hi : P.info? e = some i) (hz : i.zero = some z)
    (hsize : i.size = size) (hby : i.bytes = bytes) (hzs : z.cells.size = size) (hsz : 0 < size)
    (v : Value) (n : Nat) (xs : List Value) (hs : a.eval s = v) (hown : w.ownsRow base e size v n xs)
    (ad : Option Addr) (m c : Nat) (news : List Value) (hx : a.eval x = .slice ad m c) (hl : news.length = m * size) (hnews : ∀ j u, news[j]? = some u → ∃ g off, ad = some ⟨g, off, none⟩ ∧ w.cell? ⟨g, off + j, none⟩ = some u) (h1 : ∀ u ∈ news, u.oneCell' = true)
    (h63 : n + m ≤ maxLen) (hbytes : (n + m) * bytes ≤ 140737488355328) (hbase : base ≤ w.heap.size)
    (h : ∀ v' w', w'.ownsRow base e size v' (n + m) (xs ++ news) → w.grownBy w' v.ownBlock → (v' = .slice none 0 0 ↔ v = .slice none 0 0 ∧ m = 0) → wpList P ops Q rest (a.put o.dst v') w') : wpList P ops Q (o :: rest) a w :=
  wpList_plain hgd fun _ hK => wp_append_reads s x t ho base e i z size bytes ht hi hz hsize hby hzs hsz v n xs hs hown ad m c news hx hl hnews h1 h63 hbytes hbase fun v' w' h2 h3 h4 => hK _ _ (h v' w' h2 h3 h4)

theorem Reads.grown {B : Nat} {w w' : World} {row : Option Nat} {v : Value} {xs : List Value} (h : Reads B w v xs) (hg : w.grownBy w' row) (hB : B ≤ w.heap.size) (hr : ∀ k, row = some k → B ≤ k) : Reads B w' v xs :=
  h.below ((Below.refl B w).grown hg hB hr)

theorem Reads.len {B : Nat} {w : World} {v : Value} {xs : List Value} (h : Reads B w v xs) : xs.length ≤ maxLen := by
  obtain ⟨_, _, _, h, _⟩ := h; exact h

theorem Reads.none (B : Nat) (w : World) : Reads B w (.slice none 0 0) [] := ⟨Option.none, 0, rfl, Nat.zero_le _, fun j u hj => by simp at hj, Nat.le_refl _⟩

theorem owns_nil (w : World) (base : Nat) (e : TypeId) (size : Nat) : w.ownsRow base e size (.slice none 0 0) 0 [] := World.ownsRow_nil w base e size

/-- All blocks that were there are as they were, but for those of S. -/
structure Only (S : Nat → Prop) (w w' : World) : Prop where
  os : w'.os = w.os
  tape : w'.tape = w.tape
  output : w'.output = w.output
  size : w.heap.size ≤ w'.heap.size
  block : ∀ k, k < w.heap.size → ¬ S k → w'.heap[k]? = w.heap[k]?

theorem Only.refl (S : Nat → Prop) (w : World) : Only S w w := ⟨rfl, rfl, rfl, Nat.le_refl _, fun _ _ _ => rfl⟩

theorem Only.trans {S : Nat → Prop} {a b d : World} (h : Only S a b) (k : Only S b d) : Only S a d :=
  ⟨k.os.trans h.os, k.tape.trans h.tape, k.output.trans h.output, Nat.le_trans h.size k.size, fun i hi hc => (k.block i (Nat.lt_of_lt_of_le hi h.size) hc).trans (h.block i hi hc)⟩

theorem Only.below {S : Nat → Prop} {a w w' : World} (h : Only S a w) (k : Below w.heap.size w w') : Only S a w' :=
  ⟨k.os.trans h.os, k.tape.trans h.tape, k.output.trans h.output, Nat.le_trans h.size k.size, fun i hi hc => (k.block i (Nat.lt_of_lt_of_le hi h.size)).trans (h.block i hi hc)⟩

theorem Only.setCell {S : Nat → Prop} {a w : World} (h : Only S a w) (p : Addr) (hp : S p.block) (u : Value) : Only S a (w.setCell p u) :=
  ⟨h.os, h.tape, h.output, by simpa [World.setCell] using h.size, fun i hi hc => (Below.heap_setCell w p u i (fun e => hc (by rw [e]; exact hp))).trans (h.block i hi hc)⟩

theorem Only.toBelow {S : Nat → Prop} {B : Nat} {w w' : World} (h : Only S w w') (hB : B ≤ w.heap.size) (hS : ∀ k, S k → B ≤ k) : Below B w w' :=
  ⟨h.os, h.tape, h.output, h.size, fun k hk => h.block k (by omega) (fun hs => by have := hS k hs; omega)⟩

theorem Only.mono {S S' : Nat → Prop} {w w' : World} (h : Only S w w') (hS : ∀ k, S k → S' k) : Only S' w w' := ⟨h.os, h.tape, h.output, h.size, fun k hk hn => h.block k hk (fun hs => hn (hS k hs))⟩

theorem own_slice {w : World} {base : Nat} {e : TypeId} {size : Nat} {v : Value} {n : Nat} {xs : List Value} (h : w.ownsRow base e size v n xs) : ∃ o cap, v = .slice o n cap := by
  rcases h.2 with ⟨rfl, rfl⟩ | ⟨g, cap, cur, rfl, _⟩
  · exact ⟨_, _, rfl⟩
  · exact ⟨_, _, rfl⟩

theorem heap_lt {w : World} {b : Nat} {o : Obj} (h : w.heap[b]? = some o) : b < w.heap.size := (Array.getElem?_eq_some_iff.1 h).1

/-- A row's block and a box of another type are two. -/
theorem own_not_box {w : World} {base : Nat} {e : TypeId} {size : Nat} {v : Value} {n : Nat} {xs : List Value} {b : Nat} {cs : Array Value} {t : TypeId} (h : w.ownsRow base e size v n xs) (k : w.heap[b]? = some (.cells cs t (0, 0))) (ht : t ≠ e) : v.ownBlock ≠ some b := by
  intro hv
  rcases h.2 with ⟨rfl, _⟩ | ⟨g, cap, cur, rfl, hg, hh, r⟩
  · cases hv
  · simp [Value.ownBlock] at hv
    subst hv
    rw [k] at hh
    simp at hh
    exact ht hh.2

/-- All blocks that were there are as they were, but for those from lo up to hi. -/
structure Rng (lo hi : Nat) (w w' : World) : Prop where
  os : w'.os = w.os
  tape : w'.tape = w.tape
  output : w'.output = w.output
  size : w.heap.size ≤ w'.heap.size
  block : ∀ k, k < w.heap.size → (k < lo ∨ hi ≤ k) → w'.heap[k]? = w.heap[k]?

theorem Rng.refl (lo hi : Nat) (w : World) : Rng lo hi w w := ⟨rfl, rfl, rfl, Nat.le_refl _, fun _ _ _ => rfl⟩

theorem Rng.trans {lo hi : Nat} {a b d : World} (h : Rng lo hi a b) (k : Rng lo hi b d) : Rng lo hi a d :=
  ⟨k.os.trans h.os, k.tape.trans h.tape, k.output.trans h.output, Nat.le_trans h.size k.size, fun i hi hc => (k.block i (Nat.lt_of_lt_of_le hi h.size) hc).trans (h.block i hi hc)⟩

theorem Rng.ofBelow {lo hi : Nat} {w w' : World} (k : Below w.heap.size w w') : Rng lo hi w w' := ⟨k.os, k.tape, k.output, k.size, fun i hi _ => k.block i hi⟩

theorem Rng.toBelow {lo hi B : Nat} {w w' : World} (h : Rng lo hi w w') (hB : B ≤ w.heap.size) (hl : B ≤ lo) : Below B w w' :=
  ⟨h.os, h.tape, h.output, h.size, fun k hk => h.block k (by omega) (.inl (by omega))⟩

/-- A row of one's own stays where a range is written of which its block is none. -/
theorem own_rng_not {w w' : World} {base : Nat} {e : TypeId} {size : Nat} {v : Value} {n : Nat} {xs : List Value} (h : w.ownsRow base e size v n xs) (k : ∀ g, g < w.heap.size → v.ownBlock = some g → w'.heap[g]? = w.heap[g]?) : w'.ownsRow base e size v n xs := by
  obtain ⟨h1, h2⟩ := h
  refine ⟨h1, ?_⟩
  rcases h2 with h2 | ⟨g, cap, cur, rfl, hg, hh, r⟩
  · exact Or.inl h2
  · exact Or.inr ⟨g, cap, cur, rfl, hg, by rw [k g (heap_lt hh) rfl]; exact hh, r⟩

/-- Boxes laid one behind the other. -/
theorem box1 (w : World) (a : Array Value) (T : TypeId) : ∃ W0, W0 = w.alloc (.cells a T) ∧ W0.heap[w.heap.size]? = some (.cells a T (0, 0)) ∧ Below w.heap.size w W0 ∧ W0.heap.size = w.heap.size + 1 :=
  ⟨_, rfl, heap_alloc_new w _, bw_alloc (Below.refl _ _), by simp⟩

theorem box2 (w : World) (a b : Array Value) (T U : TypeId) : ∃ W0, W0 = (w.alloc (.cells a T)).alloc (.cells b U) ∧ W0.heap[w.heap.size]? = some (.cells a T (0, 0)) ∧ W0.heap[w.heap.size + 1]? = some (.cells b U (0, 0)) ∧ Below w.heap.size w W0 ∧ W0.heap.size = w.heap.size + 1 + 1 := by
  obtain ⟨W1, h1, k1, d1, s1⟩ := box1 w a T
  have k2 := heap_alloc_new W1 (.cells b U)
  rw [s1] at k2
  rw [← h1]
  exact ⟨_, rfl, (Below.heap_alloc _ _ _ (by omega)).trans k1, k2, bw_alloc d1, by simp [s1]⟩

theorem box3 (w : World) (a b c : Array Value) (T U V : TypeId) : ∃ W0, W0 = ((w.alloc (.cells a T)).alloc (.cells b U)).alloc (.cells c V) ∧ W0.heap[w.heap.size]? = some (.cells a T (0, 0)) ∧ W0.heap[w.heap.size + 1]? = some (.cells b U (0, 0)) ∧ W0.heap[w.heap.size + 1 + 1]? = some (.cells c V (0, 0)) ∧ Below w.heap.size w W0 ∧ W0.heap.size = w.heap.size + 1 + 1 + 1 := by
  obtain ⟨W1, h1, k1, k1', d1, s1⟩ := box2 w a b T U
  have k2 := heap_alloc_new W1 (.cells c V)
  rw [s1] at k2
  rw [← h1]
  exact ⟨_, rfl, (Below.heap_alloc _ _ _ (by omega)).trans k1, (Below.heap_alloc _ _ _ (by omega)).trans k1', k2, bw_alloc d1, by simp [s1]⟩
end Go.Proofs.Ytpmoefagpglddaa

namespace Go.Proofs.Ytpmoefagpglddaa
open Go.RowKit

set_option linter.unusedVariables false

set_option maxRecDepth 100000


/-- A slice that is read, each element by its k cells. -/
def ReadsR {α : Type} (k : Nat) (cs : α → List Value) (B : Nat) (w : World) (v : Value) (xs : List α) : Prop :=
  ∃ o cap, v = .slice o xs.length cap ∧ xs.length ≤ maxLen ∧ (∀ i x, xs[i]? = some x → ∃ g off, o = some ⟨g, off, none⟩ ∧ g < B ∧ ∀ j u, (cs x)[j]? = some u → w.cell? ⟨g, off + i * k + j, none⟩ = some u) ∧ xs.length ≤ cap

theorem ReadsR.below {α : Type} {k : Nat} {cs : α → List Value} {B : Nat} {w w' : World} {v : Value} {xs : List α} (h : ReadsR k cs B w v xs) (b : Below B w w') : ReadsR k cs B w' v xs := by
  obtain ⟨o, cap, hv, hm, hc, hr⟩ := h
  refine ⟨o, cap, hv, hm, fun i x hi => ?_, hr⟩
  obtain ⟨g, off, e, hg, hx⟩ := hc i x hi
  exact ⟨g, off, e, hg, fun j u hj => (b.cell (p := ⟨g, off + i * k + j, none⟩) hg).trans (hx j u hj)⟩

theorem ReadsR.mono {α : Type} {k : Nat} {cs : α → List Value} {B B' : Nat} {w : World} {v : Value} {xs : List α} (h : ReadsR k cs B w v xs) (b : B ≤ B') : ReadsR k cs B' w v xs := by
  obtain ⟨o, cap, hv, hm, hc, hr⟩ := h
  refine ⟨o, cap, hv, hm, fun i x hi => ?_, hr⟩
  obtain ⟨g, off, e, hg, hx⟩ := hc i x hi
  exact ⟨g, off, e, Nat.lt_of_lt_of_le hg b, hx⟩

theorem ReadsR.upto {α : Type} {k : Nat} {cs : α → List Value} {B c : Nat} {w w' : World} {v : Value} {xs : List α} (h : ReadsR k cs B w v xs) (u : Upto c w w') (hB : B ≤ w.heap.size) (hc : v.ownBlock ≠ some c) : ReadsR k cs B w' v xs := by
  obtain ⟨o, cap, rfl, hm, hc', hr⟩ := h
  refine ⟨o, cap, rfl, hm, fun i x hi => ?_, hr⟩
  obtain ⟨g, off, rfl, hg, hx⟩ := hc' i x hi
  exact ⟨g, off, rfl, hg, fun j u' hj => (u.cell (p := ⟨g, off + i * k + j, Option.none⟩) (Nat.lt_of_lt_of_le hg hB) (fun e => hc (by simp only at e; rw [e]; rfl))).trans (hx j u' hj)⟩

theorem ReadsR.nil {α : Type} (k : Nat) (cs : α → List Value) (B : Nat) (w : World) : ReadsR k cs B w (.slice none 0 0) [] := ⟨Option.none, 0, rfl, Nat.zero_le _, fun j u hj => by simp at hj, Nat.le_refl _⟩

theorem ReadsR.of {α : Type} {k : Nat} {cs : α → List Value} {B : Nat} {W : World} {v : Value} {xs : List α} (h : ReadsR k cs B W v xs) (y : B ≤ W.heap.size) (p : BelowOf W) : ReadsR k cs p.w'.heap.size p.w' v xs := ((h.mono y).below p.h).mono p.h.size

theorem flat_length {α : Type} {k : Nat} {cs : α → List Value} (hk : ∀ x, (cs x).length = k) (xs : List α) : (xs.flatMap cs).length = xs.length * k := by
  induction xs with
  | nil => simp
  | cons x xs ih => rw [List.flatMap_cons, List.length_append, hk, ih, List.length_cons, Nat.add_mul, Nat.one_mul, Nat.add_comm]

theorem flat_get {α : Type} {k : Nat} {cs : α → List Value} (hk : ∀ x, (cs x).length = k) (xs : List α) (i j : Nat) (x : α) (hi : xs[i]? = some x) (hj : j < k) : (xs.flatMap cs)[i * k + j]? = (cs x)[j]? := by
  induction xs generalizing i with
  | nil => simp at hi
  | cons y ys ih =>
    rw [List.flatMap_cons]
    match i, hi with
    | 0, hi =>
      simp at hi
      subst hi
      rw [Nat.zero_mul, Nat.zero_add, List.getElem?_append_left (by rw [hk]; exact hj)]
    | i + 1, hi =>
      rw [List.getElem?_append_right (by rw [hk, Nat.add_mul]; omega), hk, Nat.add_mul, Nat.one_mul, show i * k + k + j - k = i * k + j by omega]
      exact ih i (by simpa using hi)

theorem flat_set {α : Type} {k : Nat} {cs : α → List Value} (hk : ∀ x, (cs x).length = k) (xs : List α) (i j : Nat) (x y : α) (u : Value) (hi : xs[i]? = some x) (hj : j < k) (hy : (cs x).set j u = cs y) : (xs.flatMap cs).set (i * k + j) u = (xs.set i y).flatMap cs := by
  induction xs generalizing i with
  | nil => simp at hi
  | cons z zs ih =>
    rw [List.flatMap_cons]
    match i, hi with
    | 0, hi =>
      simp at hi
      subst hi
      rw [Nat.zero_mul, Nat.zero_add, List.set_append_left _ _ (by rw [hk]; exact hj), hy, List.set_cons_zero, List.flatMap_cons]
    | i + 1, hi =>
      rw [List.set_append_right _ _ (by rw [hk, Nat.add_mul]; omega), hk, Nat.add_mul, Nat.one_mul, show i * k + k + j - k = i * k + j by omega, ih i (by simpa using hi), List.set_cons_succ, List.flatMap_cons]

theorem ReadsR.of_own {α : Type} {k : Nat} {cs : α → List Value} (hk : ∀ x, (cs x).length = k) {w : World} {base : Nat} {e : TypeId} {v : Value} {xs : List α} (h : w.ownsRow base e k v xs.length (xs.flatMap cs)) : ReadsR k cs w.heap.size w v xs := by
  rcases h.2 with ⟨rfl, hn⟩ | ⟨g, cap, cur, rfl, hg, hh, hnc, hcm, hcs, htk⟩
  · have : xs = [] := List.length_eq_zero_iff.1 hn
    subst this
    exact ReadsR.nil _ _ _ _
  · refine ⟨some ⟨g, 0, none⟩, cap, rfl, Nat.le_trans hnc hcm, fun i x hi => ⟨g, 0, rfl, heap_lt hh, fun j u hj => ?_⟩, hnc⟩
    have hi' := (List.getElem?_eq_some_iff.1 hi).1
    have hj' : j < k := by have := (List.getElem?_eq_some_iff.1 hj).1; rw [hk] at this; exact this
    have hlt : i * k + j < xs.length * k := by
      have h1 : (i + 1) * k ≤ xs.length * k := Nat.mul_le_mul_right _ hi'
      rw [Nat.add_mul, Nat.one_mul] at h1
      omega
    rw [Nat.zero_add, h.cellAt (i * k + j) hlt, flat_get hk xs i j x hi hj', hj]

/-- One element's cell is written. -/
theorem own_put {α : Type} {k : Nat} {cs : α → List Value} (hk : ∀ x, (cs x).length = k) {w : World} {base g n cap : Nat} {e : TypeId} {xs : List α} (h : w.ownsRow base e k (.slice (some ⟨g, 0, none⟩) n cap) xs.length (xs.flatMap cs)) (i j : Nat) (x y : α) (u : Value) (hi : xs[i]? = some x) (hj : j < k) (hy : (cs x).set j u = cs y) :
    (w.setCell ⟨g, i * k + j, none⟩ u).ownsRow base e k (.slice (some ⟨g, 0, none⟩) n cap) (xs.set i y).length ((xs.set i y).flatMap cs) := by
  have hn : n = xs.length := by
    rcases h.2 with ⟨h', _⟩ | ⟨g', cap', cur, h', _⟩
    · cases h'
    · simp only [Value.slice.injEq] at h'
      exact h'.2.1
  subst hn
  have := (h.stored (i * k + j) u).1
  rw [flat_set hk xs i j x y u hi hj hy] at this
  rwa [List.length_set]

theorem own_cell {α : Type} {k : Nat} {cs : α → List Value} (hk : ∀ x, (cs x).length = k) {w : World} {base g n cap : Nat} {e : TypeId} {xs : List α} (h : w.ownsRow base e k (.slice (some ⟨g, 0, none⟩) n cap) xs.length (xs.flatMap cs)) (i j : Nat) (x : α) (hi : xs[i]? = some x) (hj : j < k) :
    w.cell? ⟨g, i * k + j, none⟩ = (cs x)[j]? ∧ w.frozen? ⟨g, i * k + j, none⟩ = false := by
  have hn : n = xs.length := by
    rcases h.2 with ⟨h', _⟩ | ⟨g', cap', cur, h', _⟩
    · cases h'
    · simp only [Value.slice.injEq] at h'
      exact h'.2.1
  subst hn
  have hi' := (List.getElem?_eq_some_iff.1 hi).1
  have h1 : (i + 1) * k ≤ xs.length * k := Nat.mul_le_mul_right _ hi'
  rw [Nat.add_mul, Nat.one_mul] at h1
  exact ⟨(h.cellAt (i * k + j) (by omega)).trans (flat_get hk xs i j x hi hj), h.frozenAt _⟩

/-- make([]T, n): n times the same cells. -/
theorem toList_made {α : Type} {k : Nat} {cs : α → List Value} (hk : ∀ x, (cs x).length = k) (hpos : 0 < k) (x : α) (z : Array Value) (hz : z.toList = cs x) (n : Nat) : (madeCells z (n * k)).toList = (List.replicate n x).flatMap cs := by
  have hs : z.size = k := by rw [← Array.length_toList, hz, hk]
  apply List.ext_getElem?
  intro j
  by_cases hj : j < n * k
  · have hd : j / k < n := Nat.div_lt_of_lt_mul (by rw [Nat.mul_comm]; exact hj)
    have hr : j % k < k := Nat.mod_lt _ hpos
    have he : j / k * k + j % k = j := by rw [Nat.mul_comm]; exact Nat.div_add_mod j k
    have h1 := flat_get hk (List.replicate n x) (j / k) (j % k) x (by simp [hd]) hr
    rw [he] at h1
    rw [h1, ← hz]
    have hr2 : j % k < z.size := by omega
    rw [Array.getElem?_toList, Array.getElem?_toList, Array.getElem?_eq_getElem hr2, madeCells, Array.getElem?_map, Array.getElem?_range, if_pos hj]
    simp [hs, getElem!_pos z (j % k) hr2]
  · have h2 := flat_length hk (List.replicate n x)
    rw [List.length_replicate] at h2
    rw [List.getElem?_eq_none (by rw [Array.length_toList, size_madeCells]; omega), List.getElem?_eq_none (by omega)]
end Go.Proofs.Ytpmoefagpglddaa

namespace Go.Proofs.Ytpmoefagpglddaa
open Go.RowKit

set_option linter.unusedVariables false

set_option maxRecDepth 100000


theorem ret_bool {a b : Bool} (h : a = b) : Ending.returned (.bool a) = .returned (.bool b) := by rw [h]

theorem ret_int {k : IntKind} {a b : Int} (h : a = b) : Ending.returned (.int k a) = .returned (.int k b) := by rw [h]

theorem l1In_any (x lo hi : Int) (w : World) :
    Calls Try.prog 39 #[.int .i64 x, .int .i64 lo, .int .i64 hi] w fun e w' => e = .returned (.bool (decide (lo ≤ x) && decide (x ≤ hi))) ∧ w' = w := by
  by_cases h : lo ≤ x
  · by_cases h2 : x ≤ hi
    all_goals
      go_enter Try.func39, Try.ntmps39
      go_wp2
      go_ret
      exact ⟨by simp [h, h2], rfl⟩
  · go_enter Try.func39, Try.ntmps39
    go_wp2
    go_ret
    exact ⟨ret_bool (by simp; omega), rfl⟩
end Go.Proofs.Ytpmoefagpglddaa

