/-
  Contracts and plain laws, one chapter behind the other.
-/
import Derived.WalkKit
import Derived.Below
import Derived.Laws.AppendOwn
import Derived.Deep.QuietTactic
import Derived.BigQuiet
import Derived.Test.YtghhphhnalfjaaaChecked
import Derived.Laws.OwnMore
import Derived.OwnWalk
import Derived.Laws.Bits128
import Derived.IntWalk
import Derived.WalkSpells
import Derived.Handy
import Derived.ProofKit
import Derived.OpenShut
import Derived.ShutString
import Derived.Lib.SmallJoins
import Derived.SliceStrings
import Derived.ChangeSlices
import Derived.Laws.IdiomStrings
namespace Go.Proofs.Ytghhphhnalfjaaa
open Go.RowKit


structure Upto (c : Nat) (w w' : World) : Prop where
  os : w'.os = w.os
  tape : w'.tape = w.tape
  output : w'.output = w.output
  size : w.heap.size ≤ w'.heap.size
  block : ∀ k, k < w.heap.size → k ≠ c → w'.heap[k]? = w.heap[k]?

theorem Upto.refl (c : Nat) (w : World) : Upto c w w := ⟨rfl, rfl, rfl, Nat.le_refl _, fun _ _ _ => rfl⟩

theorem Upto.trans {c : Nat} {a b d : World} (h : Upto c a b) (k : Upto c b d) : Upto c a d :=
  ⟨k.os.trans h.os, k.tape.trans h.tape, k.output.trans h.output, Nat.le_trans h.size k.size, fun i hi hc => (k.block i (Nat.lt_of_lt_of_le hi h.size) hc).trans (h.block i hi hc)⟩

theorem Upto.drew {c : Nat} {a w : World} (h : Upto c a w) : Upto c a w.drew := ⟨h.os, h.tape, h.output, h.size, h.block⟩

theorem Upto.below {c : Nat} {a w w' : World} (h : Upto c a w) (k : Below w.heap.size w w') : Upto c a w' :=
  ⟨k.os.trans h.os, k.tape.trans h.tape, k.output.trans h.output, Nat.le_trans h.size k.size, fun i hi hc => (k.block i (Nat.lt_of_lt_of_le hi h.size)).trans (h.block i hi hc)⟩

theorem Upto.alloc {c : Nat} {a w : World} (h : Upto c a w) (o : Obj) : Upto c a (w.alloc o) := h.below ((Below.refl _ _).alloc (Nat.le_refl _) o)

theorem Upto.setCell {c : Nat} {a w : World} (h : Upto c a w) (p : Addr) (hp : p.block = c ∨ a.heap.size ≤ p.block) (u : Value) : Upto c a (w.setCell p u) :=
  ⟨h.os, h.tape, h.output, by simpa [World.setCell] using h.size, fun i hi hc => (Below.heap_setCell w p u i (by rcases hp with e | e <;> omega)).trans (h.block i hi hc)⟩

theorem Upto.toBelow {c B : Nat} {w w' : World} (h : Upto c w w') (hB : B ≤ w.heap.size) (hc : B ≤ c) : Below B w w' :=
  ⟨h.os, h.tape, h.output, h.size, fun k hk => h.block k (by omega) (by omega)⟩

theorem Upto.cell {c : Nat} {w w' : World} (h : Upto c w w') {p : Addr} (hp : p.block < w.heap.size) (hc : p.block ≠ c) : w'.cell? p = w.cell? p := World.cell?_of_block (w := w) (h.block p.block hp hc)

theorem Upto.frozen {c : Nat} {w w' : World} (h : Upto c w w') {p : Addr} (hp : p.block < w.heap.size) (hc : p.block ≠ c) : w'.frozen? p = w.frozen? p := World.frozen?_of_block (w := w) (h.block p.block hp hc)

theorem Upto.grown {c : Nat} {a w w' : World} {row : Option Nat} (h : Upto c a w) (hg : w.grownBy w' row) (hr : ∀ k, row = some k → a.heap.size ≤ k ∨ k = c) : Upto c a w' := by
  have hb : Below 0 w w' := (Below.refl 0 w).grown hg (Nat.zero_le _) (fun _ _ => Nat.zero_le _)
  exact ⟨hb.os.trans h.os, hb.tape.trans h.tape, hb.output.trans h.output, Nat.le_trans h.size hb.size, fun i hi hc => by
    refine (hg.block i (Nat.lt_of_lt_of_le hi h.size) ?_).trans (h.block i hi hc)
    intro e
    rcases hr i e.symm with e' | e' <;> omega⟩

theorem ownsRow_upto {w w' : World} {c base : Nat} {e : TypeId} {size : Nat} {v : Value} {n : Nat} {xs : List Value} (h : w.ownsRow base e size v n xs) (u : Upto c w w') (hb : c < base) : w'.ownsRow base e size v n xs := by
  obtain ⟨h1, h2⟩ := h
  refine ⟨h1, ?_⟩
  rcases h2 with h2 | ⟨g, cap, cur, hv, hg, hh, r⟩
  · exact Or.inl h2
  · have hlt : g < w.heap.size := by
      rcases Nat.lt_or_ge g w.heap.size with q | q
      · exact q
      · simp [Array.getElem?_eq_none q] at hh
    exact Or.inr ⟨g, cap, cur, hv, hg, by rw [u.block g hlt (by omega)]; exact hh, r⟩

/-- The worlds in which nothing that was there in w has turned: as a type, so that facts on cells are plain rules. -/
structure BelowOf (w : World) where
  w' : World
  h : Below w.heap.size w w'

theorem BelowOf.any (w : World) : Nonempty (BelowOf w) := ⟨⟨w, Below.refl _ _⟩⟩

theorem BelowOf.cell {w : World} {a : Addr} {v : Value} (h : w.cell? a = some v) (ha : a.block < w.heap.size) : ∀ p : BelowOf w, p.w'.cell? a = some v := fun p => (p.h.cell ha).trans h

theorem wp_region_of {P : Program} {id : Nat} {Q : Exit → Act → World → Prop} {a : Act} {w : World} {l : List Oper} (hm : P.follows .mixedOrders = true) (hB : Region.lexB .any l.toArray = true)
    (h : wpQuiet P l.toArray (fun w' => ∃ p : BelowOf w, w' = p.w') (fun a' => ∀ w', (∃ p : BelowOf w, w' = p.w') → Q .normal a' w') l a) : (Code.region id l.toArray true).wp P Q a w :=
  wp_region_quiet (C := fun w' => ∃ p : BelowOf w, w' = p.w') hm hB ⟨⟨{ w with drawn := w.drawn + 1 }, ⟨rfl, rfl, rfl, Nat.le_refl _, fun _ _ => rfl⟩⟩, rfl⟩ (by simpa using h)

theorem calls_of {P : Program} {f : FuncId} {args : Array Value} {w : World} {v : Value} {p : BelowOf w}
    (h : Calls P f args p.w' fun e w' => e = .returned v ∧ Below p.w'.heap.size p.w' w') : Calls P f args p.w' fun e w'' => e = .returned v ∧ ∃ q : BelowOf w, w'' = q.w' :=
  h.mono fun _ w'' ⟨he, hk⟩ => ⟨he, ⟨w'', p.h.trans (hk.mono p.h.size)⟩, rfl⟩

structure Cur (w : World) (c : Nat) (x : Option Addr) (len cap : Nat) : Prop where
  lt : c < w.heap.size
  hm : len ≤ maxLen
  b : w.cell? ⟨c, 0, none⟩ = some (.slice x len cap)
  ih : ∃ (i : Nat) (h : Int), i ≤ len ∧ w.cell? ⟨c, 1, none⟩ = some (.int .i64 i) ∧ w.cell? ⟨c, 2, none⟩ = some (.int .i64 h)
  f1 : w.frozen? ⟨c, 1, none⟩ = false
  f2 : w.frozen? ⟨c, 2, none⟩ = false
  src : ∀ j, j < len → ∃ b off z, x = some ⟨b, off, none⟩ ∧ b < c ∧ w.cell? ⟨b, off + j, none⟩ = some (.int .u8 z) ∧ 0 ≤ z ∧ z ≤ 255

/-- A cursor stays one where neither its block nor those below it turn. -/
theorem Cur.same {w w' : World} {c : Nat} {x : Option Addr} {len cap : Nat} (h : Cur w c x len cap) (k : Below (c + 1) w w') : Cur w' c x len cap := by
  obtain ⟨i, q, hi, h1, h2⟩ := h.ih
  have hc : ∀ o, w'.cell? ⟨c, o, none⟩ = w.cell? ⟨c, o, none⟩ := fun o => k.cell (p := ⟨c, o, none⟩) (Nat.lt_succ_self c)
  have hf : ∀ o, w'.frozen? ⟨c, o, none⟩ = w.frozen? ⟨c, o, none⟩ := fun o => k.frozen (p := ⟨c, o, none⟩) (Nat.lt_succ_self c)
  refine ⟨Nat.lt_of_lt_of_le h.lt k.size, h.hm, (hc 0).trans h.b, ⟨i, q, hi, (hc 1).trans h1, (hc 2).trans h2⟩, (hf 1).trans h.f1, (hf 2).trans h.f2, fun j hj => ?_⟩
  obtain ⟨b, off, z, e, hb, hz, h3, h4⟩ := h.src j hj
  exact ⟨b, off, z, e, hb, (k.cell (p := ⟨b, off + j, none⟩) (Nat.lt_succ_of_lt hb)).trans hz, h3, h4⟩

theorem Cur.alloc {w : World} {c : Nat} {x : Option Addr} {len cap : Nat} (h : Cur w c x len cap) (o : Obj) : Cur (w.alloc o) c x len cap :=
  h.same ((Below.refl _ _).alloc h.lt o)

theorem Cur.drew {w : World} {c : Nat} {x : Option Addr} {len cap : Nat} (h : Cur w c x len cap) : Cur w.drew c x len cap :=
  h.same ((Below.refl _ _).drew)

theorem Cur.below {w w' : World} {c : Nat} {x : Option Addr} {len cap : Nat} (h : Cur w c x len cap) (k : Below w.heap.size w w') : Cur w' c x len cap :=
  h.same (k.mono h.lt)

/-- What a step of the cursor leaves: two of its cells at most. -/
theorem Cur.step {w w' : World} {c : Nat} {x : Option Addr} {len cap : Nat} (h : Cur w c x len cap) (k : Upto c w w') (i : Nat) (q : Int) (hi : i ≤ len) (h0 : w'.cell? ⟨c, 0, none⟩ = w.cell? ⟨c, 0, none⟩)
    (h1 : w'.cell? ⟨c, 1, none⟩ = some (.int .i64 i)) (h2 : w'.cell? ⟨c, 2, none⟩ = some (.int .i64 q)) (g1 : w'.frozen? ⟨c, 1, none⟩ = false) (g2 : w'.frozen? ⟨c, 2, none⟩ = false) : Cur w' c x len cap := by
  refine ⟨Nat.lt_of_lt_of_le h.lt k.size, h.hm, h0.trans h.b, ⟨i, q, hi, h1, h2⟩, g1, g2, fun j hj => ?_⟩
  obtain ⟨b, off, z, e, hb, hz, h3, h4⟩ := h.src j hj
  exact ⟨b, off, z, e, hb, (k.cell (p := ⟨b, off + j, none⟩) (Nat.lt_trans hb h.lt) (Nat.ne_of_lt hb)).trans hz, h3, h4⟩
end Go.Proofs.Ytghhphhnalfjaaa

namespace Go.Proofs.Ytghhphhnalfjaaa
open Go.RowKit

set_option linter.unusedVariables false

set_option maxRecDepth 100000

theorem owns_below {w w' : World} {base : Nat} {e : TypeId} {size : Nat} {v : Value} {n : Nat} {xs : List Value} (h : w.ownsRow base e size v n xs) (k : Below w.heap.size w w') : w'.ownsRow base e size v n xs := by
  obtain ⟨h1, h2⟩ := h
  refine ⟨h1, ?_⟩
  rcases h2 with h2 | ⟨g, cap, cur, hv, hg, hh, r⟩
  · exact Or.inl h2
  · have hlt : g < w.heap.size := by
      rcases Nat.lt_or_ge g w.heap.size with q | q
      · exact q
      · simp [Array.getElem?_eq_none q] at hh
    exact Or.inr ⟨g, cap, cur, hv, hg, by rw [k.block g hlt]; exact hh, r⟩

/-- A slice that is read: its length, and each of its cells, which lie below block B. -/
def Reads (B : Nat) (w : World) (v : Value) (xs : List Value) : Prop :=
  ∃ o cap, v = .slice o xs.length cap ∧ xs.length ≤ maxLen ∧ (∀ j u, xs[j]? = some u → ∃ g off, o = some ⟨g, off, none⟩ ∧ g < B ∧ w.cell? ⟨g, off + j, none⟩ = some u) ∧ xs.length ≤ cap

theorem Reads.below {B : Nat} {w w' : World} {v : Value} {xs : List Value} (h : Reads B w v xs) (k : Below B w w') : Reads B w' v xs := by
  obtain ⟨o, cap, hv, hm, hc, hr⟩ := h
  refine ⟨o, cap, hv, hm, fun j u hj => ?_, hr⟩
  obtain ⟨g, off, e, hg, hx⟩ := hc j u hj
  exact ⟨g, off, e, hg, (k.cell (p := ⟨g, off + j, none⟩) hg).trans hx⟩

theorem Reads.mono {B B' : Nat} {w : World} {v : Value} {xs : List Value} (h : Reads B w v xs) (k : B ≤ B') : Reads B' w v xs := by
  obtain ⟨o, cap, hv, hm, hc, hr⟩ := h
  refine ⟨o, cap, hv, hm, fun j u hj => ?_, hr⟩
  obtain ⟨g, off, e, hg, hx⟩ := hc j u hj
  exact ⟨g, off, e, Nat.lt_of_lt_of_le hg k, hx⟩

theorem Reads.of_own {w : World} {base n : Nat} {e : TypeId} {v : Value} {xs : List Value} (h : w.ownsRow base e 1 v n xs) : Reads w.heap.size w v xs := by
  have hn : xs.length = n := by simpa using h.1
  subst hn
  rcases h.2 with ⟨rfl, hn⟩ | ⟨g, cap, cur, rfl, hg, hh, hnc, hcm, hcs, htk⟩
  · have : xs = [] := List.length_eq_zero_iff.1 hn
    subst this
    exact ⟨none, 0, rfl, Nat.zero_le _, fun j u hj => absurd hj (by simp), Nat.le_refl _⟩
  · refine ⟨some ⟨g, 0, none⟩, cap, rfl, Nat.le_trans hnc hcm, fun j u hj => ⟨g, 0, rfl, ?_, ?_⟩, hnc⟩
    · rcases Nat.lt_or_ge g w.heap.size with q | q
      · exact q
      · simp [Array.getElem?_eq_none q] at hh
    · have hj' := (List.getElem?_eq_some_iff.1 hj).1
      rw [Nat.zero_add, h.cellAt j (by omega), hj]

/-- A block of cells that lies open. -/
theorem at_cell {W : World} {b : Nat} {cs : Array Value} {t : TypeId} (h : W.heap[b]? = some (.cells cs t (0, 0))) (i : Nat) : W.cell? ⟨b, i, none⟩ = cs[i]? := by simp [World.cell?, h]

theorem at_open {W : World} {b : Nat} {cs : Array Value} {t : TypeId} (h : W.heap[b]? = some (.cells cs t (0, 0))) (i : Nat) : W.frozen? ⟨b, i, none⟩ = false := by simp [World.frozen?, h]

theorem owns_mono {w : World} {base base' : Nat} {e : TypeId} {size : Nat} {v : Value} {n : Nat} {xs : List Value} (h : w.ownsRow base e size v n xs) (k : base' ≤ base) : w.ownsRow base' e size v n xs := by
  obtain ⟨h1, h2⟩ := h
  refine ⟨h1, ?_⟩
  rcases h2 with h2 | ⟨g, cap, cur, hv, hg, r⟩
  · exact Or.inl h2
  · exact Or.inr ⟨g, cap, cur, hv, by omega, r⟩

/-- What lies below stays so behind a block that is laid, a cell of a new block that is written, a callee that writes nothing old. -/
theorem bw_alloc {w W : World} {o : Obj} (h : Below w.heap.size w W) : Below w.heap.size w (W.alloc o) := h.alloc h.size o

theorem bw_drew {w W : World} (h : Below w.heap.size w W) : Below w.heap.size w W.drew := ⟨h.os, h.tape, h.output, h.size, h.block⟩

theorem bw_set {w W : World} (h : Below w.heap.size w W) {p : Addr} (hp : w.heap.size ≤ p.block) (v : Value) : Below w.heap.size w (W.setCell p v) := h.setCell hp v

theorem bw_call {w W W' : World} (h : Below w.heap.size w W) (b : Below W.heap.size W W') : Below w.heap.size w W' := h.trans (b.mono h.size)

theorem addr_add (b j : Nat) : (⟨b, 0, none⟩ : Addr).add j = ⟨b, j, none⟩ := by unfold Addr.add; split <;> simp_all
end Go.Proofs.Ytghhphhnalfjaaa

namespace Go.Proofs.Ytghhphhnalfjaaa
open Go.RowKit

set_option linter.unusedVariables false

set_option maxRecDepth 100000


/-- The bytes of an argument, below block c. -/
def Src (w : World) (c : Nat) (x : Option Addr) (len : Nat) : Prop :=
  len ≤ maxLen ∧ ∀ j, j < len → ∃ b off z, x = some ⟨b, off, none⟩ ∧ b < c ∧ w.cell? ⟨b, off + j, none⟩ = some (.int .u8 z) ∧ 0 ≤ z ∧ z ≤ 255

theorem Src.below {w w' : World} {c : Nat} {x : Option Addr} {len : Nat} (h : Src w c x len) (k : Below c w w') : Src w' c x len :=
  ⟨h.1, fun j hj => by obtain ⟨b, off, z, e, hb, hz, r⟩ := h.2 j hj; exact ⟨b, off, z, e, hb, (k.cell (p := ⟨b, off + j, none⟩) hb).trans hz, r⟩⟩

theorem Src.mono {w : World} {c d : Nat} {x : Option Addr} {len : Nat} (h : Src w c x len) (k : c ≤ d) : Src w d x len :=
  ⟨h.1, fun j hj => by obtain ⟨b, off, z, e, hb, r⟩ := h.2 j hj; exact ⟨b, off, z, e, Nat.lt_of_lt_of_le hb k, r⟩⟩
end Go.Proofs.Ytghhphhnalfjaaa

namespace Go.Proofs.Ytghhphhnalfjaaa
open Go.ChangeShapes Go.WideShapes Go.ChangeAt Go.RowKit Go.Joins

open Go.ChangeMaps (open_string)

set_option linter.unusedVariables false

set_option maxRecDepth 100000


theorem open_i64 {H : Type} {enc : TypeId × Value → H} {W : World} {base : Nat} {v : Value} {d : DataW H} {p : List MemPlace} (hv : Value.okWide Try.prog W .any base 2 v) (h : DataW.Trod enc Try.prog W 0 (fun _ => true) true 2 v d p) :
    ∃ a : Int, v = .int .i64 a ∧ (Lit.int .i64 a).wf = true := by
  obtain ⟨a, rfl, _, _, w⟩ := open_int Try.underlying2 hv h
  exact ⟨a, rfl, w⟩
end Go.Proofs.Ytghhphhnalfjaaa

namespace Go.Proofs.Ytghhphhnalfjaaa.Nums

def lowB (l : List UInt8) : Bool := l.all fun c => decide (97 ≤ (c.toNat : Int)) && decide ((c.toNat : Int) ≤ 122)

def nameB (l : List UInt8) : Bool := lowB l && (decide (1 ≤ (l.length : Int)) && decide ((l.length : Int) ≤ 4))

theorem take_snoc (s : ByteArray) (k : Nat) (h : k < s.size) : s.data.toList.take (k + 1) = s.data.toList.take k ++ [s[k]] := by
  rw [List.take_succ_eq_append_getElem (by simpa using h)]; rfl

theorem take_all (s : ByteArray) (k : Nat) (h : ¬ k < s.size) : s.data.toList.take k = s.data.toList := by
  rw [List.take_of_length_le]; simp; omega

theorem byte_lt (c : UInt8) : 0 ≤ (c.toNat : Int) ∧ (c.toNat : Int) ≤ 255 := by have := c.toNat_lt; omega

theorem lowB_snoc (l : List UInt8) (c : UInt8) : lowB (l ++ [c]) = (lowB l && (decide (97 ≤ (c.toNat : Int)) && decide ((c.toNat : Int) ≤ 122))) := by
  simp [lowB]

theorem lowB_take (l : List UInt8) (k : Nat) (h : lowB (l.take k) = false) : lowB l = false := by
  rw [← List.take_append_drop k l]
  simp only [lowB] at h
  simp only [lowB, List.all_append, h, Bool.false_and]

theorem lowB_bad (s : ByteArray) (k : Nat) (h : k < s.size) (hb : ¬ (97 ≤ (s[k].toNat : Int) ∧ (s[k].toNat : Int) ≤ 122)) : lowB s.data.toList = false := by
  apply lowB_take _ (k + 1)
  rw [take_snoc s k h, lowB_snoc]
  by_cases h1 : 97 ≤ (s[k].toNat : Int)
  · have h2 : ¬ (s[k].toNat : Int) ≤ 122 := fun h2 => hb ⟨h1, h2⟩
    simp [h2]
  · simp [h1]

theorem lowB_good (s : ByteArray) (k : Nat) (h : k < s.size) (hl : lowB (s.data.toList.take k) = true) (h1 : 97 ≤ (s[k].toNat : Int)) (h2 : (s[k].toNat : Int) ≤ 122) : lowB (s.data.toList.take (k + 1)) = true := by
  rw [take_snoc s k h, lowB_snoc, hl]; simp [h1, h2]
end Go.Proofs.Ytghhphhnalfjaaa.Nums

namespace Go.Proofs.Ytghhphhnalfjaaa
open Nums

set_option linter.unusedVariables false

set_option maxRecDepth 100000


structure Oq where
  k : Int
  nm : ByteArray
  ot : ByteArray
  at_ : Int
  va : Int
  ep : Int

def Oq.zero : Oq := ⟨0, ByteArray.empty, ByteArray.empty, 0, 0, 0⟩

def kOther (k : Int) : Bool := decide (k = 4) || decide (k = 5)

def kAt (k : Int) : Bool := decide (k = 2) || decide (k = 3) || decide (k = 9)

def kSize (k : Int) : Bool := decide (k = 1) || decide (k = 7)

def kEpoch (k : Int) : Bool := decide (k = 2) || decide (k = 3) || decide (k = 6) || decide (k = 7)

def inB (x lo hi : Int) : Bool := decide (lo ≤ x) && decide (x ≤ hi)

def valOk (k va : Int) : Bool := if kSize k = true then inB va 1 16 else if k = 2 then inB va 0 999 else decide (va = 0)

def opOk (o : Oq) : Bool :=
  nameB o.nm.data.toList && inB o.k 1 9 && (kOther o.k == decide (o.ot.size ≠ 0)) && (!kOther o.k || nameB o.ot.data.toList) && (kAt o.k || decide (o.at_ = 0)) && inB o.at_ 0 255 && (kEpoch o.k || decide (o.ep = 0)) && inB o.ep 0 1000 && valOk o.k o.va

theorem inB_iff (x lo hi : Int) : inB x lo hi = true ↔ lo ≤ x ∧ x ≤ hi := by simp [inB]

theorem nameB_size (s : ByteArray) (h : nameB s.data.toList = true) : 1 ≤ s.size ∧ s.size ≤ 4 := by
  simp only [nameB, Bool.and_eq_true, decide_eq_true_eq] at h
  have e : s.data.toList.length = s.size := by simp
  omega

theorem ext_list {a b : ByteArray} (h : a.data.toList = b.data.toList) : a = b := by
  cases a; cases b
  simp at h
  rw [h]
end Go.Proofs.Ytghhphhnalfjaaa

namespace Go.Proofs.Ytghhphhnalfjaaa
open Go.RowKit

set_option linter.unusedVariables false

set_option maxRecDepth 100000


theorem ret_bool {a b : Bool} (h : a = b) : Ending.returned (.bool a) = .returned (.bool b) := by rw [h]

theorem ret_int {k : IntKind} {a b : Int} (h : a = b) : Ending.returned (.int k a) = .returned (.int k b) := by rw [h]

theorem l1In_any (x lo hi : Int) (w : World) :
    Calls Try.prog 52 #[.int .i64 x, .int .i64 lo, .int .i64 hi] w fun e w' => e = .returned (.bool (decide (lo ≤ x) && decide (x ≤ hi))) ∧ w' = w := by
  by_cases h : lo ≤ x
  · by_cases h2 : x ≤ hi
    all_goals
      go_enter Try.func52, Try.ntmps52
      go_wp2
      go_ret
      exact ⟨by simp [h, h2], rfl⟩
  · go_enter Try.func52, Try.ntmps52
    go_wp2
    go_ret
    exact ⟨ret_bool (by simp; omega), rfl⟩

set_option maxHeartbeats 400000 in
theorem specName_any (s : ByteArray) (w : World) (hs : s.size ≤ maxLen) :
    Calls Try.prog 89 #[.string s] w fun e w' => e = .returned (.bool (Nums.nameB s.data.toList)) ∧ w' = w := by
  unfold maxLen at hs
  go_enter Try.func89, Try.ntmps89
  go_wp2
  go_loop [3] (fun i => ∃ k : Nat, k ≤ s.size ∧ i = .int .i64 k ∧ Nums.lowB (s.data.toList.take k) = true) (fun i => s.size - (intOf i).toNat)
  case atStart => exact ⟨0, Nat.zero_le _, rfl, rfl⟩
  case round =>
    obtain ⟨k, hk, rfl, hl⟩ := hrel
    have HL : Hid (Nums.lowB (s.data.toList.take k) = true) := hl
    clear hl
    by_cases hlt : k < s.size
    · have hb := Nums.byte_lt s[k]
      by_cases h1 : 97 ≤ (s[k].toNat : Int)
      · by_cases h2 : (s[k].toNat : Int) ≤ 122
        · go_wp2
          go_round
          case rel => exact ⟨k + 1, by omega, by go_num, Nums.lowB_good s k hlt HL.out h1 h2⟩
          case measure => simp [intOf]; omega
        · have hx := Nums.lowB_bad s k hlt (by omega)
          have HX : Hid (Nums.nameB s.data.toList = false) := by simp [Nums.nameB, hx, Hid]
          clear hx
          go_wp2
          go_ret
          exact ⟨ret_bool HX.out.symm, rfl⟩
      · have hx := Nums.lowB_bad s k hlt (by omega)
        have HX : Hid (Nums.nameB s.data.toList = false) := by simp [Nums.nameB, hx, Hid]
        clear hx
        go_wp2
        go_ret
        exact ⟨ret_bool HX.out.symm, rfl⟩
    · go_wp2_with (go_at_call 52; refine (l1In_any _ _ _ _).mono ?_; rintro e w' ⟨rfl, rfl⟩)
      go_ret
      have hl := HL.out
      rw [Nums.take_all s k hlt] at hl
      exact ⟨ret_bool (by simp [Nums.nameB, hl]), rfl⟩

set_option maxHeartbeats 400000 in
theorem implName_any (s : ByteArray) (w : World) (hs : s.size ≤ maxLen) :
    Calls Try.prog 91 #[.string s] w fun e w' => e = .returned (.bool (Nums.nameB s.data.toList)) ∧ w' = w := by
  unfold maxLen at hs
  by_cases g1 : (1 : Int) ≤ (s.size : Int)
  · by_cases g2 : (s.size : Int) ≤ 4
    · go_enter Try.func91, Try.ntmps91
      go_wp2
      go_loop [3] (fun i => ∃ k : Nat, k ≤ s.size ∧ i = .int .i64 k ∧ Nums.lowB (s.data.toList.take k) = true) (fun i => s.size - (intOf i).toNat)
      case atStart => exact ⟨0, Nat.zero_le _, rfl, rfl⟩
      case round =>
        obtain ⟨k, hk, rfl, hl⟩ := hrel
        have HL : Hid (Nums.lowB (s.data.toList.take k) = true) := hl
        clear hl
        by_cases hlt : k < s.size
        · have hb := Nums.byte_lt s[k]
          by_cases h1 : 97 ≤ (s[k].toNat : Int)
          · by_cases h2 : (s[k].toNat : Int) ≤ 122
            · go_wp2
              go_round
              case rel => exact ⟨k + 1, by omega, by go_num, Nums.lowB_good s k hlt HL.out h1 h2⟩
              case measure => simp [intOf]; omega
            · have hx := Nums.lowB_bad s k hlt (by omega)
              have HX : Hid (Nums.nameB s.data.toList = false) := by simp [Nums.nameB, hx, Hid]
              clear hx
              go_wp2
              go_ret
              exact ⟨ret_bool HX.out.symm, rfl⟩
          · have hx := Nums.lowB_bad s k hlt (by omega)
            have HX : Hid (Nums.nameB s.data.toList = false) := by simp [Nums.nameB, hx, Hid]
            clear hx
            go_wp2
            go_ret
            exact ⟨ret_bool HX.out.symm, rfl⟩
        · go_wp2
          go_ret
          have hl := HL.out
          rw [Nums.take_all s k hlt] at hl
          exact ⟨ret_bool (by simp [Nums.nameB, hl]; omega), rfl⟩
    · have HX : Hid (Nums.nameB s.data.toList = false) := by simp [Nums.nameB, Hid]; omega
      go_enter Try.func91, Try.ntmps91
      go_wp2
      go_ret
      exact ⟨ret_bool HX.out.symm, rfl⟩
  · have HX : Hid (Nums.nameB s.data.toList = false) := by simp [Nums.nameB, Hid]; omega
    go_enter Try.func91, Try.ntmps91
    go_wp2
    go_ret
    exact ⟨ret_bool HX.out.symm, rfl⟩
end Go.Proofs.Ytghhphhnalfjaaa

namespace Go.Proofs.Ytghhphhnalfjaaa
open Go.RowKit

set_option linter.unusedVariables false

set_option maxRecDepth 100000


theorem foldl_push : ∀ (l : List Int) (r : ByteArray), l.foldl (fun r n => r.push (UInt8.ofNat n.toNat)) r = ⟨r.data ++ (l.map fun n => UInt8.ofNat n.toNat).toArray⟩
  | [], r => by simp
  | b :: l, r => by
    simp only [List.map_cons, List.foldl_cons]
    rw [foldl_push l]
    simp [ByteArray.push]

theorem conv_cells (w : World) (a : Addr) (cap : Nat) (ns : List Int) (hc : ∀ j v, ns[j]? = some v → w.cell? (a.add j) = some (.int .u8 v)) :
    (convert 22 9 (.slice (some a) ns.length cap)).run Try.prog w = .ok (.string ⟨(ns.map fun n => UInt8.ofNat n.toNat).toArray⟩) w := by
  rw [run_convert_bytes_string w _ _ 5 (some a) ns.length cap Try.underlying22 Try.underlying5 Try.underlying9]
  have hl := run_loadCells_list (P := Try.prog) w a (ns.map (Value.int .u8)) (fun j v hj => by
    rw [List.getElem?_map, Option.map_eq_some_iff] at hj
    obtain ⟨x, hx, rfl⟩ := hj
    exact hc j x hx)
  rw [List.length_map] at hl
  rw [run_bytesToString w a ns.length cap _ hl, foldl_push]
  have he0 : ByteArray.empty.data = #[] := rfl
  rw [he0]
  simp

theorem conv_new (w : World) (ns : List Int) (more : List Value) (cap : Nat) :
    (convert 22 9 (.slice (some ⟨w.heap.size, 0, none⟩) ns.length cap)).run Try.prog (w.alloc (.cells (ns.map (Value.int .u8) ++ more).toArray 5)) = .ok (.string ⟨(ns.map fun n => UInt8.ofNat n.toNat).toArray⟩) (w.alloc (.cells (ns.map (Value.int .u8) ++ more).toArray 5)) := by
  apply conv_cells
  intro j v hj
  have hj' := (List.getElem?_eq_some_iff.1 hj).1
  have := World.cell?_alloc_mark w (ns.map (Value.int .u8) ++ more).toArray 5 (0, 0) j
  have ha : (⟨w.heap.size, 0, none⟩ : Addr).add j = ⟨w.heap.size, j, none⟩ := by unfold Addr.add; split <;> simp_all
  rw [ha, this]
  have e : ns[j] = v := by rw [List.getElem?_eq_getElem hj'] at hj; exact Option.some.inj hj
  simp [List.getElem?_append, hj', e]
end Go.Proofs.Ytghhphhnalfjaaa

namespace Go.Proofs.Ytghhphhnalfjaaa
open Go.RowKit

set_option linter.unusedVariables false

set_option maxRecDepth 100000


theorem text_eq (x y : ByteArray) : (x.toList == y.toList) = decide (x = y) := by
  rw [Bool.eq_iff_iff, beq_iff_eq, decide_eq_true_iff, ByteArray.toList_eq, ByteArray.toList_eq]
  constructor
  · intro h; apply ByteArray.ext; exact Array.toList_inj.1 h
  · intro h; rw [h]

def digs : Nat → Nat → ByteArray → ByteArray
  | 0, _, out => out
  | f + 1, k, out => if k = 0 then out else digs f (k / 10) (⟨#[48 + UInt8.ofNat (k % 10)]⟩ ++ out)

def markS (k : Int) : ByteArray := if k ≤ 0 then ⟨#[109, 48]⟩ else ⟨#[109]⟩ ++ digs (k.toNat + 1) k.toNat ⟨#[]⟩

theorem digs_step (f k : Nat) (out : ByteArray) (h : 0 < k) : digs (f + 1) k out = digs f (k / 10) (⟨#[48 + UInt8.ofNat (k % 10)]⟩ ++ out) := by
  simp only [digs]; rw [if_neg (by omega)]

theorem digs_end (f : Nat) (out : ByteArray) : digs (f + 1) 0 out = out := by simp [digs]

set_option maxHeartbeats 800000 in
theorem markText_any (k : Int) (w : World) (hk : -9223372036854775808 ≤ k ∧ k ≤ 1099511627776) :
    Calls Try.prog 59 #[.int .i64 k] w fun e w' => e = .returned (.string (markS k)) ∧ Below w.heap.size w w' := by
  by_cases h0 : k ≤ 0
  · have hv : markS k = ⟨#[109, 48]⟩ := by unfold markS; rw [if_pos h0]
    rw [hv]
    go_enter Try.func59, Try.ntmps59
    go_wp2
    go_ret
    exact ⟨rfl, Below.refl _ _⟩
  · have hv : markS k = ⟨#[109]⟩ ++ digs (k.toNat + 1) k.toNat ⟨#[]⟩ := by unfold markS; rw [if_neg h0]
    rw [hv]
    obtain ⟨K, rfl⟩ := Int.eq_ofNat_of_zero_le (show 0 ≤ k by omega)
    clear hv
    have hcv : ∀ (w : World) (a : Int), (convert 22 9 (.slice (some ⟨w.heap.size, 0, none⟩) 1 1)).run Try.prog (w.alloc (.cells #[.int .u8 a] 5)) = .ok (.string ⟨#[UInt8.ofNat a.toNat]⟩) (w.alloc (.cells #[.int .u8 a] 5)) := fun w a => conv_new w [a] [] 1
    rw [Int.toNat_natCast]
    go_enter Try.func59, Try.ntmps59
    go_wp2
    go_loopw [0, 3] (fun a o wr => ∃ (m f : Nat) (out : ByteArray), a = .int .i64 m ∧ o = .string out ∧ m ≤ f ∧ digs (K + 1) K ⟨#[]⟩ = digs (f + 1) m out ∧ out.size + m ≤ K ∧ Below w.heap.size w wr) (fun a _ _ => (intOf a).toNat)
    case atStart => exact ⟨K, K, ⟨#[]⟩, rfl, rfl, Nat.le_refl _, rfl, by show 0 + K ≤ K; omega, Below.refl _ _⟩
    case round =>
      obtain ⟨m, f, out, rfl, rfl, hf, hd, ho, hb⟩ := hrel
      have HD : Hid (digs (K + 1) K ⟨#[]⟩ = digs (f + 1) m out) := hd
      clear hd
      by_cases hpos : (0 : Int) < (m : Int)
      · obtain ⟨g, rfl⟩ : ∃ g, f = g + 1 := ⟨f - 1, by omega⟩
        have HN := digs_step (g + 1) m out (by omega)
        rw [← HD.out] at HN
        have HN' : Hid (digs (K + 1) K ⟨#[]⟩ = digs (g + 1) (m / 10) (⟨#[48 + UInt8.ofNat (m % 10)]⟩ ++ out)) := HN
        have hb2 := hb.alloc hb.size (.cells #[.int .u8 (48 + (m : Int) % 10)] 5)
        clear HN
        go_wp2
        go_roundw
        case rel => exact ⟨m / 10, g, _, by go_num, rfl, by omega, HN'.out, by rw [ByteArray.size_append]; show 1 + out.size + m / 10 ≤ K; omega, hb2⟩
        case measure => simp [intOf]; omega
      · obtain rfl : m = 0 := by omega
        have hsz : out.size ≤ 1099511627776 := by omega
        go_wp2
        go_ret
        rw [HD.out, digs_end]
        exact ⟨rfl, hb⟩
end Go.Proofs.Ytghhphhnalfjaaa

namespace Go.Proofs.Ytghhphhnalfjaaa
open Go.RowKit

set_option linter.unusedVariables false

set_option maxRecDepth 100000

/-- Appending what is read, of whatever address, to a row of one's own. -/
theorem run_append_reads {P : Program} (w : World) (base : Nat) (t ty e : TypeId) (i : TypeInfo) (z : Value) (size bytes : Nat) (ht : P.underlying t = some (.slice e)) (hi : P.info? e = some i) (hz : i.zero = some z)
    (hsize : i.size = size) (hby : i.bytes = bytes) (hzs : z.cells.size = size) (hsz : 0 < size)
    (v : Value) (n : Nat) (xs : List Value) (hown : w.ownsRow base e size v n xs)
    (o : Option Addr) (m c : Nat) (news : List Value) (hl : news.length = m * size) (hnews : ∀ j u, news[j]? = some u → ∃ g off, o = some ⟨g, off, none⟩ ∧ w.cell? ⟨g, off + j, none⟩ = some u) (h1 : ∀ u ∈ news, u.oneCell' = true)
    (h63 : n + m ≤ maxLen) (hbytes : (n + m) * bytes ≤ 140737488355328) (hbase : base ≤ w.heap.size) :
    ∃ v' w', (Builtin.append_ #[t, t] ty #[v, .slice o m c]).run P w = .ok v' w' ∧ w'.ownsRow base e size v' (n + m) (xs ++ news) ∧ w.grownBy w' v.ownBlock ∧
      (v' = .slice none 0 0 ↔ v = .slice none 0 0 ∧ m = 0) := by
  cases o with
  | none =>
    have hn : news = [] := by
      cases news with
      | nil => rfl
      | cons a l => obtain ⟨_, _, h, _⟩ := hnews 0 a rfl; cases h
    subst hn
    have hm : m = 0 := by
      rcases Nat.eq_zero_or_pos m with h | h
      · exact h
      · have := Nat.mul_pos h hsz; simp at hl; omega
    subst hm
    refine ⟨v, w, ?_, by simpa using hown, ⟨rfl, rfl, rfl, Nat.le_refl _, fun _ _ _ => rfl⟩, by simp⟩
    rcases hown.2 with ⟨rfl, rfl⟩ | ⟨g, cap, cur, rfl, _, _, hnc, _⟩
    · simp [Builtin.append_, run_underlying ht, sizeOf, typeInfo, hi, Builtin.lenOf, Builtin.firstCells]
    · simp [Builtin.append_, run_underlying ht, sizeOf, typeInfo, hi, Builtin.lenOf, Builtin.firstCells, hnc, storeCells]
  | some ad =>
    refine run_append_own (P := P) w base t ty e i z size bytes ht hi hz hsize hby hzs hsz v n xs hown ad m c news hl (fun j u hj => ?_) h1 h63 hbytes hbase
    obtain ⟨g, off, hg, hc⟩ := hnews j u hj
    cases hg
    have ea : (⟨g, off, none⟩ : Addr).add j = ⟨g, off + j, none⟩ := by unfold Addr.add; split <;> simp_all
    rw [ea]; exact hc

theorem wp_append_reads {P : Program} {w : World} {o : Oper} {a : Act} {K : Act → World → Prop} {Q : Exit → Act → World → Prop} (s x : Operand) (t : TypeId)
    (ho : o.op = .call { callee := .builtin .append, args := #[s, x], argTypes := #[t, t] })
    (base : Nat) (e : TypeId) (i : TypeInfo) (z : Value) (size bytes : Nat) (ht : P.underlying t = some (.slice e)) (hi : P.info? e = some i) (hz : i.zero = some z)
    (hsize : i.size = size) (hby : i.bytes = bytes) (hzs : z.cells.size = size) (hsz : 0 < size)
    (v : Value) (n : Nat) (xs : List Value) (hs : a.eval s = v) (hown : w.ownsRow base e size v n xs)
    (ad : Option Addr) (m c : Nat) (news : List Value) (hx : a.eval x = .slice ad m c) (hl : news.length = m * size) (hnews : ∀ j u, news[j]? = some u → ∃ g off, ad = some ⟨g, off, none⟩ ∧ w.cell? ⟨g, off + j, none⟩ = some u) (h1 : ∀ u ∈ news, u.oneCell' = true)
    (h63 : n + m ≤ maxLen) (hbytes : (n + m) * bytes ≤ 140737488355328) (hbase : base ≤ w.heap.size)
    (h : ∀ v' w', w'.ownsRow base e size v' (n + m) (xs ++ news) → w.grownBy w' v.ownBlock → (v' = .slice none 0 0 ↔ v = .slice none 0 0 ∧ m = 0) → K (a.put o.dst v') w') : o.wp P a w K Q := by
  obtain ⟨v', w', hr, h2, h3, h4⟩ := run_append_reads (P := P) w base t o.type e i z size bytes ht hi hz hsize hby hzs hsz v n xs hown ad m c news hl hnews h1 h63 hbytes hbase
  unfold Oper.wp execOp
  simp only [ho, resolve, invoke, builtin, Sem.run_bind, Sem.run_pure, Result.andThen_ok, List.map_toArray, List.map_cons, List.map_nil, hs, hx, hr]
  exact h v' w' h2 h3 h4

theorem wpList_append_reads {P : Program} {w : World} {ops : Array Oper} {rest : List Oper} {o : Oper} {a : Act} {Q : Exit → Act → World → Prop} (hgd : o.guard = none) (s x : Operand) (t : TypeId)
    (ho : o.op = .call { callee := .builtin .append, args := #[s, x], argTypes := #[t, t] })
    (base : Nat) (e : TypeId) (i : TypeInfo) (z : Value) (size bytes : Nat) (ht : P.underlying t = some (.slice e)) (hi : P.info? e = some i) (hz : i.zero = some z)
    (hsize : i.size = size) (hby : i.bytes = bytes) (hzs : z.cells.size = size) (hsz : 0 < size)
    (v : Value) (n : Nat) (xs : List Value) (hs : a.eval s = v) (hown : w.ownsRow base e size v n xs)
    (ad : Option Addr) (m c : Nat) (news : List Value) (hx : a.eval x = .slice ad m c) (hl : news.length = m * size) (hnews : ∀ j u, news[j]? = some u → ∃ g off, ad = some ⟨g, off, none⟩ ∧ w.cell? ⟨g, off + j, none⟩ = some u) (h1 : ∀ u ∈ news, u.oneCell' = true)
    (h63 : n + m ≤ maxLen) (hbytes : (n + m) * bytes ≤ 140737488355328) (hbase : base ≤ w.heap.size)
    (h : ∀ v' w', w'.ownsRow base e size v' (n + m) (xs ++ news) → w.grownBy w' v.ownBlock → (v' = .slice none 0 0 ↔ v = .slice none 0 0 ∧ m = 0) → wpList P ops Q rest (a.put o.dst v') w') : wpList P ops Q (o :: rest) a w :=
  wpList_plain hgd fun _ hK => wp_append_reads s x t ho base e i z size bytes ht hi hz hsize hby hzs hsz v n xs hs hown ad m c news hx hl hnews h1 h63 hbytes hbase fun v' w' h2 h3 h4 => hK _ _ (h v' w' h2 h3 h4)

theorem Reads.grown {B : Nat} {w w' : World} {row : Option Nat} {v : Value} {xs : List Value} (h : Reads B w v xs) (hg : w.grownBy w' row) (hB : B ≤ w.heap.size) (hr : ∀ k, row = some k → B ≤ k) : Reads B w' v xs :=
  h.below ((Below.refl B w).grown hg hB hr)

theorem Reads.len {B : Nat} {w : World} {v : Value} {xs : List Value} (h : Reads B w v xs) : xs.length ≤ maxLen := by
  obtain ⟨_, _, _, h, _⟩ := h; exact h

theorem Reads.none (B : Nat) (w : World) : Reads B w (.slice none 0 0) [] := ⟨Option.none, 0, rfl, Nat.zero_le _, fun j u hj => by simp at hj, Nat.le_refl _⟩

/-- All blocks that were there are as they were, but for those of S. -/
structure Only (S : Nat → Prop) (w w' : World) : Prop where
  os : w'.os = w.os
  tape : w'.tape = w.tape
  output : w'.output = w.output
  size : w.heap.size ≤ w'.heap.size
  block : ∀ k, k < w.heap.size → ¬ S k → w'.heap[k]? = w.heap[k]?

theorem Only.refl (S : Nat → Prop) (w : World) : Only S w w := ⟨rfl, rfl, rfl, Nat.le_refl _, fun _ _ _ => rfl⟩

theorem Only.trans {S : Nat → Prop} {a b d : World} (h : Only S a b) (k : Only S b d) : Only S a d :=
  ⟨k.os.trans h.os, k.tape.trans h.tape, k.output.trans h.output, Nat.le_trans h.size k.size, fun i hi hc => (k.block i (Nat.lt_of_lt_of_le hi h.size) hc).trans (h.block i hi hc)⟩

theorem Only.below {S : Nat → Prop} {a w w' : World} (h : Only S a w) (k : Below w.heap.size w w') : Only S a w' :=
  ⟨k.os.trans h.os, k.tape.trans h.tape, k.output.trans h.output, Nat.le_trans h.size k.size, fun i hi hc => (k.block i (Nat.lt_of_lt_of_le hi h.size)).trans (h.block i hi hc)⟩

theorem Only.setCell {S : Nat → Prop} {a w : World} (h : Only S a w) (p : Addr) (hp : S p.block) (u : Value) : Only S a (w.setCell p u) :=
  ⟨h.os, h.tape, h.output, by simpa [World.setCell] using h.size, fun i hi hc => (Below.heap_setCell w p u i (fun e => hc (by rw [e]; exact hp))).trans (h.block i hi hc)⟩

theorem Only.toBelow {S : Nat → Prop} {B : Nat} {w w' : World} (h : Only S w w') (hB : B ≤ w.heap.size) (hS : ∀ k, S k → B ≤ k) : Below B w w' :=
  ⟨h.os, h.tape, h.output, h.size, fun k hk => h.block k (by omega) (fun hs => by have := hS k hs; omega)⟩

theorem Only.mono {S S' : Nat → Prop} {w w' : World} (h : Only S w w') (hS : ∀ k, S k → S' k) : Only S' w w' := ⟨h.os, h.tape, h.output, h.size, fun k hk hn => h.block k hk (fun hs => hn (hS k hs))⟩

theorem own_slice {w : World} {base : Nat} {e : TypeId} {size : Nat} {v : Value} {n : Nat} {xs : List Value} (h : w.ownsRow base e size v n xs) : ∃ o cap, v = .slice o n cap := by
  rcases h.2 with ⟨rfl, rfl⟩ | ⟨g, cap, cur, rfl, _⟩
  · exact ⟨_, _, rfl⟩
  · exact ⟨_, _, rfl⟩

theorem heap_lt {w : World} {b : Nat} {o : Obj} (h : w.heap[b]? = some o) : b < w.heap.size := (Array.getElem?_eq_some_iff.1 h).1

/-- All blocks that were there are as they were, but for those from lo up to hi. -/
structure Rng (lo hi : Nat) (w w' : World) : Prop where
  os : w'.os = w.os
  tape : w'.tape = w.tape
  output : w'.output = w.output
  size : w.heap.size ≤ w'.heap.size
  block : ∀ k, k < w.heap.size → (k < lo ∨ hi ≤ k) → w'.heap[k]? = w.heap[k]?

theorem Rng.refl (lo hi : Nat) (w : World) : Rng lo hi w w := ⟨rfl, rfl, rfl, Nat.le_refl _, fun _ _ _ => rfl⟩

theorem Rng.trans {lo hi : Nat} {a b d : World} (h : Rng lo hi a b) (k : Rng lo hi b d) : Rng lo hi a d :=
  ⟨k.os.trans h.os, k.tape.trans h.tape, k.output.trans h.output, Nat.le_trans h.size k.size, fun i hi hc => (k.block i (Nat.lt_of_lt_of_le hi h.size) hc).trans (h.block i hi hc)⟩

theorem Rng.toBelow {lo hi B : Nat} {w w' : World} (h : Rng lo hi w w') (hB : B ≤ w.heap.size) (hl : B ≤ lo) : Below B w w' :=
  ⟨h.os, h.tape, h.output, h.size, fun k hk => h.block k (by omega) (.inl (by omega))⟩

theorem own_rng {lo hi : Nat} {w w' : World} {base : Nat} {e : TypeId} {size : Nat} {v : Value} {n : Nat} {xs : List Value} (h : w.ownsRow base e size v n xs) (k : Rng lo hi w w') (hb : hi ≤ base) : w'.ownsRow base e size v n xs := by
  obtain ⟨h1, h2⟩ := h
  refine ⟨h1, ?_⟩
  rcases h2 with h2 | ⟨g, cap, cur, rfl, hg, hh, r⟩
  · exact Or.inl h2
  · exact Or.inr ⟨g, cap, cur, rfl, hg, by rw [k.block g (heap_lt hh) (.inr (by omega))]; exact hh, r⟩

/-- Boxes laid one behind the other. -/
theorem box1 (w : World) (a : Array Value) (T : TypeId) : ∃ W0, W0 = w.alloc (.cells a T) ∧ W0.heap[w.heap.size]? = some (.cells a T (0, 0)) ∧ Below w.heap.size w W0 ∧ W0.heap.size = w.heap.size + 1 :=
  ⟨_, rfl, heap_alloc_new w _, bw_alloc (Below.refl _ _), by simp⟩

theorem box2 (w : World) (a b : Array Value) (T U : TypeId) : ∃ W0, W0 = (w.alloc (.cells a T)).alloc (.cells b U) ∧ W0.heap[w.heap.size]? = some (.cells a T (0, 0)) ∧ W0.heap[w.heap.size + 1]? = some (.cells b U (0, 0)) ∧ Below w.heap.size w W0 ∧ W0.heap.size = w.heap.size + 1 + 1 := by
  obtain ⟨W1, h1, k1, d1, s1⟩ := box1 w a T
  have k2 := heap_alloc_new W1 (.cells b U)
  rw [s1] at k2
  rw [← h1]
  exact ⟨_, rfl, (Below.heap_alloc _ _ _ (by omega)).trans k1, k2, bw_alloc d1, by simp [s1]⟩

theorem box3 (w : World) (a b c : Array Value) (T U V : TypeId) : ∃ W0, W0 = ((w.alloc (.cells a T)).alloc (.cells b U)).alloc (.cells c V) ∧ W0.heap[w.heap.size]? = some (.cells a T (0, 0)) ∧ W0.heap[w.heap.size + 1]? = some (.cells b U (0, 0)) ∧ W0.heap[w.heap.size + 1 + 1]? = some (.cells c V (0, 0)) ∧ Below w.heap.size w W0 ∧ W0.heap.size = w.heap.size + 1 + 1 + 1 := by
  obtain ⟨W1, h1, k1, k1', d1, s1⟩ := box2 w a b T U
  have k2 := heap_alloc_new W1 (.cells c V)
  rw [s1] at k2
  rw [← h1]
  exact ⟨_, rfl, (Below.heap_alloc _ _ _ (by omega)).trans k1, (Below.heap_alloc _ _ _ (by omega)).trans k1', k2, bw_alloc d1, by simp [s1]⟩
end Go.Proofs.Ytghhphhnalfjaaa

namespace Go.Proofs.Ytghhphhnalfjaaa
open Go.RowKit

set_option linter.unusedVariables false

set_option maxRecDepth 100000

theorem text_nil (s : ByteArray) : (s.toList == (⟨#[]⟩ : ByteArray).toList) = decide (s.size = 0) := by
  rw [text_eq, decide_eq_decide]
  constructor
  · intro h; rw [h]; rfl
  · intro h; apply ext_list; exact List.length_eq_zero_iff.1 (by simpa using h)

theorem text_none2 (s : ByteArray) : s.toList = [] ↔ s.size = 0 := by
  have h := text_nil s
  have e : (⟨#[]⟩ : ByteArray).toList = [] := by rw [ByteArray.toList_eq]
  rw [e, Bool.eq_iff_iff, beq_iff_eq, decide_eq_true_eq] at h
  exact h

set_option maxHeartbeats 6400000 in
theorem specOpOk_any (k : Int) (nm ot : ByteArray) (at_ va ep : Int) (w : World) (hn : nm.size ≤ maxLen) (ho : ot.size ≤ maxLen) :
    Calls Try.prog 64 #[.agg #[.int .i64 k, .string nm, .string ot, .int .i64 at_, .int .i64 va, .int .i64 ep]] w fun e w' => e = .returned (.bool (opOk ⟨k, nm, ot, at_, va, ep⟩)) ∧ Below w.heap.size w w' := by
  obtain ⟨W0, hW0, k0, d0, z0⟩ := box1 w #[.int .i64 k, .string nm, .string ot, .int .i64 at_, .int .i64 va, .int .i64 ep] 32
  have HW0 : Hid (W0 = _) := hW0
  have p0 := at_cell k0 0
  have p1 := at_cell k0 1
  have p2 := at_cell k0 2
  have p3 := at_cell k0 3
  have p4 := at_cell k0 4
  have p5 := at_cell k0 5
  clear hW0 k0
  go_enter Try.func64, Try.ntmps64
  go_wp2_with fail
  rw [← HW0.out]
  clear HW0
  refine (specName_any nm _ hn).mono ?_
  rintro e w' ⟨rfl, rfl⟩
  cases h1 : Nums.nameB nm.data.toList
  · have HV : Hid (opOk ⟨k, nm, ot, at_, va, ep⟩ = false) := by simp [Hid, opOk, h1]
    clear h1
    go_wp2_with fail
    go_ret
    exact ⟨ret_bool HV.out.symm, d0⟩
  have H1 : Hid _ := h1
  clear h1
  go_wp2_with fail
  refine (l1In_any k 1 9 _).mono ?_
  rintro e w' ⟨rfl, rfl⟩
  cases h2 : (decide (1 ≤ k) && decide (k ≤ 9))
  · have HV : Hid (opOk ⟨k, nm, ot, at_, va, ep⟩ = false) := by simp [Hid, opOk, inB, h2]
    clear h2
    go_wp2_with fail
    go_ret
    exact ⟨ret_bool HV.out.symm, d0⟩
  have h2' : k = 1 ∨ k = 2 ∨ k = 3 ∨ k = 4 ∨ k = 5 ∨ k = 6 ∨ k = 7 ∨ k = 8 ∨ k = 9 := by simp at h2; omega
  clear h2
  have e0 := text_none2 ot
  rcases h2' with rfl | rfl | rfl | rfl | rfl | rfl | rfl | rfl | rfl
  · cases h3 : decide (ot.size = 0)
    · have h3' : ¬ ot.size = 0 := of_decide_eq_false h3
      have HV : Hid (opOk ⟨1, nm, ot, at_, va, ep⟩ = false) := by simp [Hid, opOk, inB, kOther, kAt, kEpoch, kSize, valOk, h3']
      have e1 : ¬ ot.toList = [] := fun h => h3' (e0.1 h)
      clear e0
      go_wp2_with fail
      go_ret
      exact ⟨ret_bool HV.out.symm, d0⟩
    · have h3' : ot.size = 0 := of_decide_eq_true h3
      have e1 : ot.toList = [] := e0.2 h3'
      clear e0
      by_cases h5 : ¬ at_ = 0
      · have HV : Hid (opOk ⟨1, nm, ot, at_, va, ep⟩ = false) := by simp [Hid, opOk, inB, kOther, kAt, kEpoch, kSize, valOk, h5]
        have hq : (at_ != 0) = true := by rw [bne_iff_ne]; exact h5
        go_wp2_with fail
        go_ret
        exact ⟨ret_bool HV.out.symm, d0⟩
      obtain rfl : at_ = 0 := by omega
      clear h5
      go_wp2_with fail
      refine (l1In_any 0 0 255 _).mono ?_
      rintro e w' ⟨rfl, rfl⟩
      by_cases h7 : ¬ ep = 0
      · have HV : Hid (opOk ⟨1, nm, ot, 0, va, ep⟩ = false) := by simp [Hid, opOk, inB, kOther, kAt, kEpoch, kSize, valOk, h7]
        have hq : (ep != 0) = true := by rw [bne_iff_ne]; exact h7
        go_wp2_with fail
        go_ret
        exact ⟨ret_bool HV.out.symm, d0⟩
      obtain rfl : ep = 0 := by omega
      clear h7
      go_wp2_with fail
      refine (l1In_any 0 0 1000 _).mono ?_
      rintro e w' ⟨rfl, rfl⟩
      have HV : Hid (opOk ⟨1, nm, ot, 0, va, 0⟩ = (decide ((1 : Int) ≤ va) && decide (va ≤ 16))) := by simp [Hid, opOk, inB, kOther, kAt, kEpoch, kSize, valOk, H1.out, h3']
      go_wp2_with fail
      refine (l1In_any va 1 16 _).mono ?_
      rintro e w' ⟨rfl, rfl⟩
      go_wp2_with fail
      go_ret
      exact ⟨ret_bool HV.out.symm, d0⟩
  · cases h3 : decide (ot.size = 0)
    · have h3' : ¬ ot.size = 0 := of_decide_eq_false h3
      have HV : Hid (opOk ⟨2, nm, ot, at_, va, ep⟩ = false) := by simp [Hid, opOk, inB, kOther, kAt, kEpoch, kSize, valOk, h3']
      have e1 : ¬ ot.toList = [] := fun h => h3' (e0.1 h)
      clear e0
      go_wp2_with fail
      go_ret
      exact ⟨ret_bool HV.out.symm, d0⟩
    · have h3' : ot.size = 0 := of_decide_eq_true h3
      have e1 : ot.toList = [] := e0.2 h3'
      clear e0
      go_wp2_with fail
      refine (l1In_any at_ 0 255 _).mono ?_
      rintro e w' ⟨rfl, rfl⟩
      cases h6 : (decide ((0 : Int) ≤ at_) && decide (at_ ≤ 255))
      · have HV : Hid (opOk ⟨2, nm, ot, at_, va, ep⟩ = false) := by simp [Hid, opOk, inB, kOther, kAt, kEpoch, kSize, valOk, h6]
        clear h6
        go_wp2_with fail
        go_ret
        exact ⟨ret_bool HV.out.symm, d0⟩
      have H6 : Hid _ := h6
      clear h6
      go_wp2_with fail
      refine (l1In_any ep 0 1000 _).mono ?_
      rintro e w' ⟨rfl, rfl⟩
      cases h8 : (decide ((0 : Int) ≤ ep) && decide (ep ≤ 1000))
      · have HV : Hid (opOk ⟨2, nm, ot, at_, va, ep⟩ = false) := by simp [Hid, opOk, inB, kOther, kAt, kEpoch, kSize, valOk, h8]
        clear h8
        go_wp2_with fail
        go_ret
        exact ⟨ret_bool HV.out.symm, d0⟩
      have H8 : Hid _ := h8
      clear h8
      have HV : Hid (opOk ⟨2, nm, ot, at_, va, ep⟩ = (decide ((0 : Int) ≤ va) && decide (va ≤ 999))) := by simp [Hid, opOk, inB, kOther, kAt, kEpoch, kSize, valOk, H1.out, h3', H6.out, H8.out]
      go_wp2_with fail
      refine (l1In_any va 0 999 _).mono ?_
      rintro e w' ⟨rfl, rfl⟩
      go_wp2_with fail
      go_ret
      exact ⟨ret_bool HV.out.symm, d0⟩
  · cases h3 : decide (ot.size = 0)
    · have h3' : ¬ ot.size = 0 := of_decide_eq_false h3
      have HV : Hid (opOk ⟨3, nm, ot, at_, va, ep⟩ = false) := by simp [Hid, opOk, inB, kOther, kAt, kEpoch, kSize, valOk, h3']
      have e1 : ¬ ot.toList = [] := fun h => h3' (e0.1 h)
      clear e0
      go_wp2_with fail
      go_ret
      exact ⟨ret_bool HV.out.symm, d0⟩
    · have h3' : ot.size = 0 := of_decide_eq_true h3
      have e1 : ot.toList = [] := e0.2 h3'
      clear e0
      go_wp2_with fail
      refine (l1In_any at_ 0 255 _).mono ?_
      rintro e w' ⟨rfl, rfl⟩
      cases h6 : (decide ((0 : Int) ≤ at_) && decide (at_ ≤ 255))
      · have HV : Hid (opOk ⟨3, nm, ot, at_, va, ep⟩ = false) := by simp [Hid, opOk, inB, kOther, kAt, kEpoch, kSize, valOk, h6]
        clear h6
        go_wp2_with fail
        go_ret
        exact ⟨ret_bool HV.out.symm, d0⟩
      have H6 : Hid _ := h6
      clear h6
      go_wp2_with fail
      refine (l1In_any ep 0 1000 _).mono ?_
      rintro e w' ⟨rfl, rfl⟩
      cases h8 : (decide ((0 : Int) ≤ ep) && decide (ep ≤ 1000))
      · have HV : Hid (opOk ⟨3, nm, ot, at_, va, ep⟩ = false) := by simp [Hid, opOk, inB, kOther, kAt, kEpoch, kSize, valOk, h8]
        clear h8
        go_wp2_with fail
        go_ret
        exact ⟨ret_bool HV.out.symm, d0⟩
      have H8 : Hid _ := h8
      clear h8
      have HV : Hid (opOk ⟨3, nm, ot, at_, va, ep⟩ = decide (va = 0)) := by simp [Hid, opOk, inB, kOther, kAt, kEpoch, kSize, valOk, H1.out, h3', H6.out, H8.out]
      go_wp2_with fail
      go_ret
      exact ⟨ret_bool HV.out.symm, d0⟩
  · cases h3 : decide (ot.size = 0)
    · skip
      have h3' : ¬ ot.size = 0 := of_decide_eq_false h3
      have h3e : ¬ ot = ByteArray.empty := fun h => h3' (by rw [h]; rfl)
      have e1 : ¬ ot.toList = [] := fun h => h3' (e0.1 h)
      have e2 : ot.toList.isEmpty = false := by rw [Bool.eq_false_iff]; exact fun h => e1 (List.isEmpty_iff.1 h)
      clear e0
      go_wp2_with fail
      refine (specName_any ot _ ho).mono ?_
      rintro e w' ⟨rfl, rfl⟩
      cases h4 : Nums.nameB ot.data.toList
      · have HV : Hid (opOk ⟨4, nm, ot, at_, va, ep⟩ = false) := by simp [Hid, opOk, inB, kOther, kAt, kEpoch, kSize, valOk, h4]
        clear h4
        go_wp2_with fail
        go_ret
        exact ⟨ret_bool HV.out.symm, d0⟩
      have H4 : Hid _ := h4
      clear h4
      by_cases h5 : ¬ at_ = 0
      · have HV : Hid (opOk ⟨4, nm, ot, at_, va, ep⟩ = false) := by simp [Hid, opOk, inB, kOther, kAt, kEpoch, kSize, valOk, h5]
        have hq : (at_ != 0) = true := by rw [bne_iff_ne]; exact h5
        go_wp2_with fail
        go_ret
        exact ⟨ret_bool HV.out.symm, d0⟩
      obtain rfl : at_ = 0 := by omega
      clear h5
      go_wp2_with fail
      refine (l1In_any 0 0 255 _).mono ?_
      rintro e w' ⟨rfl, rfl⟩
      by_cases h7 : ¬ ep = 0
      · have HV : Hid (opOk ⟨4, nm, ot, 0, va, ep⟩ = false) := by simp [Hid, opOk, inB, kOther, kAt, kEpoch, kSize, valOk, h7]
        have hq : (ep != 0) = true := by rw [bne_iff_ne]; exact h7
        go_wp2_with fail
        go_ret
        exact ⟨ret_bool HV.out.symm, d0⟩
      obtain rfl : ep = 0 := by omega
      clear h7
      go_wp2_with fail
      refine (l1In_any 0 0 1000 _).mono ?_
      rintro e w' ⟨rfl, rfl⟩
      have HV : Hid (opOk ⟨4, nm, ot, 0, va, 0⟩ = decide (va = 0)) := by simp [Hid, opOk, inB, kOther, kAt, kEpoch, kSize, valOk, H1.out, H4.out, h3e]
      go_wp2_with fail
      go_ret
      exact ⟨ret_bool HV.out.symm, d0⟩
    · have h3' : ot.size = 0 := of_decide_eq_true h3
      have HV : Hid (opOk ⟨4, nm, ot, at_, va, ep⟩ = false) := by simp [Hid, opOk, inB, kOther, kAt, kEpoch, kSize, valOk, h3']
      have e1 : ot.toList = [] := e0.2 h3'
      have e2 : ot.toList.isEmpty = true := List.isEmpty_iff.2 e1
      clear e0
      go_wp2_with fail
      go_ret
      exact ⟨ret_bool HV.out.symm, d0⟩
  · cases h3 : decide (ot.size = 0)
    · skip
      have h3' : ¬ ot.size = 0 := of_decide_eq_false h3
      have h3e : ¬ ot = ByteArray.empty := fun h => h3' (by rw [h]; rfl)
      have e1 : ¬ ot.toList = [] := fun h => h3' (e0.1 h)
      have e2 : ot.toList.isEmpty = false := by rw [Bool.eq_false_iff]; exact fun h => e1 (List.isEmpty_iff.1 h)
      clear e0
      go_wp2_with fail
      refine (specName_any ot _ ho).mono ?_
      rintro e w' ⟨rfl, rfl⟩
      cases h4 : Nums.nameB ot.data.toList
      · have HV : Hid (opOk ⟨5, nm, ot, at_, va, ep⟩ = false) := by simp [Hid, opOk, inB, kOther, kAt, kEpoch, kSize, valOk, h4]
        clear h4
        go_wp2_with fail
        go_ret
        exact ⟨ret_bool HV.out.symm, d0⟩
      have H4 : Hid _ := h4
      clear h4
      by_cases h5 : ¬ at_ = 0
      · have HV : Hid (opOk ⟨5, nm, ot, at_, va, ep⟩ = false) := by simp [Hid, opOk, inB, kOther, kAt, kEpoch, kSize, valOk, h5]
        have hq : (at_ != 0) = true := by rw [bne_iff_ne]; exact h5
        go_wp2_with fail
        go_ret
        exact ⟨ret_bool HV.out.symm, d0⟩
      obtain rfl : at_ = 0 := by omega
      clear h5
      go_wp2_with fail
      refine (l1In_any 0 0 255 _).mono ?_
      rintro e w' ⟨rfl, rfl⟩
      by_cases h7 : ¬ ep = 0
      · have HV : Hid (opOk ⟨5, nm, ot, 0, va, ep⟩ = false) := by simp [Hid, opOk, inB, kOther, kAt, kEpoch, kSize, valOk, h7]
        have hq : (ep != 0) = true := by rw [bne_iff_ne]; exact h7
        go_wp2_with fail
        go_ret
        exact ⟨ret_bool HV.out.symm, d0⟩
      obtain rfl : ep = 0 := by omega
      clear h7
      go_wp2_with fail
      refine (l1In_any 0 0 1000 _).mono ?_
      rintro e w' ⟨rfl, rfl⟩
      have HV : Hid (opOk ⟨5, nm, ot, 0, va, 0⟩ = decide (va = 0)) := by simp [Hid, opOk, inB, kOther, kAt, kEpoch, kSize, valOk, H1.out, H4.out, h3e]
      go_wp2_with fail
      go_ret
      exact ⟨ret_bool HV.out.symm, d0⟩
    · have h3' : ot.size = 0 := of_decide_eq_true h3
      have HV : Hid (opOk ⟨5, nm, ot, at_, va, ep⟩ = false) := by simp [Hid, opOk, inB, kOther, kAt, kEpoch, kSize, valOk, h3']
      have e1 : ot.toList = [] := e0.2 h3'
      have e2 : ot.toList.isEmpty = true := List.isEmpty_iff.2 e1
      clear e0
      go_wp2_with fail
      go_ret
      exact ⟨ret_bool HV.out.symm, d0⟩
  · cases h3 : decide (ot.size = 0)
    · have h3' : ¬ ot.size = 0 := of_decide_eq_false h3
      have HV : Hid (opOk ⟨6, nm, ot, at_, va, ep⟩ = false) := by simp [Hid, opOk, inB, kOther, kAt, kEpoch, kSize, valOk, h3']
      have e1 : ¬ ot.toList = [] := fun h => h3' (e0.1 h)
      clear e0
      go_wp2_with fail
      go_ret
      exact ⟨ret_bool HV.out.symm, d0⟩
    · have h3' : ot.size = 0 := of_decide_eq_true h3
      have e1 : ot.toList = [] := e0.2 h3'
      clear e0
      by_cases h5 : ¬ at_ = 0
      · have HV : Hid (opOk ⟨6, nm, ot, at_, va, ep⟩ = false) := by simp [Hid, opOk, inB, kOther, kAt, kEpoch, kSize, valOk, h5]
        have hq : (at_ != 0) = true := by rw [bne_iff_ne]; exact h5
        go_wp2_with fail
        go_ret
        exact ⟨ret_bool HV.out.symm, d0⟩
      obtain rfl : at_ = 0 := by omega
      clear h5
      go_wp2_with fail
      refine (l1In_any 0 0 255 _).mono ?_
      rintro e w' ⟨rfl, rfl⟩
      go_wp2_with fail
      refine (l1In_any ep 0 1000 _).mono ?_
      rintro e w' ⟨rfl, rfl⟩
      cases h8 : (decide ((0 : Int) ≤ ep) && decide (ep ≤ 1000))
      · have HV : Hid (opOk ⟨6, nm, ot, 0, va, ep⟩ = false) := by simp [Hid, opOk, inB, kOther, kAt, kEpoch, kSize, valOk, h8]
        clear h8
        go_wp2_with fail
        go_ret
        exact ⟨ret_bool HV.out.symm, d0⟩
      have H8 : Hid _ := h8
      clear h8
      have HV : Hid (opOk ⟨6, nm, ot, 0, va, ep⟩ = decide (va = 0)) := by simp [Hid, opOk, inB, kOther, kAt, kEpoch, kSize, valOk, H1.out, h3', H8.out]
      go_wp2_with fail
      go_ret
      exact ⟨ret_bool HV.out.symm, d0⟩
  · cases h3 : decide (ot.size = 0)
    · have h3' : ¬ ot.size = 0 := of_decide_eq_false h3
      have HV : Hid (opOk ⟨7, nm, ot, at_, va, ep⟩ = false) := by simp [Hid, opOk, inB, kOther, kAt, kEpoch, kSize, valOk, h3']
      have e1 : ¬ ot.toList = [] := fun h => h3' (e0.1 h)
      clear e0
      go_wp2_with fail
      go_ret
      exact ⟨ret_bool HV.out.symm, d0⟩
    · have h3' : ot.size = 0 := of_decide_eq_true h3
      have e1 : ot.toList = [] := e0.2 h3'
      clear e0
      by_cases h5 : ¬ at_ = 0
      · have HV : Hid (opOk ⟨7, nm, ot, at_, va, ep⟩ = false) := by simp [Hid, opOk, inB, kOther, kAt, kEpoch, kSize, valOk, h5]
        have hq : (at_ != 0) = true := by rw [bne_iff_ne]; exact h5
        go_wp2_with fail
        go_ret
        exact ⟨ret_bool HV.out.symm, d0⟩
      obtain rfl : at_ = 0 := by omega
      clear h5
      go_wp2_with fail
      refine (l1In_any 0 0 255 _).mono ?_
      rintro e w' ⟨rfl, rfl⟩
      go_wp2_with fail
      refine (l1In_any ep 0 1000 _).mono ?_
      rintro e w' ⟨rfl, rfl⟩
      cases h8 : (decide ((0 : Int) ≤ ep) && decide (ep ≤ 1000))
      · have HV : Hid (opOk ⟨7, nm, ot, 0, va, ep⟩ = false) := by simp [Hid, opOk, inB, kOther, kAt, kEpoch, kSize, valOk, h8]
        clear h8
        go_wp2_with fail
        go_ret
        exact ⟨ret_bool HV.out.symm, d0⟩
      have H8 : Hid _ := h8
      clear h8
      have HV : Hid (opOk ⟨7, nm, ot, 0, va, ep⟩ = (decide ((1 : Int) ≤ va) && decide (va ≤ 16))) := by simp [Hid, opOk, inB, kOther, kAt, kEpoch, kSize, valOk, H1.out, h3', H8.out]
      go_wp2_with fail
      refine (l1In_any va 1 16 _).mono ?_
      rintro e w' ⟨rfl, rfl⟩
      go_wp2_with fail
      go_ret
      exact ⟨ret_bool HV.out.symm, d0⟩
  · cases h3 : decide (ot.size = 0)
    · have h3' : ¬ ot.size = 0 := of_decide_eq_false h3
      have HV : Hid (opOk ⟨8, nm, ot, at_, va, ep⟩ = false) := by simp [Hid, opOk, inB, kOther, kAt, kEpoch, kSize, valOk, h3']
      have e1 : ¬ ot.toList = [] := fun h => h3' (e0.1 h)
      clear e0
      go_wp2_with fail
      go_ret
      exact ⟨ret_bool HV.out.symm, d0⟩
    · have h3' : ot.size = 0 := of_decide_eq_true h3
      have e1 : ot.toList = [] := e0.2 h3'
      clear e0
      by_cases h5 : ¬ at_ = 0
      · have HV : Hid (opOk ⟨8, nm, ot, at_, va, ep⟩ = false) := by simp [Hid, opOk, inB, kOther, kAt, kEpoch, kSize, valOk, h5]
        have hq : (at_ != 0) = true := by rw [bne_iff_ne]; exact h5
        go_wp2_with fail
        go_ret
        exact ⟨ret_bool HV.out.symm, d0⟩
      obtain rfl : at_ = 0 := by omega
      clear h5
      go_wp2_with fail
      refine (l1In_any 0 0 255 _).mono ?_
      rintro e w' ⟨rfl, rfl⟩
      by_cases h7 : ¬ ep = 0
      · have HV : Hid (opOk ⟨8, nm, ot, 0, va, ep⟩ = false) := by simp [Hid, opOk, inB, kOther, kAt, kEpoch, kSize, valOk, h7]
        have hq : (ep != 0) = true := by rw [bne_iff_ne]; exact h7
        go_wp2_with fail
        go_ret
        exact ⟨ret_bool HV.out.symm, d0⟩
      obtain rfl : ep = 0 := by omega
      clear h7
      go_wp2_with fail
      refine (l1In_any 0 0 1000 _).mono ?_
      rintro e w' ⟨rfl, rfl⟩
      have HV : Hid (opOk ⟨8, nm, ot, 0, va, 0⟩ = decide (va = 0)) := by simp [Hid, opOk, inB, kOther, kAt, kEpoch, kSize, valOk, H1.out, h3']
      go_wp2_with fail
      go_ret
      exact ⟨ret_bool HV.out.symm, d0⟩
  · cases h3 : decide (ot.size = 0)
    · have h3' : ¬ ot.size = 0 := of_decide_eq_false h3
      have HV : Hid (opOk ⟨9, nm, ot, at_, va, ep⟩ = false) := by simp [Hid, opOk, inB, kOther, kAt, kEpoch, kSize, valOk, h3']
      have e1 : ¬ ot.toList = [] := fun h => h3' (e0.1 h)
      clear e0
      go_wp2_with fail
      go_ret
      exact ⟨ret_bool HV.out.symm, d0⟩
    · have h3' : ot.size = 0 := of_decide_eq_true h3
      have e1 : ot.toList = [] := e0.2 h3'
      clear e0
      go_wp2_with fail
      refine (l1In_any at_ 0 255 _).mono ?_
      rintro e w' ⟨rfl, rfl⟩
      cases h6 : (decide ((0 : Int) ≤ at_) && decide (at_ ≤ 255))
      · have HV : Hid (opOk ⟨9, nm, ot, at_, va, ep⟩ = false) := by simp [Hid, opOk, inB, kOther, kAt, kEpoch, kSize, valOk, h6]
        clear h6
        go_wp2_with fail
        go_ret
        exact ⟨ret_bool HV.out.symm, d0⟩
      have H6 : Hid _ := h6
      clear h6
      by_cases h7 : ¬ ep = 0
      · have HV : Hid (opOk ⟨9, nm, ot, at_, va, ep⟩ = false) := by simp [Hid, opOk, inB, kOther, kAt, kEpoch, kSize, valOk, h7]
        have hq : (ep != 0) = true := by rw [bne_iff_ne]; exact h7
        go_wp2_with fail
        go_ret
        exact ⟨ret_bool HV.out.symm, d0⟩
      obtain rfl : ep = 0 := by omega
      clear h7
      go_wp2_with fail
      refine (l1In_any 0 0 1000 _).mono ?_
      rintro e w' ⟨rfl, rfl⟩
      have HV : Hid (opOk ⟨9, nm, ot, at_, va, 0⟩ = decide (va = 0)) := by simp [Hid, opOk, inB, kOther, kAt, kEpoch, kSize, valOk, H1.out, h3', H6.out]
      go_wp2_with fail
      go_ret
      exact ⟨ret_bool HV.out.symm, d0⟩

def changes (o : Oq) : Bool := opOk o && decide (o.k ≠ 9)

theorem specChanges_any (k : Int) (nm ot : ByteArray) (at_ va ep : Int) (w : World) (hn : nm.size ≤ maxLen) (ho : ot.size ≤ maxLen) :
    Calls Try.prog 84 #[.agg #[.int .i64 k, .string nm, .string ot, .int .i64 at_, .int .i64 va, .int .i64 ep]] w fun e w' => e = .returned (.bool (changes ⟨k, nm, ot, at_, va, ep⟩)) ∧ Below w.heap.size w w' := by
  obtain ⟨W0, hW0, k0, d0, z0⟩ := box1 w #[.int .i64 k, .string nm, .string ot, .int .i64 at_, .int .i64 va, .int .i64 ep] 32
  have HW0 : Hid (W0 = _) := hW0
  clear hW0
  go_enter Try.func84, Try.ntmps84
  go_wp2_with fail
  rw [← HW0.out]
  clear HW0
  refine (specOpOk_any k nm ot at_ va ep _ hn ho).mono ?_
  rintro e w1 ⟨rfl, b1⟩
  replace k0 := (b1.block _ (by omega)).trans k0
  replace d0 := bw_call d0 b1
  have p0 := at_cell k0 0
  have HC : Hid (changes ⟨k, nm, ot, at_, va, ep⟩ = (opOk ⟨k, nm, ot, at_, va, ep⟩ && decide (k ≠ 9))) := rfl
  have hd : (k != 9) = decide (k ≠ 9) := by rw [Bool.eq_iff_iff]; simp
  generalize opOk ⟨k, nm, ot, at_, va, ep⟩ = q at HC ⊢
  clear k0 b1
  cases q
  · go_wp2_with fail
    go_ret
    exact ⟨ret_bool (by rw [HC.out]; rfl), d0⟩
  · go_wp2_with fail
    go_ret
    exact ⟨ret_bool (by rw [HC.out]; simp), d0⟩
end Go.Proofs.Ytghhphhnalfjaaa

