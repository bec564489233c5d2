/-
  Contracts and plain laws, one chapter behind the other.
-/
import Derived.WalkKit
import Derived.Below
import Derived.Laws.AppendOwn
import Derived.Deep.QuietTactic
import Derived.BigQuiet
import Derived.Test.YtkjdfgjmkomcgaaChecked
import Derived.Laws.OwnMore
import Derived.OwnWalk
import Derived.Laws.Bits128
import Derived.IntWalk
import Derived.WalkSpells
import Derived.Handy
import Derived.ProofKit
import Derived.OpenShut
import Derived.ShutString
import Derived.Lib.SmallJoins
import Derived.SliceStrings
import Derived.ChangeSlices
import Derived.Laws.MakeOwn
import Derived.Laws.IdiomStrings
import Derived.Deep.Slices
import Derived.Deep.Strs
import Derived.Deep.RegionLaw
namespace Go.Proofs.Ytkjdfgjmkomcgaa
open Go.RowKit


structure Upto (c : Nat) (w w' : World) : Prop where
  os : w'.os = w.os
  tape : w'.tape = w.tape
  output : w'.output = w.output
  size : w.heap.size ≤ w'.heap.size
  block : ∀ k, k < w.heap.size → k ≠ c → w'.heap[k]? = w.heap[k]?

theorem Upto.refl (c : Nat) (w : World) : Upto c w w := ⟨rfl, rfl, rfl, Nat.le_refl _, fun _ _ _ => rfl⟩

theorem Upto.trans {c : Nat} {a b d : World} (h : Upto c a b) (k : Upto c b d) : Upto c a d :=
  ⟨k.os.trans h.os, k.tape.trans h.tape, k.output.trans h.output, Nat.le_trans h.size k.size, fun i hi hc => (k.block i (Nat.lt_of_lt_of_le hi h.size) hc).trans (h.block i hi hc)⟩

theorem Upto.below {c : Nat} {a w w' : World} (h : Upto c a w) (k : Below w.heap.size w w') : Upto c a w' :=
  ⟨k.os.trans h.os, k.tape.trans h.tape, k.output.trans h.output, Nat.le_trans h.size k.size, fun i hi hc => (k.block i (Nat.lt_of_lt_of_le hi h.size)).trans (h.block i hi hc)⟩

theorem Upto.alloc {c : Nat} {a w : World} (h : Upto c a w) (o : Obj) : Upto c a (w.alloc o) := h.below ((Below.refl _ _).alloc (Nat.le_refl _) o)

theorem Upto.setCell {c : Nat} {a w : World} (h : Upto c a w) (p : Addr) (hp : p.block = c ∨ a.heap.size ≤ p.block) (u : Value) : Upto c a (w.setCell p u) :=
  ⟨h.os, h.tape, h.output, by simpa [World.setCell] using h.size, fun i hi hc => (Below.heap_setCell w p u i (by rcases hp with e | e <;> omega)).trans (h.block i hi hc)⟩

theorem Upto.toBelow {c B : Nat} {w w' : World} (h : Upto c w w') (hB : B ≤ w.heap.size) (hc : B ≤ c) : Below B w w' :=
  ⟨h.os, h.tape, h.output, h.size, fun k hk => h.block k (by omega) (by omega)⟩

theorem Upto.cell {c : Nat} {w w' : World} (h : Upto c w w') {p : Addr} (hp : p.block < w.heap.size) (hc : p.block ≠ c) : w'.cell? p = w.cell? p := World.cell?_of_block (w := w) (h.block p.block hp hc)

theorem Upto.frozen {c : Nat} {w w' : World} (h : Upto c w w') {p : Addr} (hp : p.block < w.heap.size) (hc : p.block ≠ c) : w'.frozen? p = w.frozen? p := World.frozen?_of_block (w := w) (h.block p.block hp hc)

theorem ownsRow_upto {w w' : World} {c base : Nat} {e : TypeId} {size : Nat} {v : Value} {n : Nat} {xs : List Value} (h : w.ownsRow base e size v n xs) (u : Upto c w w') (hb : c < base) : w'.ownsRow base e size v n xs := by
  obtain ⟨h1, h2⟩ := h
  refine ⟨h1, ?_⟩
  rcases h2 with h2 | ⟨g, cap, cur, hv, hg, hh, r⟩
  · exact Or.inl h2
  · have hlt : g < w.heap.size := by
      rcases Nat.lt_or_ge g w.heap.size with q | q
      · exact q
      · simp [Array.getElem?_eq_none q] at hh
    exact Or.inr ⟨g, cap, cur, hv, hg, by rw [u.block g hlt (by omega)]; exact hh, r⟩

/-- The worlds in which nothing that was there in w has turned: as a type, so that facts on cells are plain rules. -/
structure BelowOf (w : World) where
  w' : World
  h : Below w.heap.size w w'

theorem BelowOf.any (w : World) : Nonempty (BelowOf w) := ⟨⟨w, Below.refl _ _⟩⟩

theorem BelowOf.cell {w : World} {a : Addr} {v : Value} (h : w.cell? a = some v) (ha : a.block < w.heap.size) : ∀ p : BelowOf w, p.w'.cell? a = some v := fun p => (p.h.cell ha).trans h

theorem wp_region_of {P : Program} {id : Nat} {Q : Exit → Act → World → Prop} {a : Act} {w : World} {l : List Oper} (hm : P.follows .mixedOrders = true) (hB : Region.lexB .any l.toArray = true)
    (h : wpQuiet P l.toArray (fun w' => ∃ p : BelowOf w, w' = p.w') (fun a' => ∀ w', (∃ p : BelowOf w, w' = p.w') → Q .normal a' w') l a) : (Code.region id l.toArray true).wp P Q a w :=
  wp_region_quiet (C := fun w' => ∃ p : BelowOf w, w' = p.w') hm hB ⟨⟨{ w with drawn := w.drawn + 1 }, ⟨rfl, rfl, rfl, Nat.le_refl _, fun _ _ => rfl⟩⟩, rfl⟩ (by simpa using h)

theorem calls_of {P : Program} {f : FuncId} {args : Array Value} {w : World} {v : Value} {p : BelowOf w}
    (h : Calls P f args p.w' fun e w' => e = .returned v ∧ Below p.w'.heap.size p.w' w') : Calls P f args p.w' fun e w'' => e = .returned v ∧ ∃ q : BelowOf w, w'' = q.w' :=
  h.mono fun _ w'' ⟨he, hk⟩ => ⟨he, ⟨w'', p.h.trans (hk.mono p.h.size)⟩, rfl⟩

structure Cur (w : World) (c : Nat) (x : Option Addr) (len cap : Nat) : Prop where
  lt : c < w.heap.size
  hm : len ≤ maxLen
  b : w.cell? ⟨c, 0, none⟩ = some (.slice x len cap)
  ih : ∃ (i : Nat) (h : Int), i ≤ len ∧ w.cell? ⟨c, 1, none⟩ = some (.int .i64 i) ∧ w.cell? ⟨c, 2, none⟩ = some (.int .i64 h)
  f1 : w.frozen? ⟨c, 1, none⟩ = false
  f2 : w.frozen? ⟨c, 2, none⟩ = false
  src : ∀ j, j < len → ∃ b off z, x = some ⟨b, off, none⟩ ∧ b < c ∧ w.cell? ⟨b, off + j, none⟩ = some (.int .u8 z) ∧ 0 ≤ z ∧ z ≤ 255

/-- A cursor stays one where neither its block nor those below it turn. -/
theorem Cur.same {w w' : World} {c : Nat} {x : Option Addr} {len cap : Nat} (h : Cur w c x len cap) (k : Below (c + 1) w w') : Cur w' c x len cap := by
  obtain ⟨i, q, hi, h1, h2⟩ := h.ih
  have hc : ∀ o, w'.cell? ⟨c, o, none⟩ = w.cell? ⟨c, o, none⟩ := fun o => k.cell (p := ⟨c, o, none⟩) (Nat.lt_succ_self c)
  have hf : ∀ o, w'.frozen? ⟨c, o, none⟩ = w.frozen? ⟨c, o, none⟩ := fun o => k.frozen (p := ⟨c, o, none⟩) (Nat.lt_succ_self c)
  refine ⟨Nat.lt_of_lt_of_le h.lt k.size, h.hm, (hc 0).trans h.b, ⟨i, q, hi, (hc 1).trans h1, (hc 2).trans h2⟩, (hf 1).trans h.f1, (hf 2).trans h.f2, fun j hj => ?_⟩
  obtain ⟨b, off, z, e, hb, hz, h3, h4⟩ := h.src j hj
  exact ⟨b, off, z, e, hb, (k.cell (p := ⟨b, off + j, none⟩) (Nat.lt_succ_of_lt hb)).trans hz, h3, h4⟩

theorem Cur.alloc {w : World} {c : Nat} {x : Option Addr} {len cap : Nat} (h : Cur w c x len cap) (o : Obj) : Cur (w.alloc o) c x len cap :=
  h.same ((Below.refl _ _).alloc h.lt o)

theorem Cur.below {w w' : World} {c : Nat} {x : Option Addr} {len cap : Nat} (h : Cur w c x len cap) (k : Below w.heap.size w w') : Cur w' c x len cap :=
  h.same (k.mono h.lt)
end Go.Proofs.Ytkjdfgjmkomcgaa

namespace Go.Proofs.Ytkjdfgjmkomcgaa
open Go.RowKit

set_option linter.unusedVariables false

set_option maxRecDepth 100000

theorem Try.infoI64 : (Try.prog.info? 2).map (fun i => (i.zero, i.size, i.bytes)) = some (some (.int .i64 0), 1, 8) := by kernel_rfl

theorem owns_below {w w' : World} {base : Nat} {e : TypeId} {size : Nat} {v : Value} {n : Nat} {xs : List Value} (h : w.ownsRow base e size v n xs) (k : Below w.heap.size w w') : w'.ownsRow base e size v n xs := by
  obtain ⟨h1, h2⟩ := h
  refine ⟨h1, ?_⟩
  rcases h2 with h2 | ⟨g, cap, cur, hv, hg, hh, r⟩
  · exact Or.inl h2
  · have hlt : g < w.heap.size := by
      rcases Nat.lt_or_ge g w.heap.size with q | q
      · exact q
      · simp [Array.getElem?_eq_none q] at hh
    exact Or.inr ⟨g, cap, cur, hv, hg, by rw [k.block g hlt]; exact hh, r⟩

/-- A slice that is read: its length, and each of its cells, which lie below block B. -/
def Reads (B : Nat) (w : World) (v : Value) (xs : List Value) : Prop :=
  ∃ o cap, v = .slice o xs.length cap ∧ xs.length ≤ maxLen ∧ (∀ j u, xs[j]? = some u → ∃ g off, o = some ⟨g, off, none⟩ ∧ g < B ∧ w.cell? ⟨g, off + j, none⟩ = some u) ∧ xs.length ≤ cap

theorem Reads.below {B : Nat} {w w' : World} {v : Value} {xs : List Value} (h : Reads B w v xs) (k : Below B w w') : Reads B w' v xs := by
  obtain ⟨o, cap, hv, hm, hc, hr⟩ := h
  refine ⟨o, cap, hv, hm, fun j u hj => ?_, hr⟩
  obtain ⟨g, off, e, hg, hx⟩ := hc j u hj
  exact ⟨g, off, e, hg, (k.cell (p := ⟨g, off + j, none⟩) hg).trans hx⟩

theorem Reads.mono {B B' : Nat} {w : World} {v : Value} {xs : List Value} (h : Reads B w v xs) (k : B ≤ B') : Reads B' w v xs := by
  obtain ⟨o, cap, hv, hm, hc, hr⟩ := h
  refine ⟨o, cap, hv, hm, fun j u hj => ?_, hr⟩
  obtain ⟨g, off, e, hg, hx⟩ := hc j u hj
  exact ⟨g, off, e, Nat.lt_of_lt_of_le hg k, hx⟩

theorem Reads.of_own {w : World} {base n : Nat} {e : TypeId} {v : Value} {xs : List Value} (h : w.ownsRow base e 1 v n xs) : Reads w.heap.size w v xs := by
  have hn : xs.length = n := by simpa using h.1
  subst hn
  rcases h.2 with ⟨rfl, hn⟩ | ⟨g, cap, cur, rfl, hg, hh, hnc, hcm, hcs, htk⟩
  · have : xs = [] := List.length_eq_zero_iff.1 hn
    subst this
    exact ⟨none, 0, rfl, Nat.zero_le _, fun j u hj => absurd hj (by simp), Nat.le_refl _⟩
  · refine ⟨some ⟨g, 0, none⟩, cap, rfl, Nat.le_trans hnc hcm, fun j u hj => ⟨g, 0, rfl, ?_, ?_⟩, hnc⟩
    · rcases Nat.lt_or_ge g w.heap.size with q | q
      · exact q
      · simp [Array.getElem?_eq_none q] at hh
    · have hj' := (List.getElem?_eq_some_iff.1 hj).1
      rw [Nat.zero_add, h.cellAt j (by omega), hj]

/-- A block of cells that lies open. -/
theorem at_cell {W : World} {b : Nat} {cs : Array Value} {t : TypeId} (h : W.heap[b]? = some (.cells cs t (0, 0))) (i : Nat) : W.cell? ⟨b, i, none⟩ = cs[i]? := by simp [World.cell?, h]

theorem at_open {W : World} {b : Nat} {cs : Array Value} {t : TypeId} (h : W.heap[b]? = some (.cells cs t (0, 0))) (i : Nat) : W.frozen? ⟨b, i, none⟩ = false := by simp [World.frozen?, h]

theorem owns_mono {w : World} {base base' : Nat} {e : TypeId} {size : Nat} {v : Value} {n : Nat} {xs : List Value} (h : w.ownsRow base e size v n xs) (k : base' ≤ base) : w.ownsRow base' e size v n xs := by
  obtain ⟨h1, h2⟩ := h
  refine ⟨h1, ?_⟩
  rcases h2 with h2 | ⟨g, cap, cur, hv, hg, r⟩
  · exact Or.inl h2
  · exact Or.inr ⟨g, cap, cur, hv, by omega, r⟩

/-- What lies below stays so behind a block that is laid, a cell of a new block that is written, a callee that writes nothing old. -/
theorem bw_alloc {w W : World} {o : Obj} (h : Below w.heap.size w W) : Below w.heap.size w (W.alloc o) := h.alloc h.size o

theorem bw_set {w W : World} (h : Below w.heap.size w W) {p : Addr} (hp : w.heap.size ≤ p.block) (v : Value) : Below w.heap.size w (W.setCell p v) := h.setCell hp v

theorem bw_call {w W W' : World} (h : Below w.heap.size w W) (b : Below W.heap.size W W') : Below w.heap.size w W' := h.trans (b.mono h.size)
end Go.Proofs.Ytkjdfgjmkomcgaa

namespace Go.Proofs.Ytkjdfgjmkomcgaa
open Go.RowKit

set_option linter.unusedVariables false

set_option maxRecDepth 100000


/-- The bytes of an argument, below block c. -/
def Src (w : World) (c : Nat) (x : Option Addr) (len : Nat) : Prop :=
  len ≤ maxLen ∧ ∀ j, j < len → ∃ b off z, x = some ⟨b, off, none⟩ ∧ b < c ∧ w.cell? ⟨b, off + j, none⟩ = some (.int .u8 z) ∧ 0 ≤ z ∧ z ≤ 255

theorem Src.below {w w' : World} {c : Nat} {x : Option Addr} {len : Nat} (h : Src w c x len) (k : Below c w w') : Src w' c x len :=
  ⟨h.1, fun j hj => by obtain ⟨b, off, z, e, hb, hz, r⟩ := h.2 j hj; exact ⟨b, off, z, e, hb, (k.cell (p := ⟨b, off + j, none⟩) hb).trans hz, r⟩⟩

theorem Src.mono {w : World} {c d : Nat} {x : Option Addr} {len : Nat} (h : Src w c x len) (k : c ≤ d) : Src w d x len :=
  ⟨h.1, fun j hj => by obtain ⟨b, off, z, e, hb, r⟩ := h.2 j hj; exact ⟨b, off, z, e, Nat.lt_of_lt_of_le hb k, r⟩⟩
end Go.Proofs.Ytkjdfgjmkomcgaa

namespace Go.Proofs.Ytkjdfgjmkomcgaa
open Go.ChangeShapes Go.WideShapes Go.ChangeAt Go.RowKit Go.Joins

open Go.ChangeMaps (open_string)

set_option linter.unusedVariables false

set_option maxRecDepth 100000

/-- A row of integers, read out of whatever it lies in. -/
theorem row_i64 {H : Type} {enc : TypeId × Value → H} {W : World} {n : Nat} {v : Value} {y : DataW H × List MemPlace} (h : DataW.trod enc Try.prog W 0 (fun _ => true) true n 24 [v] = some y) :
    ∃ xs : List Int, Reads W.heap.size W v (xs.map (Value.int .i64)) ∧ ∀ x ∈ xs, (Lit.int .i64 x).wf = true := by
  rcases open_ints Try.underlying24 Try.underlying2 (by kernel_rfl) h with ⟨hcs, _⟩ | ⟨x, len, cap, zs, hcs, _, hl, hm, hz, _, hcell, hwz⟩
  · simp at hcs
    subst hcs
    exact ⟨[], ⟨none, 0, rfl, Nat.zero_le _, fun j u hj => absurd hj (by simp), Nat.le_refl _⟩, fun x hx => absurd hx (by simp)⟩
  · simp at hcs
    subst hcs
    have hzz : zs.length = cap := by simpa using hz
    refine ⟨zs.take len, ⟨some x, cap, by simp; omega, by simp; omega, fun j u hj => ?_, by simp; omega⟩, fun y hy => hwz y (List.mem_of_mem_take hy)⟩
    have hjl : j < len := by have := (List.getElem?_eq_some_iff.1 hj).1; simp at this; omega
    have hc := hcell j (by omega)
    obtain ⟨b, off, spot⟩ := x
    have hspot : spot = none := by simpa [Addr.add] using World.cell?_spot (hcell 0 (by omega))
    subst hspot
    have e : (⟨b, off, none⟩ : Addr).add j = ⟨b, off + j, none⟩ := by unfold Addr.add; split <;> simp_all
    rw [e] at hc
    have hb : b < W.heap.size := by
      rcases Nat.lt_or_ge b W.heap.size with q | q
      · exact q
      · simp [World.cell?, Array.getElem?_eq_none q] at hc
    refine ⟨b, off, rfl, hb, ?_⟩
    rw [hc, ← hj, List.getElem?_map, List.getElem?_take_of_lt hjl, List.getD_eq_getElem?_getD, List.getElem?_eq_getElem (by omega)]
    rfl
end Go.Proofs.Ytkjdfgjmkomcgaa

namespace Go.Proofs.Ytkjdfgjmkomcgaa
open Go.RowKit

set_option linter.unusedVariables false

set_option maxRecDepth 100000

theorem Reads.len {B : Nat} {w : World} {v : Value} {xs : List Value} (h : Reads B w v xs) : xs.length ≤ maxLen := by
  obtain ⟨_, _, _, h, _⟩ := h; exact h

theorem Reads.none (B : Nat) (w : World) : Reads B w (.slice none 0 0) [] := ⟨Option.none, 0, rfl, Nat.zero_le _, fun j u hj => by simp at hj, Nat.le_refl _⟩

/-- All blocks that were there are as they were, but for those of S. -/
structure Only (S : Nat → Prop) (w w' : World) : Prop where
  os : w'.os = w.os
  tape : w'.tape = w.tape
  output : w'.output = w.output
  size : w.heap.size ≤ w'.heap.size
  block : ∀ k, k < w.heap.size → ¬ S k → w'.heap[k]? = w.heap[k]?

theorem Only.refl (S : Nat → Prop) (w : World) : Only S w w := ⟨rfl, rfl, rfl, Nat.le_refl _, fun _ _ _ => rfl⟩

theorem Only.trans {S : Nat → Prop} {a b d : World} (h : Only S a b) (k : Only S b d) : Only S a d :=
  ⟨k.os.trans h.os, k.tape.trans h.tape, k.output.trans h.output, Nat.le_trans h.size k.size, fun i hi hc => (k.block i (Nat.lt_of_lt_of_le hi h.size) hc).trans (h.block i hi hc)⟩

theorem Only.below {S : Nat → Prop} {a w w' : World} (h : Only S a w) (k : Below w.heap.size w w') : Only S a w' :=
  ⟨k.os.trans h.os, k.tape.trans h.tape, k.output.trans h.output, Nat.le_trans h.size k.size, fun i hi hc => (k.block i (Nat.lt_of_lt_of_le hi h.size)).trans (h.block i hi hc)⟩

theorem Only.setCell {S : Nat → Prop} {a w : World} (h : Only S a w) (p : Addr) (hp : S p.block) (u : Value) : Only S a (w.setCell p u) :=
  ⟨h.os, h.tape, h.output, by simpa [World.setCell] using h.size, fun i hi hc => (Below.heap_setCell w p u i (fun e => hc (by rw [e]; exact hp))).trans (h.block i hi hc)⟩

theorem Only.toBelow {S : Nat → Prop} {B : Nat} {w w' : World} (h : Only S w w') (hB : B ≤ w.heap.size) (hS : ∀ k, S k → B ≤ k) : Below B w w' :=
  ⟨h.os, h.tape, h.output, h.size, fun k hk => h.block k (by omega) (fun hs => by have := hS k hs; omega)⟩

theorem Only.mono {S S' : Nat → Prop} {w w' : World} (h : Only S w w') (hS : ∀ k, S k → S' k) : Only S' w w' := ⟨h.os, h.tape, h.output, h.size, fun k hk hn => h.block k hk (fun hs => hn (hS k hs))⟩

theorem heap_lt {w : World} {b : Nat} {o : Obj} (h : w.heap[b]? = some o) : b < w.heap.size := (Array.getElem?_eq_some_iff.1 h).1

/-- All blocks that were there are as they were, but for those from lo up to hi. -/
structure Rng (lo hi : Nat) (w w' : World) : Prop where
  os : w'.os = w.os
  tape : w'.tape = w.tape
  output : w'.output = w.output
  size : w.heap.size ≤ w'.heap.size
  block : ∀ k, k < w.heap.size → (k < lo ∨ hi ≤ k) → w'.heap[k]? = w.heap[k]?

theorem Rng.refl (lo hi : Nat) (w : World) : Rng lo hi w w := ⟨rfl, rfl, rfl, Nat.le_refl _, fun _ _ _ => rfl⟩

theorem Rng.trans {lo hi : Nat} {a b d : World} (h : Rng lo hi a b) (k : Rng lo hi b d) : Rng lo hi a d :=
  ⟨k.os.trans h.os, k.tape.trans h.tape, k.output.trans h.output, Nat.le_trans h.size k.size, fun i hi hc => (k.block i (Nat.lt_of_lt_of_le hi h.size) hc).trans (h.block i hi hc)⟩

theorem Rng.toBelow {lo hi B : Nat} {w w' : World} (h : Rng lo hi w w') (hB : B ≤ w.heap.size) (hl : B ≤ lo) : Below B w w' :=
  ⟨h.os, h.tape, h.output, h.size, fun k hk => h.block k (by omega) (.inl (by omega))⟩

/-- Boxes laid one behind the other. -/
theorem box1 (w : World) (a : Array Value) (T : TypeId) : ∃ W0, W0 = w.alloc (.cells a T) ∧ W0.heap[w.heap.size]? = some (.cells a T (0, 0)) ∧ Below w.heap.size w W0 ∧ W0.heap.size = w.heap.size + 1 :=
  ⟨_, rfl, heap_alloc_new w _, bw_alloc (Below.refl _ _), by simp⟩

theorem box2 (w : World) (a b : Array Value) (T U : TypeId) : ∃ W0, W0 = (w.alloc (.cells a T)).alloc (.cells b U) ∧ W0.heap[w.heap.size]? = some (.cells a T (0, 0)) ∧ W0.heap[w.heap.size + 1]? = some (.cells b U (0, 0)) ∧ Below w.heap.size w W0 ∧ W0.heap.size = w.heap.size + 1 + 1 := by
  obtain ⟨W1, h1, k1, d1, s1⟩ := box1 w a T
  have k2 := heap_alloc_new W1 (.cells b U)
  rw [s1] at k2
  rw [← h1]
  exact ⟨_, rfl, (Below.heap_alloc _ _ _ (by omega)).trans k1, k2, bw_alloc d1, by simp [s1]⟩

theorem box3 (w : World) (a b c : Array Value) (T U V : TypeId) : ∃ W0, W0 = ((w.alloc (.cells a T)).alloc (.cells b U)).alloc (.cells c V) ∧ W0.heap[w.heap.size]? = some (.cells a T (0, 0)) ∧ W0.heap[w.heap.size + 1]? = some (.cells b U (0, 0)) ∧ W0.heap[w.heap.size + 1 + 1]? = some (.cells c V (0, 0)) ∧ Below w.heap.size w W0 ∧ W0.heap.size = w.heap.size + 1 + 1 + 1 := by
  obtain ⟨W1, h1, k1, k1', d1, s1⟩ := box2 w a b T U
  have k2 := heap_alloc_new W1 (.cells c V)
  rw [s1] at k2
  rw [← h1]
  exact ⟨_, rfl, (Below.heap_alloc _ _ _ (by omega)).trans k1, (Below.heap_alloc _ _ _ (by omega)).trans k1', k2, bw_alloc d1, by simp [s1]⟩
end Go.Proofs.Ytkjdfgjmkomcgaa

namespace Go.Proofs.Ytkjdfgjmkomcgaa
open Go.RowKit

set_option linter.unusedVariables false

set_option maxRecDepth 100000


/-- A slice that is read, each element by its k cells. -/
def ReadsR {α : Type} (k : Nat) (cs : α → List Value) (B : Nat) (w : World) (v : Value) (xs : List α) : Prop :=
  ∃ o cap, v = .slice o xs.length cap ∧ xs.length ≤ maxLen ∧ (∀ i x, xs[i]? = some x → ∃ g off, o = some ⟨g, off, none⟩ ∧ g < B ∧ ∀ j u, (cs x)[j]? = some u → w.cell? ⟨g, off + i * k + j, none⟩ = some u) ∧ xs.length ≤ cap

theorem ReadsR.below {α : Type} {k : Nat} {cs : α → List Value} {B : Nat} {w w' : World} {v : Value} {xs : List α} (h : ReadsR k cs B w v xs) (b : Below B w w') : ReadsR k cs B w' v xs := by
  obtain ⟨o, cap, hv, hm, hc, hr⟩ := h
  refine ⟨o, cap, hv, hm, fun i x hi => ?_, hr⟩
  obtain ⟨g, off, e, hg, hx⟩ := hc i x hi
  exact ⟨g, off, e, hg, fun j u hj => (b.cell (p := ⟨g, off + i * k + j, none⟩) hg).trans (hx j u hj)⟩

theorem ReadsR.mono {α : Type} {k : Nat} {cs : α → List Value} {B B' : Nat} {w : World} {v : Value} {xs : List α} (h : ReadsR k cs B w v xs) (b : B ≤ B') : ReadsR k cs B' w v xs := by
  obtain ⟨o, cap, hv, hm, hc, hr⟩ := h
  refine ⟨o, cap, hv, hm, fun i x hi => ?_, hr⟩
  obtain ⟨g, off, e, hg, hx⟩ := hc i x hi
  exact ⟨g, off, e, Nat.lt_of_lt_of_le hg b, hx⟩

theorem ReadsR.nil {α : Type} (k : Nat) (cs : α → List Value) (B : Nat) (w : World) : ReadsR k cs B w (.slice none 0 0) [] := ⟨Option.none, 0, rfl, Nat.zero_le _, fun j u hj => by simp at hj, Nat.le_refl _⟩

theorem ReadsR.form {α : Type} {k : Nat} {cs : α → List Value} {B : Nat} {w : World} {v : Value} {xs : List α} (h : ReadsR k cs B w v xs) : ∃ o cap, v = .slice o xs.length cap := by
  obtain ⟨o, cap, hv, _⟩ := h
  exact ⟨o, cap, hv⟩

theorem ReadsR.of {α : Type} {k : Nat} {cs : α → List Value} {B : Nat} {W : World} {v : Value} {xs : List α} (h : ReadsR k cs B W v xs) (y : B ≤ W.heap.size) (p : BelowOf W) : ReadsR k cs p.w'.heap.size p.w' v xs := ((h.mono y).below p.h).mono p.h.size

theorem flat_length {α : Type} {k : Nat} {cs : α → List Value} (hk : ∀ x, (cs x).length = k) (xs : List α) : (xs.flatMap cs).length = xs.length * k := by
  induction xs with
  | nil => simp
  | cons x xs ih => rw [List.flatMap_cons, List.length_append, hk, ih, List.length_cons, Nat.add_mul, Nat.one_mul, Nat.add_comm]

theorem flat_get {α : Type} {k : Nat} {cs : α → List Value} (hk : ∀ x, (cs x).length = k) (xs : List α) (i j : Nat) (x : α) (hi : xs[i]? = some x) (hj : j < k) : (xs.flatMap cs)[i * k + j]? = (cs x)[j]? := by
  induction xs generalizing i with
  | nil => simp at hi
  | cons y ys ih =>
    rw [List.flatMap_cons]
    match i, hi with
    | 0, hi =>
      simp at hi
      subst hi
      rw [Nat.zero_mul, Nat.zero_add, List.getElem?_append_left (by rw [hk]; exact hj)]
    | i + 1, hi =>
      rw [List.getElem?_append_right (by rw [hk, Nat.add_mul]; omega), hk, Nat.add_mul, Nat.one_mul, show i * k + k + j - k = i * k + j by omega]
      exact ih i (by simpa using hi)

theorem flat_set {α : Type} {k : Nat} {cs : α → List Value} (hk : ∀ x, (cs x).length = k) (xs : List α) (i j : Nat) (x y : α) (u : Value) (hi : xs[i]? = some x) (hj : j < k) (hy : (cs x).set j u = cs y) : (xs.flatMap cs).set (i * k + j) u = (xs.set i y).flatMap cs := by
  induction xs generalizing i with
  | nil => simp at hi
  | cons z zs ih =>
    rw [List.flatMap_cons]
    match i, hi with
    | 0, hi =>
      simp at hi
      subst hi
      rw [Nat.zero_mul, Nat.zero_add, List.set_append_left _ _ (by rw [hk]; exact hj), hy, List.set_cons_zero, List.flatMap_cons]
    | i + 1, hi =>
      rw [List.set_append_right _ _ (by rw [hk, Nat.add_mul]; omega), hk, Nat.add_mul, Nat.one_mul, show i * k + k + j - k = i * k + j by omega, ih i (by simpa using hi), List.set_cons_succ, List.flatMap_cons]

theorem ReadsR.of_own {α : Type} {k : Nat} {cs : α → List Value} (hk : ∀ x, (cs x).length = k) {w : World} {base : Nat} {e : TypeId} {v : Value} {xs : List α} (h : w.ownsRow base e k v xs.length (xs.flatMap cs)) : ReadsR k cs w.heap.size w v xs := by
  rcases h.2 with ⟨rfl, hn⟩ | ⟨g, cap, cur, rfl, hg, hh, hnc, hcm, hcs, htk⟩
  · have : xs = [] := List.length_eq_zero_iff.1 hn
    subst this
    exact ReadsR.nil _ _ _ _
  · refine ⟨some ⟨g, 0, none⟩, cap, rfl, Nat.le_trans hnc hcm, fun i x hi => ⟨g, 0, rfl, heap_lt hh, fun j u hj => ?_⟩, hnc⟩
    have hi' := (List.getElem?_eq_some_iff.1 hi).1
    have hj' : j < k := by have := (List.getElem?_eq_some_iff.1 hj).1; rw [hk] at this; exact this
    have hlt : i * k + j < xs.length * k := by
      have h1 : (i + 1) * k ≤ xs.length * k := Nat.mul_le_mul_right _ hi'
      rw [Nat.add_mul, Nat.one_mul] at h1
      omega
    rw [Nat.zero_add, h.cellAt (i * k + j) hlt, flat_get hk xs i j x hi hj', hj]

/-- One element's cell is written. -/
theorem own_put {α : Type} {k : Nat} {cs : α → List Value} (hk : ∀ x, (cs x).length = k) {w : World} {base g n cap : Nat} {e : TypeId} {xs : List α} (h : w.ownsRow base e k (.slice (some ⟨g, 0, none⟩) n cap) xs.length (xs.flatMap cs)) (i j : Nat) (x y : α) (u : Value) (hi : xs[i]? = some x) (hj : j < k) (hy : (cs x).set j u = cs y) :
    (w.setCell ⟨g, i * k + j, none⟩ u).ownsRow base e k (.slice (some ⟨g, 0, none⟩) n cap) (xs.set i y).length ((xs.set i y).flatMap cs) := by
  have hn : n = xs.length := by
    rcases h.2 with ⟨h', _⟩ | ⟨g', cap', cur, h', _⟩
    · cases h'
    · simp only [Value.slice.injEq] at h'
      exact h'.2.1
  subst hn
  have := (h.stored (i * k + j) u).1
  rw [flat_set hk xs i j x y u hi hj hy] at this
  rwa [List.length_set]

theorem own_cell {α : Type} {k : Nat} {cs : α → List Value} (hk : ∀ x, (cs x).length = k) {w : World} {base g n cap : Nat} {e : TypeId} {xs : List α} (h : w.ownsRow base e k (.slice (some ⟨g, 0, none⟩) n cap) xs.length (xs.flatMap cs)) (i j : Nat) (x : α) (hi : xs[i]? = some x) (hj : j < k) :
    w.cell? ⟨g, i * k + j, none⟩ = (cs x)[j]? ∧ w.frozen? ⟨g, i * k + j, none⟩ = false := by
  have hn : n = xs.length := by
    rcases h.2 with ⟨h', _⟩ | ⟨g', cap', cur, h', _⟩
    · cases h'
    · simp only [Value.slice.injEq] at h'
      exact h'.2.1
  subst hn
  have hi' := (List.getElem?_eq_some_iff.1 hi).1
  have h1 : (i + 1) * k ≤ xs.length * k := Nat.mul_le_mul_right _ hi'
  rw [Nat.add_mul, Nat.one_mul] at h1
  exact ⟨(h.cellAt (i * k + j) (by omega)).trans (flat_get hk xs i j x hi hj), h.frozenAt _⟩

/-- make([]T, n): n times the same cells. -/
theorem toList_made {α : Type} {k : Nat} {cs : α → List Value} (hk : ∀ x, (cs x).length = k) (hpos : 0 < k) (x : α) (z : Array Value) (hz : z.toList = cs x) (n : Nat) : (madeCells z (n * k)).toList = (List.replicate n x).flatMap cs := by
  have hs : z.size = k := by rw [← Array.length_toList, hz, hk]
  apply List.ext_getElem?
  intro j
  by_cases hj : j < n * k
  · have hd : j / k < n := Nat.div_lt_of_lt_mul (by rw [Nat.mul_comm]; exact hj)
    have hr : j % k < k := Nat.mod_lt _ hpos
    have he : j / k * k + j % k = j := by rw [Nat.mul_comm]; exact Nat.div_add_mod j k
    have h1 := flat_get hk (List.replicate n x) (j / k) (j % k) x (by simp [hd]) hr
    rw [he] at h1
    rw [h1, ← hz]
    have hr2 : j % k < z.size := by omega
    rw [Array.getElem?_toList, Array.getElem?_toList, Array.getElem?_eq_getElem hr2, madeCells, Array.getElem?_map, Array.getElem?_range, if_pos hj]
    simp [hs, getElem!_pos z (j % k) hr2]
  · have h2 := flat_length hk (List.replicate n x)
    rw [List.length_replicate] at h2
    rw [List.getElem?_eq_none (by rw [Array.length_toList, size_madeCells]; omega), List.getElem?_eq_none (by omega)]
end Go.Proofs.Ytkjdfgjmkomcgaa

namespace Go.Proofs.Ytkjdfgjmkomcgaa.Nums

def lowB (l : List UInt8) : Bool := l.all fun c => decide (97 ≤ (c.toNat : Int)) && decide ((c.toNat : Int) ≤ 122)

def nameB (l : List UInt8) : Bool := lowB l && (decide (1 ≤ (l.length : Int)) && decide ((l.length : Int) ≤ 4))
end Go.Proofs.Ytkjdfgjmkomcgaa.Nums

namespace Go.Proofs.Ytkjdfgjmkomcgaa
open Go.RowKit

set_option linter.unusedVariables false

set_option maxRecDepth 100000


theorem ret_bool {a b : Bool} (h : a = b) : Ending.returned (.bool a) = .returned (.bool b) := by rw [h]
end Go.Proofs.Ytkjdfgjmkomcgaa

namespace Go.Proofs.Ytkjdfgjmkomcgaa
open Go.RowKit

set_option linter.unusedVariables false

set_option maxRecDepth 100000

theorem take_more {α : Type} (xs ys : List α) (k : Nat) (h1 : k < xs.length) (h2 : k < ys.length) (h : xs.take k = ys.take k) (e : xs[k] = ys[k]) : xs.take (k + 1) = ys.take (k + 1) := by
  rw [List.take_succ_eq_append_getElem h1, List.take_succ_eq_append_getElem h2, h, e]

theorem ne_at {α : Type} (xs ys : List α) (k : Nat) (h1 : k < xs.length) (h2 : k < ys.length) (e : xs[k] ≠ ys[k]) : ¬ xs = ys := by
  intro h; subst h; exact e rfl

theorem all_taken {α : Type} (xs ys : List α) (k : Nat) (h1 : ¬ k < xs.length) (h2 : xs.length = ys.length) (h : xs.take k = ys.take k) : xs = ys := by
  rw [List.take_of_length_le (by omega), List.take_of_length_le (by omega)] at h; exact h
end Go.Proofs.Ytkjdfgjmkomcgaa

namespace Go.Proofs.Ytkjdfgjmkomcgaa
open Go.RowKit

set_option linter.unusedVariables false

set_option maxRecDepth 100000


/-- A run's cells. -/
def runC (r : Int × Int × Int) : List Value := [.int .i64 r.1, .int .i64 r.2.1, .int .i64 r.2.2]

theorem runC_len (r : Int × Int × Int) : (runC r).length = 3 := rfl
end Go.Proofs.Ytkjdfgjmkomcgaa

namespace Go.Proofs.Ytkjdfgjmkomcgaa
set_option linter.unusedVariables false

set_option maxRecDepth 100000


/-- A number of 64 bits; runs of such. -/
def I64 (x : Int) : Prop := -9223372036854775808 ≤ x ∧ x ≤ 9223372036854775807

/-- Is the run right, behind places that end at e, behind a run that is pv? -/
def runOk (e : Int) (pv : Option (Int × Int × Int)) (r : Int × Int × Int) : Bool :=
  decide (e ≤ r.1) && (decide (1 ≤ r.2.1) && decide (r.2.1 ≤ 16)) && decide (r.1 ≤ 16 - r.2.1) && (decide (0 ≤ r.2.2) && decide (r.2.2 ≤ 24 - r.2.1)) &&
    !(match pv with | none => false | some q => decide (r.1 = e) && decide (r.2.2 = q.2.2 + q.2.1))

def okFrom : Int → Option (Int × Int × Int) → List (Int × Int × Int) → Bool
  | _, _, [] => true
  | e, pv, r :: rs => runOk e pv r && okFrom (r.1 + r.2.1) (some r) rs

def mapOk (rs : List (Int × Int × Int)) : Bool := okFrom 0 none rs && decide (rs.length ≤ 16)

/-- n pages one behind the other are laid from place f on. -/
def lay (l : List Int) (f : Nat) (p : Int) : Nat → List Int
  | 0 => l
  | n + 1 => (lay l f p n).set (f + n) (p + n)

def layRun (l : List Int) (r : Int × Int × Int) : List Int := lay l r.1.toNat r.2.2 r.2.1.toNat

def none16 : List Int := List.replicate 16 (-1)

/-- For each place its page; -1: none. -/
def pages (rs : List (Int × Int × Int)) : List Int := rs.foldl layRun none16
end Go.Proofs.Ytkjdfgjmkomcgaa

namespace Go.Proofs.Ytkjdfgjmkomcgaa
open Go.ChangeShapes Go.WideShapes Go.ChangeAt Go.RowKit Go.Deep

set_option linter.unusedVariables false

set_option maxRecDepth 100000


theorem lit_i64 {a : Int} (h : (Lit.int .i64 a).wf = true) : -9223372036854775808 ≤ a ∧ a ≤ 9223372036854775807 := by simpa [Lit.wf, IntKind.min, IntKind.max, IntKind.signed, IntKind.bits] using h
end Go.Proofs.Ytkjdfgjmkomcgaa

namespace Go.Proofs.Ytkjdfgjmkomcgaa
open Go.RowKit

set_option linter.unusedVariables false

set_option maxRecDepth 100000


/-- The last run ends at the size or ahead of it. -/
def endsBy (rs : List (Int × Int × Int)) (sz : Int) : Bool := match rs.getLast? with
  | none => true
  | some r => decide (r.1 + r.2.1 ≤ sz)

def bookOk (nm : ByteArray) (sz : Int) (rs : List (Int × Int × Int)) (ep : Int) : Bool :=
  Nums.nameB nm.data.toList && (decide (1 ≤ sz) && decide (sz ≤ 16)) && (decide (0 ≤ ep) && decide (ep ≤ 1000)) && mapOk rs && endsBy rs sz
end Go.Proofs.Ytkjdfgjmkomcgaa

namespace Go.Proofs.Ytkjdfgjmkomcgaa
open Go.RowKit

set_option linter.unusedVariables false

set_option maxRecDepth 100000


/-- A book: its cells, and the runs that its map reads. -/
structure Bk where
  nm : ByteArray
  sz : Int
  m : Value
  rs : List (Int × Int × Int)
  fx : Bool
  ep : Int

def bookC (b : Bk) : List Value := [.string b.nm, .int .i64 b.sz, b.m, .bool b.fx, .int .i64 b.ep]

theorem bookC_len (b : Bk) : (bookC b).length = 5 := rfl

/-- A row of books that is read, the maps too. -/
structure ReadsB (B : Nat) (w : World) (v : Value) (bs : List Bk) : Prop where
  row : ReadsR 5 bookC B w v bs
  maps : ∀ b ∈ bs, ReadsR 3 runC B w b.m b.rs

theorem ReadsB.below {B : Nat} {w w' : World} {v : Value} {bs : List Bk} (h : ReadsB B w v bs) (k : Below B w w') : ReadsB B w' v bs := ⟨h.row.below k, fun b hb => (h.maps b hb).below k⟩

theorem ReadsB.mono {B B' : Nat} {w : World} {v : Value} {bs : List Bk} (h : ReadsB B w v bs) (k : B ≤ B') : ReadsB B' w v bs := ⟨h.row.mono k, fun b hb => (h.maps b hb).mono k⟩
end Go.Proofs.Ytkjdfgjmkomcgaa

namespace Go.Proofs.Ytkjdfgjmkomcgaa
open Go.ChangeShapes Go.WideShapes Go.ChangeAt Go.RowKit Go.Deep Go.Joins

set_option linter.unusedVariables false

set_option maxRecDepth 100000


theorem list5 {α : Type} {cs : List α} (h : cs.length = 5) : ∃ c0 c1 c2 c3 c4, cs = [c0, c1, c2, c3, c4] := by
  match cs, h with
  | [c0, c1, c2, c3, c4], _ => exact ⟨c0, c1, c2, c3, c4, rfl⟩
end Go.Proofs.Ytkjdfgjmkomcgaa

namespace Go.Proofs.Ytkjdfgjmkomcgaa
open Go.RowKit

set_option linter.unusedVariables false

set_option maxRecDepth 100000


theorem szInts_any (o : Option Addr) (n cap : Nat) (left : Int) (w : World) (h0 : 0 ≤ left) (hl : left ≤ 1048576) (hm : n ≤ maxLen) :
    Calls Try.prog 85 #[.slice o n cap, .int .i64 left] w fun e w' => e = .returned (.int .i64 (if left < n then -1 else left - n)) ∧ w' = w := by
  unfold maxLen at hm
  by_cases hbig : left < (n : Int)
  · rw [if_pos hbig]
    have h1 : left - (n : Int) < 0 := by omega
    go_enter Try.func85, Try.ntmps85
    go_wp2_with fail
    go_ret
    exact ⟨rfl, rfl⟩
  · rw [if_neg hbig]
    have h1 : 0 ≤ left - (n : Int) := by omega
    go_enter Try.func85, Try.ntmps85
    go_wp2_with fail
    go_ret
    exact ⟨rfl, rfl⟩

theorem copied_setI (ps : List Int) (xs : List Value) (j : Nat) (hj : j < ps.length) (hx : xs.length = ps.length) :
    ((ps.take j).map (Value.int .i64) ++ xs.drop j).set j (.int .i64 ps[j]) = (ps.take (j + 1)).map (Value.int .i64) ++ xs.drop (j + 1) := by
  have hl : ((ps.take j).map (Value.int .i64)).length = j := by simp; omega
  rw [List.set_append_right _ _ (by omega), hl, Nat.sub_self, List.drop_eq_getElem_cons (show j < xs.length by omega), List.set_cons_zero, List.take_succ_eq_append_getElem hj, List.map_append, List.append_assoc]
  rfl

/-- make([]int64, n): a row of noughts, at the end of memory. -/
theorem made_ints (n : Nat) (hn : n ≤ 1048576) : ∃ M : Array Value, M.toList = (List.replicate n (0 : Int)).map (Value.int .i64) ∧ (∀ W : World, (Instr.makeSlice 24 (.int .i64 (n : Int)) (.int .i64 (n : Int))).run Try.prog W = .ok (.slice (some ⟨W.heap.size, 0, none⟩) n n) (W.alloc (.cells M 2))) ∧
    ∀ (W : World) (base : Nat), base ≤ W.heap.size → (W.alloc (.cells M 2)).ownsRow base 2 1 (.slice (some ⟨W.heap.size, 0, none⟩) n n) n ((List.replicate n (0 : Int)).map (Value.int .i64)) := by
  obtain ⟨i0, hi, hz0, hz1, hz2⟩ := info_parts Try.infoI64
  have e : (madeCells (Value.int .i64 0).cells n).toList = (List.replicate n (0 : Int)).map (Value.int .i64) := by
    show (madeCells #[.int .i64 0] n).toList = _
    rw [toList_madeCells_one]
    simp
  refine ⟨madeCells (Value.int .i64 0).cells n, e, fun W => ?_, fun W base hb => ?_⟩
  · have h := run_make (P := Try.prog) W 24 2 i0 (.int .i64 0) Try.underlying24 hi hz0 .i64 .i64 (n : Int) (n : Int) (by omega) (by omega) (by rw [hz2]; omega) (by omega)
    rw [hz1, Nat.mul_one, Int.toNat_natCast] at h
    simpa using h
  · have h := World.ownsRow_lit (base := base) (size := 1) (e := 2) W (madeCells (Value.int .i64 0).cells n) n hb (by unfold maxLen; omega) (by rw [size_madeCells]; omega)
    rwa [e] at h

set_option maxHeartbeats 1600000 in
theorem toInts_any (v : Value) (ps : List Int) (w : World) (hn : ps.length ≤ 1048576) (hp : Reads w.heap.size w v (ps.map (Value.int .i64))) :
    Calls Try.prog 86 #[v] w fun e w' => e = .returned (.slice (some ⟨w.heap.size, 0, none⟩) ps.length ps.length) ∧ w'.ownsRow w.heap.size 2 1 (.slice (some ⟨w.heap.size, 0, none⟩) ps.length ps.length) ps.length (ps.map (Value.int .i64)) ∧ Below w.heap.size w w' := by
  obtain ⟨o, cap, rfl, hm, hcells, -⟩ := hp
  have HC : Hid (∀ j u, (ps.map (Value.int .i64))[j]? = some u → ∃ g off, o = some ⟨g, off, none⟩ ∧ g < w.heap.size ∧ w.cell? ⟨g, off + j, none⟩ = some u) := hcells
  have hlen : (ps.map (Value.int .i64)).length = ps.length := by simp
  rw [hlen]
  clear hcells hlen hm
  obtain ⟨M, hM, hmk, hown⟩ := made_ints ps.length hn
  have own0 := hown w w.heap.size (Nat.le_refl _)
  have bd0 : Below w.heap.size w (w.alloc (.cells M 2)) := (Below.refl _ _).alloc (Nat.le_refl _) _
  clear hown hM
  go_enter Try.func86, Try.ntmps86
  go_wp2_with fail
  generalize w.alloc (.cells M 2) = W0 at own0 bd0 ⊢
  generalize hxs : (List.replicate ps.length (0 : Int)).map (Value.int .i64) = xs at own0
  have hMl : xs.length = ps.length := by rw [← hxs]; simp
  clear hmk hxs
  go_loopw [4] (fun i wr => ∃ j : Nat, j ≤ ps.length ∧ i = .int .i64 j ∧ wr.ownsRow w.heap.size 2 1 (.slice (some ⟨w.heap.size, 0, none⟩) ps.length ps.length) ps.length ((ps.take j).map (Value.int .i64) ++ xs.drop j) ∧ Below w.heap.size w wr) (fun i _ => ps.length - (intOf i).toNat)
  case atStart => exact ⟨0, Nat.zero_le _, rfl, by simpa using own0, bd0⟩
  case round =>
    obtain ⟨j, hj, rfl, own, hb⟩ := hrel
    by_cases hlt : j < ps.length
    · obtain ⟨g, off, rfl, hg, hx⟩ := HC.out j (.int .i64 ps[j]) (by simp [hlt])
      have hx1 : wr.cell? ⟨g, off + j, none⟩ = some (.int .i64 ps[j]) := (hb.cell (p := ⟨g, off + j, none⟩) hg).trans hx
      have hc0 := own.cellAt j (by omega)
      have hf := own.frozenAt j
      have hst := (own.stored j (.int .i64 ps[j])).1
      rw [copied_setI ps xs j hlt hMl] at hst
      obtain ⟨u0, hu0⟩ : ∃ u0, ((ps.take j).map (Value.int .i64) ++ xs.drop j)[j]? = some u0 := ⟨_, List.getElem?_eq_getElem (by simp; omega)⟩
      have hc : wr.cell? ⟨w.heap.size, j, none⟩ = some u0 := hc0.trans hu0
      have hb2 : Below w.heap.size w (wr.setCell ⟨w.heap.size, j, none⟩ (.int .i64 ps[j])) := hb.setCell (p := ⟨w.heap.size, j, none⟩) (Nat.le_refl _) _
      have HST : Hid _ := And.intro hst hb2
      clear hst hb2 hc0 hu0 own hx
      generalize ps[j] = x at hx1 HST
      go_wp2_with fail
      go_roundw
      case rel => exact ⟨j + 1, by omega, by go_num, HST.out.1, HST.out.2⟩
      case measure => simp [intOf]; omega
    · obtain rfl : j = ps.length := by omega
      rw [List.take_length, List.drop_of_length_le (by omega), List.append_nil] at own
      go_wp2_with fail
      go_ret
      exact ⟨rfl, own, hb⟩

theorem int_ne {x y : Int} (h : (x != y) = true) : x ≠ y := by simpa using h

theorem int_same {x y : Int} (h : (x != y) = false) : x = y := by simpa using h

set_option maxHeartbeats 800000 in
theorem eqInts_any (v1 v2 : Value) (xs ys : List Int) (w : World) (h1 : Reads w.heap.size w v1 (xs.map (Value.int .i64))) (h2 : Reads w.heap.size w v2 (ys.map (Value.int .i64))) :
    Calls Try.prog 89 #[v1, v2] w fun e w' => e = .returned (.bool (decide (xs = ys))) ∧ Below w.heap.size w w' := by
  obtain ⟨o1, cap1, rfl, m1, c1, -⟩ := h1
  obtain ⟨o2, cap2, rfl, m2, c2, -⟩ := h2
  simp only [List.length_map] at m1 m2 c1 c2 ⊢
  by_cases hlen : xs.length = ys.length
  · rw [← hlen]
    have C1 : Hid (∀ j u, (xs.map (Value.int .i64))[j]? = some u → ∃ g off, o1 = some ⟨g, off, none⟩ ∧ g < w.heap.size ∧ w.cell? ⟨g, off + j, none⟩ = some u) := c1
    have C2 : Hid (∀ j u, (ys.map (Value.int .i64))[j]? = some u → ∃ g off, o2 = some ⟨g, off, none⟩ ∧ g < w.heap.size ∧ w.cell? ⟨g, off + j, none⟩ = some u) := c2
    have HL : Hid (xs.length = ys.length) := hlen
    have hle : ys.length ≤ xs.length := by omega
    have hge : xs.length ≤ ys.length := by omega
    unfold maxLen at m1
    clear c1 c2 m2 hlen
    go_enter Try.func89, Try.ntmps89
    go_wp2
    go_loopw [5] (fun i wr => ∃ k : Nat, k ≤ xs.length ∧ i = .int .i64 k ∧ xs.take k = ys.take k ∧ Below w.heap.size w wr) (fun i _ => xs.length - (intOf i).toNat)
    case atStart => exact ⟨0, Nat.zero_le _, rfl, rfl, Below.refl _ _⟩
    case round =>
      obtain ⟨k, hk, rfl, htk, hb⟩ := hrel
      have HT : Hid (xs.take k = ys.take k) := htk
      clear htk
      by_cases hlt : k < xs.length
      · have hlt2 : k < ys.length := by omega
        obtain ⟨g1, of1, rfl, q1, cc1⟩ := C1.out k (.int .i64 xs[k]) (by simp [hlt])
        obtain ⟨g2, of2, rfl, q2, cc2⟩ := C2.out k (.int .i64 ys[k]) (by simp [hlt2])
        generalize hx : xs[k] = x at cc1
        generalize hy : ys[k] = y at cc2
        have HX : Hid (xs[k] = x) := hx
        have HY : Hid (ys[k] = y) := hy
        clear hx hy C1 C2
        have d1 := (hb.cell (p := ⟨g1, of1 + k, none⟩) q1).trans cc1
        have d2 := (hb.cell (p := ⟨g2, of2 + k, none⟩) q2).trans cc2
        clear cc1 cc2
        go_wp2
        go_quiet (fail)
        go_wp2
        · have hne : x ≠ y := int_ne (by assumption)
          rw [← HX.out, ← HY.out] at hne
          go_ret
          exact ⟨ret_bool (by simp [ne_at xs ys k hlt hlt2 hne]), ⟨hb.os, hb.tape, hb.output, hb.size, hb.block⟩⟩
        · have he : x = y := int_same (by assumption)
          rw [← HX.out, ← HY.out] at he
          go_roundw
          case rel => exact ⟨k + 1, by omega, by go_num, take_more xs ys k hlt hlt2 HT.out he, ⟨hb.os, hb.tape, hb.output, hb.size, hb.block⟩⟩
          case measure => simp [intOf]; omega
      · go_wp2
        go_ret
        exact ⟨ret_bool (by simp [all_taken xs ys k hlt HL.out HT.out]), hb⟩
  · have hn : ((xs.length : Int) != (ys.length : Int)) = true := by rw [bne_iff_ne]; omega
    have HX : Hid (decide (xs = ys) = false) := by rw [Hid, decide_eq_false_iff_not]; intro e; rw [e] at hlen; exact hlen rfl
    unfold maxLen at m1 m2
    clear hlen c1 c2
    go_enter Try.func89, Try.ntmps89
    go_wp2
    go_ret
    exact ⟨ret_bool HX.out.symm, Below.refl _ _⟩
end Go.Proofs.Ytkjdfgjmkomcgaa

namespace Go.Proofs.Ytkjdfgjmkomcgaa
open Go.RowKit

set_option linter.unusedVariables false

set_option maxRecDepth 100000


def intC (x : Int) : List Value := [.int .i64 x]

theorem intC_len (x : Int) : (intC x).length = 1 := rfl

theorem flat_intC (xs : List Int) : xs.flatMap intC = xs.map (Value.int .i64) := by
  induction xs with
  | nil => rfl
  | cons x t ih => rw [List.flatMap_cons, ih]; rfl

theorem readsK_of {B : Nat} {w : World} {v : Value} {xs : List Int} (h : Reads B w v (xs.map (Value.int .i64))) : ReadsR 1 intC B w v xs := by
  obtain ⟨o, cap, hv, hm, hc, hr⟩ := h
  rw [List.length_map] at hv hm hr
  refine ⟨o, cap, hv, hm, fun i x hi => ?_, hr⟩
  obtain ⟨g, off, e, hg, hx⟩ := hc i (.int .i64 x) (by rw [List.getElem?_map, hi]; rfl)
  refine ⟨g, off, e, hg, fun j u hj => ?_⟩
  match j, hj with
  | 0, hj => simp only [intC, List.getElem?_cons_zero, Option.some.injEq] at hj; subst hj; simpa using hx

theorem readsK_to {B : Nat} {w : World} {v : Value} {xs : List Int} (h : ReadsR 1 intC B w v xs) : Reads B w v (xs.map (Value.int .i64)) := by
  obtain ⟨o, cap, hv, hm, hc, hr⟩ := h
  refine ⟨o, cap, by rw [List.length_map]; exact hv, by rw [List.length_map]; exact hm, fun i u hi => ?_, by rw [List.length_map]; exact hr⟩
  rw [List.getElem?_map] at hi
  cases hx : xs[i]? with
  | none => rw [hx] at hi; cases hi
  | some x =>
    rw [hx] at hi
    simp only [Option.map_some, Option.some.injEq] at hi
    subst hi
    obtain ⟨g, off, e, hg, hc'⟩ := hc i x hx
    exact ⟨g, off, e, hg, by simpa using hc' 0 _ rfl⟩

/-- A plain: its cells, and the values that it reads. -/
structure Pk where
  nm : ByteArray
  sz : Int
  m : Value
  rs : List Int
  fx : Bool
  ep : Int

def pkC (b : Pk) : List Value := [.string b.nm, .int .i64 b.sz, b.m, .bool b.fx, .int .i64 b.ep]

theorem pkC_len (b : Pk) : (pkC b).length = 5 := rfl

/-- A row of plains that is read, the values too. -/
structure ReadsK (B : Nat) (w : World) (v : Value) (bs : List Pk) : Prop where
  row : ReadsR 5 pkC B w v bs
  maps : ∀ b ∈ bs, ReadsR 1 intC B w b.m b.rs

theorem ReadsK.below {B : Nat} {w w' : World} {v : Value} {bs : List Pk} (h : ReadsK B w v bs) (k : Below B w w') : ReadsK B w' v bs := ⟨h.row.below k, fun b hb => (h.maps b hb).below k⟩

theorem ReadsK.mono {B B' : Nat} {w : World} {v : Value} {bs : List Pk} (h : ReadsK B w v bs) (k : B ≤ B') : ReadsK B' w v bs := ⟨h.row.mono k, fun b hb => (h.maps b hb).mono k⟩

theorem toIntsK_any (v : Value) (ps : List Int) (w : World) (hn : ps.length ≤ 1048576) (hp : ReadsR 1 intC w.heap.size w v ps) :
    Calls Try.prog 86 #[v] w fun e w' => e = .returned (.slice (some ⟨w.heap.size, 0, none⟩) ps.length ps.length) ∧ w'.ownsRow w.heap.size 2 1 (.slice (some ⟨w.heap.size, 0, none⟩) ps.length ps.length) ps.length (ps.flatMap intC) ∧ Below w.heap.size w w' := by
  rw [flat_intC]
  exact toInts_any v ps w hn (readsK_to hp)

theorem eqIntsK_any (v1 v2 : Value) (xs ys : List Int) (w : World) (h1 : ReadsR 1 intC w.heap.size w v1 xs) (h2 : ReadsR 1 intC w.heap.size w v2 ys) :
    Calls Try.prog 89 #[v1, v2] w fun e w' => e = .returned (.bool (decide (xs = ys))) ∧ Below w.heap.size w w' := eqInts_any v1 v2 xs ys w (readsK_to h1) (readsK_to h2)
end Go.Proofs.Ytkjdfgjmkomcgaa

namespace Go.Proofs.Ytkjdfgjmkomcgaa
open Go.ChangeShapes Go.WideShapes Go.ChangeAt Go.RowKit Go.Deep Go.Joins

set_option linter.unusedVariables false

set_option maxRecDepth 100000


/-- A book's five cells, read out of whatever they lie in. -/
theorem plain_cells {H : Type} {enc : TypeId × Value → H} {W : World} {n : Nat} {cs : List Value} {y : DataW H × List MemPlace} (h : DataW.trod enc Try.prog W 0 (fun _ => true) true n 77 cs = some y) :
    ∃ b : Pk, cs = pkC b ∧ ReadsR 1 intC W.heap.size W b.m b.rs ∧ b.nm.size ≤ maxLen ∧ I64 b.sz ∧ I64 b.ep := by
  have ce : Try.prog.cellsOf 77 = 5 := by kernel_rfl
  have c1 : Try.prog.cellsOf 2 = 1 := by kernel_rfl
  have c2 : Try.prog.cellsOf 9 = 1 := by kernel_rfl
  have c3 : Try.prog.cellsOf 4 = 1 := by kernel_rfl
  have c4 : Try.prog.cellsOf 24 = 1 := by kernel_rfl
  obtain ⟨xs, m, _, -, hl, hlen, hf⟩ := DataW.trod_struct Try.underlying77 h
  obtain ⟨v0, v1, v2, v3, v4, rfl⟩ := list5 (hl.trans ce)
  obtain ⟨y0, y1, y2, y3, y4, rfl⟩ := list5 (show xs.length = 5 from hlen)
  have t0 := hf 0 _ rfl
  have t1 := hf 1 _ rfl
  have t2 := hf 2 _ rfl
  have t3 := hf 3 _ rfl
  have t4 := hf 4 _ rfl
  simp [c1, c2, c3, c4] at t0 t1 t2 t3 t4
  obtain ⟨nm, e0, _, z0⟩ := DataW.trod_string Try.underlying9 t0
  obtain ⟨sz, e1, _, z1⟩ := DataW.trod_int Try.underlying2 t1
  obtain ⟨rs, r2, _⟩ := row_i64 t2
  replace r2 := readsK_of r2
  obtain ⟨fx, e3, _⟩ := DataW.trod_bool Try.underlying4 t3
  obtain ⟨ep, e4, _, z4⟩ := DataW.trod_int Try.underlying2 t4
  simp at e0 e1 e3 e4
  subst e0 e1 e3 e4
  exact ⟨⟨nm, sz, v2, rs, fx, ep⟩, rfl, r2, z0, lit_i64 z1, lit_i64 z4⟩

theorem open_plains {H : Type} {enc : TypeId × Value → H} {W : World} {base : Nat} {v : Value} {d : DataW H} {p : List MemPlace} (hv : Value.okWide Try.prog W .any base 48 v) (h : DataW.Trod enc Try.prog W 0 (fun _ => true) true 48 v d p) :
    ∃ bs : List Pk, ReadsK W.heap.size W v bs ∧ ∀ b ∈ bs, b.nm.size ≤ maxLen := by
  obtain ⟨o, len, cap, rfl⟩ := okWide_slice Try.underlying48 hv
  obtain ⟨n, hn⟩ := h
  rcases open_slice Try.underlying48 hn with ⟨hcs, _⟩ | ⟨a, len', cap', m, k, D, Pl, hcs, _, hl, hm, hmm, _, hx⟩
  · simp [Value.cells] at hcs
    obtain ⟨rfl, rfl, rfl⟩ := hcs
    exact ⟨[], ⟨ReadsR.nil _ _ _ _, fun b hb => by cases hb⟩, fun b hb => by cases hb⟩
  · simp [Value.cells] at hcs
    obtain ⟨rfl, rfl, rfl⟩ := hcs
    have hlm : len ≤ m := by rw [hmm]; split <;> omega
    have ce : Try.prog.cellsOf 77 = 5 := by kernel_rfl
    have each : ∀ i, i < len → ∃ b : Pk, (∀ j u, (pkC b)[j]? = some u → W.cell? (a.add (i * 5 + j)) = some u) ∧ ReadsR 1 intC W.heap.size W b.m b.rs ∧ b.nm.size ≤ maxLen := by
      intro i hi
      obtain ⟨cs', h1, h2⟩ := hx i (by omega)
      rw [ce] at h1
      obtain ⟨_, hlen, hcell⟩ := World.cells?_some h1
      obtain ⟨b, rfl, hr, hnn, -, -⟩ := plain_cells h2
      refine ⟨b, fun j u hj => ?_, hr, hnn⟩
      have hj5 : j < 5 := by have := (List.getElem?_eq_some_iff.1 hj).1; rwa [pkC_len] at this
      have q := hcell j hj5
      rw [add_add] at q
      rw [q]
      exact hj
    have hin : Inhabited Pk := ⟨⟨ByteArray.empty, 0, .slice none 0 0, [], false, 0⟩⟩
    obtain ⟨r, hr⟩ := choose_lt each
    have hmem : ∀ x ∈ (List.range len).map r, ReadsR 1 intC W.heap.size W x.m x.rs ∧ x.nm.size ≤ maxLen := fun x hx => by
      obtain ⟨i, hi, rfl⟩ := List.mem_map.1 hx
      exact (hr i (List.mem_range.1 hi)).2
    refine ⟨(List.range len).map r, ⟨⟨some a, cap, by simp, by simp; omega, fun i x hi => ?_, by simp; omega⟩, fun b hb => (hmem b hb).1⟩, fun b hb => (hmem b hb).2⟩
    have hil : i < len := by have := (List.getElem?_eq_some_iff.1 hi).1; simpa using this
    have ex : r i = x := by
      rw [List.getElem?_map, List.getElem?_range hil] at hi
      simpa using hi
    have h0 := (hr i hil).1
    rw [ex] at h0
    obtain ⟨b, off, spot⟩ := a
    have hspot : spot = none := by simpa [Addr.add] using World.cell?_spot ((hr 0 (by omega)).1 0 _ rfl)
    subst hspot
    have e : ∀ z, (⟨b, off, none⟩ : Addr).add z = ⟨b, off + z, none⟩ := fun z => by unfold Addr.add; split <;> simp_all
    have hb : b < W.heap.size := by
      have q := h0 0 _ rfl
      rw [e] at q
      rcases Nat.lt_or_ge b W.heap.size with g | g
      · exact g
      · simp [World.cell?, Array.getElem?_eq_none g] at q
    refine ⟨b, off, rfl, hb, fun j u hj => ?_⟩
    have q := h0 j u hj
    rw [e] at q
    rw [Nat.add_assoc]
    exact q
end Go.Proofs.Ytkjdfgjmkomcgaa

namespace Go.Proofs.Ytkjdfgjmkomcgaa
open Go.RowKit

set_option linter.unusedVariables false

set_option maxRecDepth 100000


/-- A cell of a block is written. -/
theorem set_at {W : World} {b : Nat} {cs : Array Value} {t : TypeId} (h : W.heap[b]? = some (.cells cs t (0, 0))) (i : Nat) (x : Value) : (W.setCell ⟨b, i, none⟩ x).heap[b]? = some (.cells (cs.setIfInBounds i x) t (0, 0)) := by
  obtain ⟨hlt, hk⟩ := Array.getElem?_eq_some_iff.1 h
  show (W.heap.modify b _)[b]? = _
  rw [Array.getElem?_eq_getElem (by rw [Array.size_modify]; exact hlt), Array.getElem_modify_self, hk]
  rfl
end Go.Proofs.Ytkjdfgjmkomcgaa

namespace Go.Proofs.Ytkjdfgjmkomcgaa
open Go.RowKit

set_option linter.unusedVariables false

set_option maxRecDepth 100000


/-- A book's five cells, written. -/
theorem set_five {W : World} {b : Nat} {x0 x1 x2 x3 x4 : Value} {t : TypeId} (h : W.heap[b]? = some (.cells #[x0, x1, x2, x3, x4] t (0, 0))) (y0 y1 y2 y3 y4 : Value) :
    (((((W.setCell ⟨b, 0, none⟩ y0).setCell ⟨b, 1, none⟩ y1).setCell ⟨b, 2, none⟩ y2).setCell ⟨b, 3, none⟩ y3).setCell ⟨b, 4, none⟩ y4).heap[b]? = some (.cells #[y0, y1, y2, y3, y4] t (0, 0)) :=
  set_at (set_at (set_at (set_at (set_at h 0 y0) 1 y1) 2 y2) 3 y3) 4 y4

theorem bw_five {w W : World} {b : Nat} (h : Below w.heap.size w W) (hb : w.heap.size ≤ b) (y0 y1 y2 y3 y4 : Value) :
    Below w.heap.size w (((((W.setCell ⟨b, 0, none⟩ y0).setCell ⟨b, 1, none⟩ y1).setCell ⟨b, 2, none⟩ y2).setCell ⟨b, 3, none⟩ y3).setCell ⟨b, 4, none⟩ y4) :=
  bw_set (bw_set (bw_set (bw_set (bw_set h hb _) hb _) hb _) hb _) hb _
end Go.Proofs.Ytkjdfgjmkomcgaa

