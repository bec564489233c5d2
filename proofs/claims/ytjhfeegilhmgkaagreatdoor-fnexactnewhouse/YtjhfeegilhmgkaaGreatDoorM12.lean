/-
  Contracts and plain laws, one chapter behind the other.
-/
import Derived.Lib.Strings
import Derived.Shelf.LaysM
import Derived.Shelf.Strconv.Clone
import Derived.Deep.RegionLaw
import Derived.Lib.LazyBuf
import Derived.Deep.DeepCutAuto
import Derived.Lib.Slices
import Derived.Lib.Walk
import Derived.Lib.Bytealg
import Derived.RangeFuncBox
import Derived.Deep.RegionHeld3
import Derived.Lib.AppendZeros
import Derived.Laws.Cover1
import Derived.Laws.StructEq
import Derived.BigQuiet
import Derived.Deep.Cut
import Derived.Test.YtjhfeegilhmgkaaGreatDoorM01
import Derived.Test.YtjhfeegilhmgkaaGreatDoorM02
import Derived.Test.YtjhfeegilhmgkaaGreatDoorM03
import Derived.Test.YtjhfeegilhmgkaaGreatDoorM05
import Derived.Test.YtjhfeegilhmgkaaGreatDoorM06
import Derived.Test.YtjhfeegilhmgkaaGreatDoorM07
import Derived.Test.YtjhfeegilhmgkaaGreatDoorM08
import Derived.Test.YtjhfeegilhmgkaaGreatDoorM09
import Derived.Test.YtjhfeegilhmgkaaGreatDoorM10
import Derived.Test.YtjhfeegilhmgkaaGreatDoorM11
namespace Go.Proofs.YtjhfeegilhmgkaaGreatDoor
open Go.RowKit

set_option linter.unusedVariables false

set_option maxRecDepth 100000

/-- A box of a shelf is written: a shelf of one's own stays. -/
theorem OwnS.answer {base c : Nat} {W W' : World} {v1 v2 vb : Value} {cs ps : List Int} {bks : List Bk} {xs : Array Value} (h : OwnS base W v1 v2 vb cs ps bks) (k : W.heap[c]? = some (.cells xs 30 (0, 0))) (u : Upto c W W') : OwnS base W' v1 v2 vb cs ps bks := by
  have st : ∀ (e : TypeId) (kk n : Nat) (v : Value) (xs : List Value), 30 ≠ e → W.ownsRow base e kk v n xs → W'.ownsRow base e kk v n xs := fun e kk n v xs he hr => own_rng_not hr (fun q hq hqv => u.block q hq (fun hx => own_not_box hr k he (by rw [← hx]; exact hqv)))
  exact ⟨⟨st _ _ _ _ _ (by decide) h.p.c, st _ _ _ _ _ (by decide) h.p.p, h.p.apart⟩, ⟨st _ _ _ _ _ (by decide) h.b.row, fun b hb => st _ _ _ _ _ (by decide) (h.b.maps b hb)⟩, h.a⟩
end Go.Proofs.YtjhfeegilhmgkaaGreatDoor

namespace Go.Proofs.YtjhfeegilhmgkaaGreatDoor
open Go.RowKit

set_option linter.unusedVariables false

set_option maxRecDepth 100000


/-- A row of books that is not empty: where it lies. -/
theorem OwnB.at {base : Nat} {w : World} {vb : Value} {bks : List Bk} (h : OwnB base w vb bks) (i : Nat) (hi : i < bks.length) : ∃ g cap, vb = .slice (some ⟨g, 0, none⟩) bks.length cap := by
  obtain ⟨n, hn1⟩ : ∃ n, bks.length = n + 1 := ⟨bks.length - 1, by omega⟩
  have hr := h.row
  rw [hn1] at hr ⊢
  exact owns_form hr
end Go.Proofs.YtjhfeegilhmgkaaGreatDoor

namespace Go.Proofs.YtjhfeegilhmgkaaGreatDoor
open Go.RowKit

set_option linter.unusedVariables false

set_option maxRecDepth 100000


/-- A box of a pool is written: a pool of one's own stays. -/
theorem OwnP.answer {base c : Nat} {W W' : World} {v1 v2 : Value} {cs ps : List Int} {xs : Array Value} (h : OwnP base W v1 v2 cs ps) (k : W.heap[c]? = some (.cells xs 27 (0, 0))) (u : Upto c W W') : OwnP base W' v1 v2 cs ps := by
  have st : ∀ (v : Value) (n : Nat) (xs : List Value), W.ownsRow base 2 1 v n xs → W'.ownsRow base 2 1 v n xs := fun v n xs hr => own_rng_not hr (fun q hq hqv => u.block q hq (fun hx => own_not_box hr k (by decide) (by rw [← hx]; exact hqv)))
  exact ⟨st _ _ _ h.c, st _ _ _ h.p, h.apart⟩
end Go.Proofs.YtjhfeegilhmgkaaGreatDoor

namespace Go.Proofs.YtjhfeegilhmgkaaGreatDoor
open Go.RowKit

set_option linter.unusedVariables false

set_option maxRecDepth 100000

def ChPart (ad : Nat → Addr) (base : Nat) (X : Sf × (Int × Int)) (u1 u2 u3 : Value) (told : Int) (err : Value) (w' : World) : Prop :=
  (X.2.1 = 0 ∧ told = X.2.2 ∧ err = .nilIface ∧ ∃ ms : List Bk, OwnS base w' u1 u2 u3 X.1.cs X.1.ps ms ∧ ms.map Bk.pb = X.1.bs) ∨ (X.2.1 = 9 ∧ err = refErr ad 9)

theorem ChPart.own {ad : Nat → Addr} {base c : Nat} {X : Sf × (Int × Int)} {u1 u2 u3 : Value} {told : Int} {err : Value} {W W' : World} {xs : Array Value} (h : ChPart ad base X u1 u2 u3 told err W) (k : W.heap[c]? = some (.cells xs 30 (0, 0))) (u : Upto c W W') : ChPart ad base X u1 u2 u3 told err W' := by
  rcases h with ⟨h0, h1, h2, ms, ow, hm⟩ | h
  · exact .inl ⟨h0, h1, h2, ms, OwnS.answer ow k u, hm⟩
  · exact .inr h

theorem ChPart.mono {ad : Nat → Addr} {base base' : Nat} {X : Sf × (Int × Int)} {u1 u2 u3 : Value} {told : Int} {err : Value} {W : World} (h : ChPart ad base X u1 u2 u3 told err W) (hb : base' ≤ base) : ChPart ad base' X u1 u2 u3 told err W := by
  rcases h with ⟨h0, h1, h2, ms, ow, hm⟩ | h
  · exact .inl ⟨h0, h1, h2, ms, ow.mono hb, hm⟩
  · exact .inr h
end Go.Proofs.YtjhfeegilhmgkaaGreatDoor

namespace Go.Proofs.YtjhfeegilhmgkaaGreatDoor
open Go.RowKit

set_option linter.unusedVariables false

set_option maxRecDepth 100000

set_option linter.unusedSimpArgs false


theorem Tryz.infoEntG : (Tryz.prog.info? 39).map (fun i => (i.zero, i.size, i.bytes)) = some (some (.agg #[.int .i64 0, .int .i64 0, .int .i64 0, .int .i64 0, .string ByteArray.empty, .string ByteArray.empty, .int .i64 0, .int .i64 0, .int .i64 0]), 9, 88) := by kernel_rfl

/-- These blocks are as they were. -/
def KeepAt (T : Nat → Prop) (W X : World) : Prop := ∀ k, T k → X.heap[k]? = W.heap[k]?

theorem KeepAt.set {T : Nat → Prop} {W X : World} {b : Nat} (h : KeepAt T W X) (hb : ¬ T b) (i : Nat) (v : Value) : KeepAt T W (X.setCell ⟨b, i, none⟩ v) := fun k hk => (Below.heap_setCell X ⟨b, i, none⟩ v k (fun e => hb ((show k = b from e) ▸ hk))).trans (h k hk)

theorem onlyU {w w' : World} {c : Nat} (u : Upto c w w') : Only (fun k => k = c) w w' := ⟨u.os, u.tape, u.output, u.size, fun k hk hn => u.block k hk hn⟩

/-- The answer's box is written. -/
theorem grown_ans {W V : World} {R : Nat} {z0 z1 z2 z3 z4 z5 z6 z7 z8 : Value} (kR : W.heap[R]? = some (.cells #[z0, z1, z2, z3, z4, z5, z6, z7, z8] 35 (0, 0))) (x0 x1 v2 x3 v4 v5 v6 v7 v8 : Value)
    (hV : V = ((((((((W.setCell ⟨R, 0, none⟩ x0).setCell ⟨R, 1, none⟩ x1).setCell ⟨R, 2, none⟩ v2).setCell ⟨R, 3, none⟩ x3).setCell ⟨R, 4, none⟩ v4).setCell ⟨R, 5, none⟩ v5).setCell ⟨R, 6, none⟩ v6).setCell ⟨R, 7, none⟩ v7).setCell ⟨R, 8, none⟩ v8) :
    V.heap[R]? = some (.cells #[x0, x1, v2, x3, v4, v5, v6, v7, v8] 35 (0, 0)) ∧ Upto R W V := by
  subst hV
  have uV : Upto R W _ := (((((((((Upto.refl R W).setCell ⟨R, 0, none⟩ (.inl rfl) x0).setCell ⟨R, 1, none⟩ (.inl rfl) x1).setCell ⟨R, 2, none⟩ (.inl rfl) v2).setCell ⟨R, 3, none⟩ (.inl rfl) x3).setCell ⟨R, 4, none⟩ (.inl rfl) v4).setCell ⟨R, 5, none⟩ (.inl rfl) v5).setCell ⟨R, 6, none⟩ (.inl rfl) v6).setCell ⟨R, 7, none⟩ (.inl rfl) v7).setCell ⟨R, 8, none⟩ (.inl rfl) v8
  exact ⟨nine_at kR _ _ _ _ _ _ _ _ _, uV⟩
end Go.Proofs.YtjhfeegilhmgkaaGreatDoor

namespace Go.Proofs.YtjhfeegilhmgkaaGreatDoor
open Go.RowKit

set_option linter.unusedVariables false

set_option maxRecDepth 100000

set_option linter.unusedSimpArgs false


theorem newPool_ok (n : Int) : (newPool n).2 = inB n 1 24 := by
  unfold newPool
  by_cases h : 1 ≤ n ∧ n ≤ 24
  · rw [if_pos h, (inB_iff _ _ _).2 h]
  · rw [if_neg h]
    symm
    rw [Bool.eq_false_iff]
    exact fun h2 => h ((inB_iff _ _ _).1 h2)

theorem made_log (n : Nat) (hn : n ≤ 1048576) : ∃ M : Array Value, (∀ W : World, (Instr.makeSlice 24 (.int .i64 0) (.int .i64 (n : Int))).run Tryz.prog W = .ok (.slice (some ⟨W.heap.size, 0, none⟩) 0 n) (W.alloc (.cells M 39))) ∧
    ∀ (W : World) (base : Nat), base ≤ W.heap.size → (W.alloc (.cells M 39)).ownsRow base 39 9 (.slice (some ⟨W.heap.size, 0, none⟩) 0 n) 0 [] := by
  obtain ⟨i0, hi, hz0, hz1, hz2⟩ := info_parts Tryz.infoEntG
  refine ⟨madeCells (Value.agg #[.int .i64 0, .int .i64 0, .int .i64 0, .int .i64 0, .string ByteArray.empty, .string ByteArray.empty, .int .i64 0, .int .i64 0, .int .i64 0]).cells (n * 9), fun W => ?_, fun W base hb => ?_⟩
  · have h := run_make (P := Tryz.prog) W 24 39 i0 (.agg #[.int .i64 0, .int .i64 0, .int .i64 0, .int .i64 0, .string ByteArray.empty, .string ByteArray.empty, .int .i64 0, .int .i64 0, .int .i64 0]) Tryz.underlying24 hi hz0 .i64 .i64 0 (n : Int) (by omega) (by omega) (by rw [hz2]; omega) (by omega)
    rw [hz1, Int.toNat_natCast] at h
    simpa using h
  · exact ⟨rfl, .inr ⟨_, n, _, rfl, hb, heap_alloc_new W _, Nat.zero_le _, by unfold maxLen; omega, by rw [size_madeCells], by simp⟩⟩

/-- The house in its box, when k entries of the log are done. -/
structure HsAt (n : Int) (l : List Ent) (k : Nat) (base b : Nat) (W : World) (vl u1 u2 ub m1 m2 : Value) (ms : List Bk) : Prop where
  box : W.heap[b]? = some (.cells #[.bool true, .int .i64 n, vl, .int .i64 0, u1, u2, ub, m1, m2] 35 (0, 0))
  log : W.ownsRow base 39 9 vl (l.take k).length ((l.take k).flatMap entC)
  sh : OwnS base W u1 u2 ub (rpFrom (rpNew n) (l.take k)).s.cs (rpFrom (rpNew n) (l.take k)).s.ps ms
  bs : ms.map Bk.pb = (rpFrom (rpNew n) (l.take k)).s.bs
  mm : OwnM base W m1 m2 (rpFrom (rpNew n) (l.take k)).ts (rpFrom (rpNew n) (l.take k)).rs
  ap : (∀ g, (u1.ownBlock = some g ∨ u2.ownBlock = some g) → m1.ownBlock ≠ some g)

theorem HsAt.below {n : Int} {l : List Ent} {k base b : Nat} {W W' : World} {vl u1 u2 ub m1 m2 : Value} {ms : List Bk} (h : HsAt n l k base b W vl u1 u2 ub m1 m2 ms) (d : Below W.heap.size W W') : HsAt n l k base b W' vl u1 u2 ub m1 m2 ms :=
  ⟨(d.block _ (heap_lt h.box)).trans h.box, owns_below h.log d, h.sh.below d, h.bs, h.mm.below d, h.ap⟩

theorem HsAt.log_not {n : Int} {l : List Ent} {k base b : Nat} {W : World} {vl u1 u2 ub m1 m2 : Value} {ms : List Bk} (h : HsAt n l k base b W vl u1 u2 ub m1 m2 ms) {c : Nat} {zs : Array Value} (kc : W.heap[c]? = some (.cells zs 35 (0, 0))) : ¬ vl.ownBlock = some c := own_not_box h.log kc (by decide)
end Go.Proofs.YtjhfeegilhmgkaaGreatDoor

namespace Go.Proofs.YtjhfeegilhmgkaaGreatDoor
open Go.RowKit

set_option linter.unusedVariables false

set_option maxRecDepth 100000


/-- One operation waits for the next, and so on. -/
def pathB (md : Region.Mode) (ops : Array Oper) : Nat → List Nat → Bool
  | _, [] => true
  | p, i :: l => depB md ops p i && pathB md ops i l

theorem Down.path {md : Region.Mode} {ops : Array Oper} {L : Array Bool} (h : Down md ops L) : ∀ (l : List Nat) (p : Nat), pathB md ops p l = true → L.getD p false = true → L.getD (l.getLastD p) false = true
  | [], p, _, hp => hp
  | i :: l, p, hl, hp => by
    simp only [pathB, Bool.and_eq_true] at hl
    have := Down.path h l i hl.2 (h p i hp hl.1)
    rw [List.getLastD_cons]
    exact this

theorem Down.no {md : Region.Mode} {ops : Array Oper} {L : Array Bool} (h : Down md ops L) (p : Nat) (l : List Nat) {i : Nat} (hn : L.getD i true = false) (hp : pathB md ops p l = true) (hi : l.getLastD p = i) : L.getD p false = false := by
  rw [Bool.eq_false_iff]
  intro h1
  have h2 := h.path l p hp h1
  rw [hi] at h2
  have h3 := not_done hn
  rw [h2] at h3
  cases h3

/-- p: the store; sB, sV: the slots of its address and of its value. -/
structure RX (ops : Array Oper) (p sB sV : Nat) (R : Nat → Value → World → Prop) (a0 : Act) (W : World) (L : Array Bool) (a : Act) (x X : World) : Prop where
  df : a.defers = a0.defers
  sz : a.tmps.size = a0.tmps.size
  old : ∀ s, ops.toList.all (fun o => o.dst != some s) = true → a.tmps.getD s undef = a0.tmps.getD s undef
  rel : ∀ j s, L.getD j false = true → ((ops[j]?).bind (·.dst)) = some s → R j (a.tmps.getD s undef) X
  bel : Below W.heap.size W X
  pre : L.getD p false = false → x = X
  fin : L.getD p false = true → ∃ n zs, a.tmps.getD sB undef = .pointer (some ⟨n, 0, none⟩) ∧ a.tmps.getD sV undef = .agg zs ∧ x = X.setRow n zs

def RXs (ops : Array Oper) (p sB sV : Nat) (R : Nat → Value → World → Prop) (a0 : Act) (W : World) (L : Array Bool) (a : Act) (x : World) : Prop := ∃ X, RX ops p sB sV R a0 W L a x X

theorem RXs.start (ops : Array Oper) (p sB sV : Nat) (R : Nat → Value → World → Prop) (a0 : Act) (W : World) : RXs ops p sB sV R a0 W (Array.replicate ops.size false) a0 W.drew := by
  have hn : ∀ j, (Array.replicate ops.size false).getD j false = false := fun j => by
    rw [Array.getD_eq_getD_getElem?, Array.getElem?_replicate]
    split <;> rfl
  exact ⟨W.drew, rfl, rfl, fun _ _ => rfl, (fun j s h => by rw [hn] at h; cases h), bw_drew (Below.refl _ _), fun _ => rfl, (fun h => by rw [hn] at h; cases h)⟩

/-- An operation ahead of the store: it answers, and may make memory. -/
theorem RX.val {ops : Array Oper} {p sB sV : Nat} {R : Nat → Value → World → Prop} {a0 : Act} {W : World} {L : Array Bool} {a : Act} {x X : World} (h : RX ops p sB sV R a0 W L a x X) (i s : Nat) (v : Value) (x' : World) (hp : i ≠ p) (hi : ((ops[i]?).bind (·.dst)) = some s) (hs : s < a0.tmps.size) (hd : (ops.toList.all (fun o => o.dst != some s)) = false) (hu : uniqB ops s i = true)
    (hn : L.getD p false = false) (hb : Below x.heap.size x x') (hv : R i v x') (hm : ∀ j u, R j u x → R j u x') : RXs ops p sB sV R a0 W (L.setIfInBounds i true) (a.put (some s) v) x' := by
  obtain rfl := h.pre hn
  refine ⟨x', h.df, by show (a.tmps.setIfInBounds s v).size = _; rw [Array.size_setIfInBounds]; exact h.sz, fun r hr => ?_, fun j r hj hr => ?_, bw_call h.bel hb, fun _ => rfl, fun hl => by rw [getD_other hp, hn] at hl; cases hl⟩
  · have hne : s ≠ r := fun e => by subst e; rw [hd] at hr; cases hr
    exact (tmps_other v hne).trans (h.old r hr)
  · show R j ((a.tmps.setIfInBounds s v).getD r undef) x'
    by_cases e : i = j
    · subst e
      rw [hi] at hr
      cases hr
      rw [tmps_self v (by rw [h.sz]; exact hs)]
      exact hv
    · have hne : s ≠ r := fun e2 => by subst e2; exact e (uniq_of hu j hr).symm
      rw [tmps_other v hne]
      rw [getD_other e] at hj
      exact hm _ _ (h.rel j r hj hr)

/-- An operation that answers and makes nothing, ahead of the store or behind it. -/
theorem RX.put {ops : Array Oper} {p sB sV : Nat} {R : Nat → Value → World → Prop} {a0 : Act} {W : World} {L : Array Bool} {a : Act} {x X : World} (h : RX ops p sB sV R a0 W L a x X) (i s : Nat) (v : Value) (hp : i ≠ p) (hi : ((ops[i]?).bind (·.dst)) = some s) (hs : s < a0.tmps.size) (hd : (ops.toList.all (fun o => o.dst != some s)) = false) (hu : uniqB ops s i = true)
    (hB : s ≠ sB) (hV : s ≠ sV) (hv : R i v X) : RXs ops p sB sV R a0 W (L.setIfInBounds i true) (a.put (some s) v) x := by
  refine ⟨X, h.df, by show (a.tmps.setIfInBounds s v).size = _; rw [Array.size_setIfInBounds]; exact h.sz, fun r hr => ?_, fun j r hj hr => ?_, h.bel, fun hl => h.pre (by rwa [getD_other hp] at hl), fun hl => ?_⟩
  · have hne : s ≠ r := fun e => by subst e; rw [hd] at hr; cases hr
    exact (tmps_other v hne).trans (h.old r hr)
  · show R j ((a.tmps.setIfInBounds s v).getD r undef) X
    by_cases e : i = j
    · subst e
      rw [hi] at hr
      cases hr
      rw [tmps_self v (by rw [h.sz]; exact hs)]
      exact hv
    · have hne : s ≠ r := fun e2 => by subst e2; exact e (uniq_of hu j hr).symm
      rw [tmps_other v hne]
      rw [getD_other e] at hj
      exact h.rel j r hj hr
  · rw [getD_other hp] at hl
    obtain ⟨n, zs, e1, e2, e3⟩ := h.fin hl
    exact ⟨n, zs, (tmps_other v hB).trans e1, (tmps_other v hV).trans e2, e3⟩

theorem RX.store {ops : Array Oper} {p sB sV : Nat} {R : Nat → Value → World → Prop} {a0 : Act} {W : World} {L : Array Bool} {a : Act} {x X : World} (h : RX ops p sB sV R a0 W L a x X) (hp : p < L.size) (hn : L.getD p false = false) (hd : ((ops[p]?).bind (·.dst)) = none) {n : Nat} {zs : Array Value} (hB : a.tmps.getD sB undef = .pointer (some ⟨n, 0, none⟩)) (hV : a.tmps.getD sV undef = .agg zs) : RXs ops p sB sV R a0 W (L.setIfInBounds p true) a (x.setRow n zs) := by
  obtain rfl := h.pre hn
  refine ⟨x, h.df, h.sz, h.old, fun j r hj hr => ?_, h.bel, fun hl => ?_, fun _ => ⟨n, zs, hB, hV, rfl⟩⟩
  · by_cases e : p = j
    · subst e; rw [hd] at hr; cases hr
    · rw [getD_other e] at hj
      exact h.rel j r hj hr
  · rw [getD_self hp] at hl; cases hl

theorem RX.frame {ops : Array Oper} {p sB sV : Nat} {R : Nat → Value → World → Prop} {a0 : Act} {W : World} {L : Array Bool} {a : Act} {x X : World} (h : RX ops p sB sV R a0 W L a x X) (S : List Nat) (hS : frameB ops S a0.tmps.size = true) : a = Act.puts a0 (fun s => a.tmps.getD s undef) S := by
  have hd : a.defers = (Act.puts a0 (fun s => a.tmps.getD s undef) S).defers := by rw [puts_defers]; exact h.df
  have ht : a.tmps = (Act.puts a0 (fun s => a.tmps.getD s undef) S).tmps := by
    refine arr_ext (by rw [puts_size]; exact h.sz) (fun r hr => ?_)
    rw [puts_at _ S a0 r (by rw [← h.sz]; exact hr)]
    by_cases hm : r ∈ S
    · rw [if_pos hm]
    · rw [if_neg hm]
      exact h.old r (frame_of hS r (by rw [← h.sz]; exact hr) hm)
  generalize Act.puts a0 (fun s => a.tmps.getD s undef) S = b at hd ht
  cases a
  cases b
  simp only at hd ht
  rw [hd, ht]

theorem row_upto {w : World} {g : Nat} {cs : Array Value} : Upto g w (w.setRow g cs) := by
  refine ⟨rfl, rfl, rfl, by simp [World.setRow], fun k hk hne => ?_⟩
  simp only [World.setRow, Array.getElem?_modify]
  rw [if_neg (fun e => hne e.symm)]
end Go.Proofs.YtjhfeegilhmgkaaGreatDoor

namespace Go.Proofs.YtjhfeegilhmgkaaGreatDoor
open Go.RowKit

set_option linter.unusedVariables false

set_option maxRecDepth 100000


set_option maxHeartbeats 1600000 in
theorem implEntryOk_any (sq cl tg k : Int) (nm ot : ByteArray) (at_ va ep : Int) (w : World) (hf : FitEnt ⟨sq, cl, tg, ⟨k, nm, ot, at_, va, ep⟩⟩) :
    Calls Tryz.prog 185 #[.agg #[.int .i64 sq, .int .i64 cl, .int .i64 tg, .int .i64 k, .string nm, .string ot, .int .i64 at_, .int .i64 va, .int .i64 ep]] w fun e w' => e = .returned (.bool (entOk ⟨sq, cl, tg, ⟨k, nm, ot, at_, va, ep⟩⟩)) ∧ Below w.heap.size w w' := by
  obtain ⟨⟨hn, ho⟩, -, -, -, fk, fa, fv, fe⟩ := hf
  simp only at hn ho fk fa fv fe
  obtain ⟨W0, hW0, k0, d0, z0⟩ := box1 w #[.int .i64 sq, .int .i64 cl, .int .i64 tg, .int .i64 k, .string nm, .string ot, .int .i64 at_, .int .i64 va, .int .i64 ep] 39
  have HW0 : Hid (W0 = _) := hW0
  have p0 := at_cell k0 0
  have p1 := at_cell k0 1
  have p2 := at_cell k0 2
  have p3 := at_cell k0 3
  have p4 := at_cell k0 4
  have p5 := at_cell k0 5
  have p6 := at_cell k0 6
  have p7 := at_cell k0 7
  have p8 := at_cell k0 8
  have HB : Hid (entOk ⟨sq, cl, tg, ⟨k, nm, ot, at_, va, ep⟩⟩ = (inB sq 1 1000 && inB tg 1 1000 && inB cl 0 3 && changes ⟨k, nm, ot, at_, va, ep⟩)) := rfl
  clear hW0 z0 k0
  go_enter Tryz.func185, Tryz.ntmps185
  go_wp2_with fail
  rw [← HW0.out]
  clear HW0
  refine (within_any sq 1 1000 _).mono ?_
  rintro e w' ⟨rfl, rfl⟩
  generalize inB sq 1 1000 = c0 at *
  cases c0
  · go_wp2_with fail
    go_ret
    exact ⟨ret_bool (by rw [HB.out]; rfl), d0⟩
  go_wp2_with fail
  refine (clientOk_any cl _).mono ?_
  rintro e w' ⟨rfl, rfl⟩
  generalize inB cl 0 3 = c1 at *
  cases c1
  · go_wp2_with fail
    go_ret
    exact ⟨ret_bool (by rw [HB.out, Bool.and_false, Bool.false_and]), d0⟩
  go_wp2_with fail
  refine (tagOk_any tg _).mono ?_
  rintro e w' ⟨rfl, rfl⟩
  generalize inB tg 1 1000 = c2 at *
  cases c2
  · go_wp2_with fail
    go_ret
    exact ⟨ret_bool (by rw [HB.out]; rfl), d0⟩
  go_wp2_with fail
  refine (implChanges_any k nm ot at_ va ep _ hn ho fk fa fv fe).mono ?_
  rintro e w1 ⟨rfl, b1⟩
  replace d0 := bw_call d0 b1
  generalize changes ⟨k, nm, ot, at_, va, ep⟩ = c3 at *
  go_wp2_with fail
  go_ret
  exact ⟨ret_bool (by rw [HB.out]; rfl), d0⟩

set_option maxHeartbeats 3200000 in
theorem inOrder_any (v : Value) (l : List Ent) (w : World) (hf : FitLog l) (hl : l.length ≤ 120) (r : ReadsR 9 entC w.heap.size w v l) :
    Calls Tryz.prog 171 #[v] w fun e w' => e = .returned (.int .i64 (inOrd 0 tags0 l : Nat)) ∧ Below w.heap.size w w' := by
  obtain ⟨o, cap, rfl, hm, hc, -⟩ := r
  have HC : Hid _ := nine_cells hc
  have HF : Hid _ := hf
  clear hc hf hm
  have own0 : (w.alloc (.cells #[.int .i64 0, .int .i64 0, .int .i64 0, .int .i64 0] 192)).ownsRow w.heap.size 192 1 (.slice (some ⟨w.heap.size, 0, none⟩) 4 4) 4 (tags0.map (Value.int .i64)) :=
    World.ownsRow_lit (e := 192) (size := 1) (base := w.heap.size) w #[.int .i64 0, .int .i64 0, .int .i64 0, .int .i64 0] 4 (by simp) (by unfold maxLen; omega) rfl
  have bd0 : Below w.heap.size w (w.alloc (.cells #[.int .i64 0, .int .i64 0, .int .i64 0, .int .i64 0] 192)) := bw_alloc (Below.refl _ _)
  go_enter Tryz.func171, Tryz.ntmps171
  go_wp2_with fail
  go_step3
  go_wp2_with fail
  go_step3
  go_wp2_with fail
  generalize w.alloc (.cells #[.int .i64 0, .int .i64 0, .int .i64 0, .int .i64 0] 192) = W0 at own0 bd0 ⊢
  go_loopw [4, 10] (fun cnt i wr => ∃ (k : Nat) (t : List Int), k ≤ l.length ∧ cnt = .int .i64 k ∧ i = .int .i64 k ∧ t.length = 4 ∧ inOrd 0 tags0 l = inOrd k t (l.drop k) ∧ wr.ownsRow w.heap.size 192 1 (.slice (some ⟨w.heap.size, 0, none⟩) 4 4) 4 (t.map (Value.int .i64)) ∧ Below w.heap.size w wr) (fun _ i _ => l.length - (intOf i).toNat)
  case atStart => exact ⟨0, tags0, Nat.zero_le _, rfl, rfl, rfl, rfl, own0, bd0⟩
  case round =>
    clear own0 bd0
    obtain ⟨k, t, hk, rfl, rfl, htl, hin, own, hb⟩ := hrel
    by_cases hlt : k < l.length
    · obtain ⟨g, off, rfl, hg, a0, a1, a2, a3, a4, a5, a6, a7, a8⟩ := HC.out k hlt
      have hfe := HF.out l[k] (List.getElem_mem hlt)
      have HY : Hid (stepOk k t l[k] = true → inOrd 0 tags0 l = inOrd (k + 1) (t.set l[k].cl.toNat l[k].tg) (l.drop (k + 1))) := fun h => hin.trans (inOrd_yes hlt h)
      have HN : Hid (stepOk k t l[k] = false → ((inOrd 0 tags0 l : Nat) : Int) = k) := fun h => by rw [hin.trans (inOrd_no hlt h)]
      generalize l[k] = x at a0 a1 a2 a3 a4 a5 a6 a7 a8 hfe HY HN
      obtain ⟨sq, cl, tg, ⟨k1, nm, ot, at_, va, ep⟩⟩ := x
      simp only at a0 a1 a2 a3 a4 a5 a6 a7 a8
      replace a0 := (hb.cell (p := ⟨g, off + k * 9, none⟩) hg).trans a0
      replace a1 := (hb.cell (p := ⟨g, off + k * 9 + 1, none⟩) hg).trans a1
      replace a2 := (hb.cell (p := ⟨g, off + k * 9 + 2, none⟩) hg).trans a2
      replace a3 := (hb.cell (p := ⟨g, off + k * 9 + 3, none⟩) hg).trans a3
      replace a4 := (hb.cell (p := ⟨g, off + k * 9 + 4, none⟩) hg).trans a4
      replace a5 := (hb.cell (p := ⟨g, off + k * 9 + 5, none⟩) hg).trans a5
      replace a6 := (hb.cell (p := ⟨g, off + k * 9 + 6, none⟩) hg).trans a6
      replace a7 := (hb.cell (p := ⟨g, off + k * 9 + 7, none⟩) hg).trans a7
      replace a8 := (hb.cell (p := ⟨g, off + k * 9 + 8, none⟩) hg).trans a8
      obtain ⟨W5, hW5, k5, d5, z5⟩ := box1 wr #[.int .i64 sq, .int .i64 cl, .int .i64 tg, .int .i64 k1, .string nm, .string ot, .int .i64 at_, .int .i64 va, .int .i64 ep] 39
      have HW5 : Hid (W5 = _) := hW5
      have HO : Hid (W5.ownsRow w.heap.size 192 1 (.slice (some ⟨w.heap.size, 0, none⟩) 4 4) 4 (t.map (Value.int .i64))) := owns_below own d5
      have hb5 := bw_call hb d5
      have HS : Hid (stepOk k t ⟨sq, cl, tg, ⟨k1, nm, ot, at_, va, ep⟩⟩ = (entOk ⟨sq, cl, tg, ⟨k1, nm, ot, at_, va, ep⟩⟩ && decide (sq = (k : Int) + 1) && decide (t.getD cl.toNat 0 < tg))) := rfl
      have s5 := heap_lt k5
      have p0 := at_cell k5 0
      have p1 := at_cell k5 1
      have p2 := at_cell k5 2
      have p3 := at_cell k5 3
      have p4 := at_cell k5 4
      have p5 := at_cell k5 5
      have p6 := at_cell k5 6
      have p7 := at_cell k5 7
      have p8 := at_cell k5 8
      have HIN : Hid _ := hin
      clear hW5 own hb d5 HC HF hin z5
      go_wp2_with fail
      rw [← HW5.out]
      clear HW5 a0 a1 a2 a3 a4 a5 a6 a7 a8 p0 p1 p2 p3 p4 p5 p6 p7 p8
      refine (implEntryOk_any sq cl tg k1 nm ot at_ va ep _ hfe).mono ?_
      rintro e w6 ⟨rfl, b6⟩
      have hb6 := bw_call hb5 b6
      have own6 := owns_below HO.out b6
      have k6 := (b6.block _ s5).trans k5
      have p0 := at_cell k6 0
      have p1 := at_cell k6 1
      have p2 := at_cell k6 2
      have hw1 : IntKind.i64.wrap ((k : Int) + 1) = (k : Int) + 1 := by rw [IntKind.wrap_i64]; omega
      obtain ⟨okv, hok⟩ : ∃ x, entOk ⟨sq, cl, tg, ⟨k1, nm, ot, at_, va, ep⟩⟩ = x := ⟨_, rfl⟩
      have HOK : Hid (entOk ⟨sq, cl, tg, ⟨k1, nm, ot, at_, va, ep⟩⟩ = okv) := hok
      rw [hok]
      have HK6 : Hid _ := k6
      clear hok HO k5 b6 s5 hb5 hfe k6
      cases okv
      · have HX : Hid _ := HN.out (show stepOk k t ⟨sq, cl, tg, ⟨k1, nm, ot, at_, va, ep⟩⟩ = false by rw [HS.out, HOK.out]; rfl)
        go_wp2_with fail
        rw [Exit.noGoto_ret]
        go_ret
        exact ⟨ret_int HX.out.symm, hb6⟩
      have hbd := entOk_bd HOK.out
      simp only at hbd
      obtain ⟨C, rfl⟩ := Int.eq_ofNat_of_zero_le hbd.2.2.1.1
      have hC : C < 4 := by omega
      clear hbd
      by_cases hsq : sq = (k : Int) + 1
      · have hj1 : (sq != (k : Int) + 1) = false := by rw [hsq]; simp
        have HSQ : Hid (sq = (k : Int) + 1) := hsq
        clear hsq
        have t6 := own6.cellAt C (by omega)
        have f6 := own6.frozenAt C
        rw [List.getElem?_map, List.getElem?_eq_getElem (show C < t.length by omega)] at t6
        simp only [Option.map_some] at t6
        have HG : Hid (t.getD C 0 = t[C]) := by simp [Hid, List.getD, show C < t.length by omega]
        generalize t[C] = y at t6 HG
        have i0 : (0 : Int) ≤ (C : Int) := by omega
        have i1 : (C : Int) < 4 := by omega
        by_cases hty : tg ≤ y
        · have HX : Hid _ := HN.out (show stepOk k t ⟨sq, (C : Int), tg, ⟨k1, nm, ot, at_, va, ep⟩⟩ = false by rw [HS.out, show ((C : Int)).toNat = C from rfl, HG.out, decide_eq_false (show ¬ y < tg by omega), Bool.and_false])
          go_wp2_with fail
          go_quiet (fail)
          go_wp2_with fail
          rw [Exit.noGoto_ret]
          go_ret
          exact ⟨ret_int HX.out.symm, ⟨hb6.os, hb6.tape, hb6.output, hb6.size, hb6.block⟩⟩
        have HIX : Hid _ := HY.out (show stepOk k t ⟨sq, (C : Int), tg, ⟨k1, nm, ot, at_, va, ep⟩⟩ = true by rw [HS.out, show ((C : Int)).toNat = C from rfl, HG.out, HOK.out, decide_eq_true (show y < tg by omega), decide_eq_true HSQ.out]; rfl)
        have htl2 : (t.set C tg).length = 4 := by simpa using htl
        have HTL : Hid ((t.set C tg).length = 4) := htl2
        have HO6 : Hid (w6.ownsRow w.heap.size 192 1 (.slice (some ⟨w.heap.size, 0, none⟩) 4 4) 4 (t.map (Value.int .i64))) := own6
        clear own6 HS HY HN HOK HG HIN htl htl2
        go_wp2_with fail
        go_quiet (fail)
        generalize hw7 : w6.drewN _ = w7
        have b7 : Below w6.heap.size w6 w7 := by rw [← hw7]; exact ⟨rfl, rfl, rfl, Nat.le_refl _, fun _ _ => rfl⟩
        clear hw7
        have hb7 := bw_call hb6 b7
        have own7 := owns_below HO6.out b7
        have k7 := (b7.block _ (heap_lt HK6.out)).trans HK6.out
        have q1 := at_cell k7 1
        have q2 := at_cell k7 2
        have t7 := own7.cellAt C (by omega)
        have f7 := own7.frozenAt C
        rw [List.getElem?_map, List.getElem?_eq_getElem (show C < t.length by have := HTL.out; simp at this; omega)] at t7
        simp only [Option.map_some] at t7
        generalize t[C]'(by have := HTL.out; simp at this; omega) = y7 at t7
        obtain ⟨hst, hgr⟩ := own7.stored C (.int .i64 tg)
        rw [← List.map_set] at hst
        have hbf : Below w.heap.size w (w7.setCell ⟨w.heap.size, C, none⟩ (.int .i64 tg)) := bw_set (p := ⟨w.heap.size, C, none⟩) hb7 (by simp) _
        have HFI : Hid _ := And.intro hst hbf
        have hnt : ¬ tg ≤ y := by omega
        clear t6 f6 p0 p1 p2 hst hbf hgr own7 b7 hb7 hb6 HO6 k7 HK6 hty
        go_wp2_with fail
        go_roundw
        case rel => exact ⟨k + 1, t.set C tg, by omega, by go_num, by go_num, HTL.out, HIX.out, HFI.out.1, HFI.out.2⟩
        case measure => simp [intOf]; omega
      · have hj1 : (sq != (k : Int) + 1) = true := by rw [bne_iff_ne]; exact hsq
        have HX : Hid _ := HN.out (show stepOk k t ⟨sq, (C : Int), tg, ⟨k1, nm, ot, at_, va, ep⟩⟩ = false by rw [HS.out, decide_eq_false hsq, Bool.and_false]; rfl)
        go_wp2_with fail
        rw [Exit.noGoto_ret]
        go_ret
        exact ⟨ret_int HX.out.symm, hb6⟩
    · have HE : Hid (((inOrd 0 tags0 l : Nat) : Int) = k) := by rw [Hid, hin.trans (inOrd_end hlt)]
      clear HC HF hin own
      go_wp2_with fail
      rw [Exit.noGoto_ret]
      go_ret
      exact ⟨ret_int HE.out.symm, hb⟩

theorem implLogOk_any (v : Value) (l : List Ent) (w : World) (hf : FitLog l) (r : ReadsR 9 entC w.heap.size w v l) :
    Calls Tryz.prog 125 #[v] w fun e w' => e = .returned (.bool (logOk l)) ∧ Below w.heap.size w w' := by
  obtain ⟨o, cap, rfl⟩ := r.form
  have hml : l.length ≤ maxLen := by obtain ⟨o', cap', -, hm, -, -⟩ := r; exact hm
  unfold maxLen at hml
  by_cases hl : l.length ≤ 120
  · have HB : Hid (logOk l = decide (inOrd 0 tags0 l = l.length)) := by rw [Hid, logOk, decide_eq_true hl, Bool.true_and]
    have hl2 : (l.length : Int) ≤ 120 := by omega
    have hle := (inOrd_le l 0 tags0).2
    go_enter Tryz.func125, Tryz.ntmps125
    go_wp2_with fail
    refine (inOrder_any _ l _ hf hl r).mono ?_
    rintro e w1 ⟨rfl, b1⟩
    generalize inOrd 0 tags0 l = n at *
    go_wp2_with fail
    go_ret
    exact ⟨ret_bool (by rw [HB.out, Bool.eq_iff_iff]; simp; omega), b1⟩
  · have HB : Hid (logOk l = false) := by rw [Hid, logOk, decide_eq_false hl, Bool.false_and]
    have hl2 : ¬ (l.length : Int) ≤ 120 := by omega
    clear r
    go_enter Tryz.func125, Tryz.ntmps125
    go_wp2_with fail
    go_ret
    exact ⟨ret_bool HB.out.symm, Below.refl _ _⟩
end Go.Proofs.YtjhfeegilhmgkaaGreatDoor

namespace Go.Proofs.YtjhfeegilhmgkaaGreatDoor
open Go.RowKit

set_option linter.unusedVariables false

set_option maxRecDepth 100000

set_option linter.unusedSimpArgs false


theorem VarB.below {w w' : World} {ab : Addr} (h : VarB w ab) (b : Below w.heap.size w w') : VarB w' ab := (b.cell (p := ⟨0, 0, none⟩) (cell_lt h)).trans h

set_option maxHeartbeats 3200000 in
theorem fromLog_no (n : Int) (v : Value) (l : List Ent) (w : World) (ab : Addr) (hb : VarB w ab) (hf : FitLog l) (hok : rpOk n l = false) (r : ReadsR 9 entC w.heap.size w v l) :
    Calls Tryz.prog 67 #[.int .i64 n, v] w fun e w' => e = .panicked [{ v := .iface 334 (.pointer (some ab)), recovered := false }] ∧ Below w.heap.size w w' := by
  obtain ⟨o, cap, rfl⟩ := r.form
  have HOK : Hid (rpOk n l = false) := hok
  obtain ⟨W0, hW0, kR, d0, z0⟩ := box1 w #[.bool false, .int .i64 0, .slice none 0 0, .int .i64 0, .slice none 0 0, .slice none 0 0, .slice none 0 0, .slice none 0 0, .slice none 0 0] 35
  have HW0 : Hid (W0 = _) := hW0
  have r0 := (r.below d0).mono d0.size
  have hns := implNewShelf_any n W0
  have hb0 := hb.below d0
  rw [newPool_ok] at hns
  clear hW0 hok r
  go_enter Tryz.func67, Tryz.ntmps67
  go_upto_region 1 with fail
  rw [← HW0.out]
  clear HW0
  cases hi : inB n 1 24
  · rw [hi] at hns
    go_upto_region 2 with (go_at_call 128; refine hns.mono ?_; rintro e w1 ⟨u1, u2, ub, rfl, op, ob, b1⟩; obtain ⟨x1, j1, rfl⟩ := own_slice op.c; obtain ⟨x2, j2, rfl⟩ := own_slice op.p; have ob0 : w1.ownsRow W0.heap.size 118 5 ub 0 [] := ob.row; obtain ⟨x3, j3, rfl⟩ := own_slice ob0)
    obtain ⟨W2, hW2, kS, d2, z2⟩ := box1 w1 #[.slice x1 (newPool n).1.1.length j1, .slice x2 (newPool n).1.2.length j2, .slice x3 0 j3] 30
    have HW2 : Hid (W2 = _) := hW2
    have B02 := bw_call b1 d2
    have hb2 := hb0.below B02
    have B2 := bw_call d0 B02
    rw [← HW2.out]
    clear HW2 hW2 hns ob0 op ob hb hb0 kS r0
    go_wp2_with fail
    refine (must_no ab _ hb2).mono ?_
    rintro e X3 ⟨rfl, rfl⟩
    go_wp2_with fail
    exact ⟨rfl, rfl, B2⟩
  · rw [hi] at hns
    have hlo : logOk l = false := by
      have := HOK.out
      rw [rpOk, hi, Bool.true_and] at this
      exact this
    go_upto_region 2 with (go_at_call 128; refine hns.mono ?_; rintro e w1 ⟨u1, u2, ub, rfl, op, ob, b1⟩; obtain ⟨x1, j1, rfl⟩ := own_slice op.c; obtain ⟨x2, j2, rfl⟩ := own_slice op.p; have ob0 : w1.ownsRow W0.heap.size 118 5 ub 0 [] := ob.row; obtain ⟨x3, j3, rfl⟩ := own_slice ob0)
    obtain ⟨W2, hW2, kS, d2, z2⟩ := box1 w1 #[.slice x1 (newPool n).1.1.length j1, .slice x2 (newPool n).1.2.length j2, .slice x3 0 j3] 30
    have HW2 : Hid (W2 = _) := hW2
    have B02 := bw_call b1 d2
    have hb2 := hb0.below B02
    have B2 := bw_call d0 B02
    have r2 := (r0.below B02).mono B02.size
    have hlg := implLogOk_any _ l W2 hf r2
    rw [hlo] at hlg
    rw [← HW2.out]
    clear HW2 hW2 hns ob0 op ob hb hb0 kS r0
    go_upto_region 3 with (go_at_call 120; refine (must_yes _).mono ?_; rintro e X3 ⟨rfl, rfl⟩)
    go_wp2_with fail
    refine hlg.mono ?_
    rintro e w4 ⟨rfl, b5⟩
    have hb5 := hb2.below b5
    go_wp2_with fail
    refine (must_no ab _ hb5).mono ?_
    rintro e X5 ⟨rfl, rfl⟩
    go_wp2_with fail
    exact ⟨rfl, rfl, bw_call B2 b5⟩
end Go.Proofs.YtjhfeegilhmgkaaGreatDoor

namespace Go.Proofs.YtjhfeegilhmgkaaGreatDoor
open Go.RowKit

set_option linter.unusedVariables false

set_option maxRecDepth 100000


/-- A slice's value; a house's nine cells. -/
structure Slv where
  o : Option Addr
  n : Nat
  c : Nat

structure Hv where
  up : Bool
  pg : Int
  lg : Slv
  ak : Int
  c : Slv
  p : Slv
  b : Slv
  t : Slv
  r : Slv

def Slv.v (s : Slv) : Value := .slice s.o s.n s.c

def Hv.cells (h : Hv) : Array Value := #[.bool h.up, .int .i64 h.pg, .slice h.lg.o h.lg.n h.lg.c, .int .i64 h.ak, .slice h.c.o h.c.n h.c.c, .slice h.p.o h.p.n h.p.c, .slice h.b.o h.b.n h.b.c, .slice h.t.o h.t.n h.t.c, .slice h.r.o h.r.n h.r.c]

/-- What the work does: a house of which Q is so, or it gives up, and G is so. -/
def WorkP (Q : Hv → World → Prop) (G : Prop) (W : World) (e : Ending) (w' : World) : Prop :=
  Below W.heap.size W w' ∧ ((∃ h : Hv, e = .returned (.agg h.cells) ∧ Q h w') ∨ (∃ (u : TypeId) (pv : Value), e = .panicked [{ v := .iface u pv, recovered := false }] ∧ G))

def FaceP (Q : Hv → World → Prop) (G : Prop) (w : World) (e : Ending) (w' : World) : Prop :=
  Below w.heap.size w w' ∧ ((∃ (h : Hv) (W1 : World), e = .returned (.tuple #[.agg h.cells, .bool true]) ∧ Q h W1 ∧ Only (fun k => k = w.heap.size ∨ k = w.heap.size + 1) W1 w' ∧ w.heap.size + 1 + 1 ≤ W1.heap.size ∧ Below w.heap.size w W1) ∨ (e = .returned (.tuple #[.agg hz9, .bool false]) ∧ G))

theorem nine_setH (x0 x1 x2 x3 x4 x5 x6 x7 x8 z0 z1 z2 z3 z4 z5 z6 z7 z8 : Value) : (((((((((#[x0, x1, x2, x3, x4, x5, x6, x7, x8].setIfInBounds 0 z0).setIfInBounds 1 z1).setIfInBounds 2 z2).setIfInBounds 3 z3).setIfInBounds 4 z4).setIfInBounds 5 z5).setIfInBounds 6 z6).setIfInBounds 7 z7).setIfInBounds 8 z8) = #[z0, z1, z2, z3, z4, z5, z6, z7, z8] := by
  apply Array.toList_inj.1
  simp only [Array.toList_setIfInBounds, List.set_cons_zero, List.set_cons_succ]

theorem wiped_end {w w1 : World} {b c : Nat} {x0 x1 x2 x3 x4 x5 x6 x7 x8 y : Value} (kb : w1.heap[b]? = some (.cells #[x0, x1, x2, x3, x4, x5, x6, x7, x8] 35 (0, 0))) (kc : w1.heap[c]? = some (.cells #[y] 4 (0, 0))) (hbc : ¬ c = b) (hb : w.heap.size ≤ b) (hc : w.heap.size ≤ c) (d : Below w.heap.size w w1) :
    (wiped b c w1).heap[b]? = some (.cells hz9 35 (0, 0)) ∧ (wiped b c w1).heap[c]? = some (.cells #[.bool false] 4 (0, 0)) ∧ Below w.heap.size w (wiped b c w1) := by
  have k1 := (set_at (set_at (set_at (set_at (set_at (set_at (set_at (set_at (set_at kb 0 (.bool false)) 1 (.int .i64 0)) 2 (.slice none 0 0)) 3 (.int .i64 0)) 4 (.slice none 0 0)) 5 (.slice none 0 0)) 6 (.slice none 0 0)) 7 (.slice none 0 0)) 8 (.slice none 0 0))
  rw [nine_setH] at k1
  have d1 := ((((((((d.setCell (p := ⟨b, 0, none⟩) hb (.bool false)).setCell (p := ⟨b, 1, none⟩) hb (.int .i64 0)).setCell (p := ⟨b, 2, none⟩) hb (.slice none 0 0)).setCell (p := ⟨b, 3, none⟩) hb (.int .i64 0)).setCell (p := ⟨b, 4, none⟩) hb (.slice none 0 0)).setCell (p := ⟨b, 5, none⟩) hb (.slice none 0 0)).setCell (p := ⟨b, 6, none⟩) hb (.slice none 0 0)).setCell (p := ⟨b, 7, none⟩) hb (.slice none 0 0)).setCell (p := ⟨b, 8, none⟩) hb (.slice none 0 0)
  have o : ∀ (X : World) (i : Nat) (v : Value), (X.setCell ⟨b, i, none⟩ v).heap[c]? = X.heap[c]? := fun X i v => Below.heap_setCell X ⟨b, i, none⟩ v c (fun e => hbc e)
  have kc1 := (o _ 8 (.slice none 0 0)).trans ((o _ 7 (.slice none 0 0)).trans ((o _ 6 (.slice none 0 0)).trans ((o _ 5 (.slice none 0 0)).trans ((o _ 4 (.slice none 0 0)).trans ((o _ 3 (.int .i64 0)).trans ((o _ 2 (.slice none 0 0)).trans ((o _ 1 (.int .i64 0)).trans ((o w1 0 (.bool false)).trans kc))))))))
  refine ⟨(Below.heap_setCell _ ⟨c, 0, none⟩ _ b (fun e => hbc e.symm)).trans k1, set_at kc1 0 (.bool false), d1.setCell (p := ⟨c, 0, none⟩) hc (.bool false)⟩

set_option maxHeartbeats 1600000 in
/-- The house's box and the other's as they are written. -/
theorem faced_end {w w1 : World} {b c : Nat} {x0 x1 x2 x3 x4 x5 x6 x7 x8 y : Value} (h : Hv) (kb : w1.heap[b]? = some (.cells #[x0, x1, x2, x3, x4, x5, x6, x7, x8] 35 (0, 0))) (kc : w1.heap[c]? = some (.cells #[y] 4 (0, 0))) (hbc : ¬ c = b) (hb : w.heap.size ≤ b) (hc : w.heap.size ≤ c) (d : Below w.heap.size w w1) :
    ∃ W, W = ((((((((((w1.setCell ⟨b, 0, none⟩ (.bool h.up)).setCell ⟨b, 1, none⟩ (.int .i64 h.pg)).setCell ⟨b, 2, none⟩ (.slice h.lg.o h.lg.n h.lg.c)).setCell ⟨b, 3, none⟩ (.int .i64 h.ak)).setCell ⟨b, 4, none⟩ (.slice h.c.o h.c.n h.c.c)).setCell ⟨b, 5, none⟩ (.slice h.p.o h.p.n h.p.c)).setCell ⟨b, 6, none⟩ (.slice h.b.o h.b.n h.b.c)).setCell ⟨b, 7, none⟩ (.slice h.t.o h.t.n h.t.c)).setCell ⟨b, 8, none⟩ (.slice h.r.o h.r.n h.r.c)).setCell ⟨c, 0, none⟩ (.bool true)) ∧
      W.heap[b]? = some (.cells h.cells 35 (0, 0)) ∧ W.heap[c]? = some (.cells #[.bool true] 4 (0, 0)) ∧ Below w.heap.size w W ∧ Only (fun k => k = b ∨ k = c) w1 W := by
  have k1 := (set_at (set_at (set_at (set_at (set_at (set_at (set_at (set_at (set_at kb 0 (.bool h.up)) 1 (.int .i64 h.pg)) 2 (.slice h.lg.o h.lg.n h.lg.c)) 3 (.int .i64 h.ak)) 4 (.slice h.c.o h.c.n h.c.c)) 5 (.slice h.p.o h.p.n h.p.c)) 6 (.slice h.b.o h.b.n h.b.c)) 7 (.slice h.t.o h.t.n h.t.c)) 8 (.slice h.r.o h.r.n h.r.c))
  rw [nine_setH] at k1
  have o : ∀ (X : World) (i : Nat) (v : Value), (X.setCell ⟨b, i, none⟩ v).heap[c]? = X.heap[c]? := fun X i v => Below.heap_setCell X ⟨b, i, none⟩ v c (fun e => hbc e)
  have kc1 := (o _ 8 (.slice h.r.o h.r.n h.r.c)).trans ((o _ 7 (.slice h.t.o h.t.n h.t.c)).trans ((o _ 6 (.slice h.b.o h.b.n h.b.c)).trans ((o _ 5 (.slice h.p.o h.p.n h.p.c)).trans ((o _ 4 (.slice h.c.o h.c.n h.c.c)).trans ((o _ 3 (.int .i64 h.ak)).trans ((o _ 2 (.slice h.lg.o h.lg.n h.lg.c)).trans ((o _ 1 (.int .i64 h.pg)).trans ((o w1 0 (.bool h.up)).trans kc))))))))
  have u := ((((((((((Only.refl (fun k => k = b ∨ k = c) w1).setCell ⟨b, 0, none⟩ (.inl rfl) (.bool h.up)).setCell ⟨b, 1, none⟩ (.inl rfl) (.int .i64 h.pg)).setCell ⟨b, 2, none⟩ (.inl rfl) (.slice h.lg.o h.lg.n h.lg.c)).setCell ⟨b, 3, none⟩ (.inl rfl) (.int .i64 h.ak)).setCell ⟨b, 4, none⟩ (.inl rfl) (.slice h.c.o h.c.n h.c.c)).setCell ⟨b, 5, none⟩ (.inl rfl) (.slice h.p.o h.p.n h.p.c)).setCell ⟨b, 6, none⟩ (.inl rfl) (.slice h.b.o h.b.n h.b.c)).setCell ⟨b, 7, none⟩ (.inl rfl) (.slice h.t.o h.t.n h.t.c)).setCell ⟨b, 8, none⟩ (.inl rfl) (.slice h.r.o h.r.n h.r.c)).setCell ⟨c, 0, none⟩ (.inr rfl) (.bool true)
  exact ⟨_, rfl, (Below.heap_setCell _ ⟨c, 0, none⟩ _ b (fun e => hbc e.symm)).trans k1, set_at kc1 0 (.bool true), d.trans (u.toBelow d.size (fun k hk => by rcases hk with q | q <;> omega)), u⟩

set_option maxHeartbeats 3200000 in
theorem face_new (caps : Array Value) (Q : Hv → World → Prop) (G : Prop) (w : World) (hc : ∀ W, Below w.heap.size w W → w.heap.size + 1 + 1 ≤ W.heap.size → Calls Tryz.prog 66 caps W (WorkP Q G W)) :
    Calls Tryz.prog 60 #[.func (.func 66) #[] caps] w (FaceP Q G w) := by
  have hmf : ∀ (fn : Fn) (first cap : Array Value) (w : World), (Instr.makeFunc fn first cap).run Tryz.prog w = .ok (.func fn first cap) w := fun _ _ _ _ => rfl
  obtain ⟨W0, hW0, k0, k1, d0, z0⟩ := box2 w hz9 #[.bool false] 35 4
  unfold hz9 at hW0 k0
  have HW0 : Hid (W0 = _) := hW0
  have hcc := hc W0 d0 (by omega)
  have HC : Hid _ := hcc
  clear hW0 hc hcc
  go_enter_defers Tryz.func60, Tryz.ntmps60
  go_wp2_with (go_at_call 66; rw [← HW0.out]; refine Calls.mono HC.out ?_)
  rintro e w1 ⟨b1, ⟨h, rfl, hq⟩ | ⟨u, pv, rfl, hg⟩⟩
  · have kb := (b1.block _ (heap_lt k0)).trans k0
    have kc := (b1.block _ (heap_lt k1)).trans k1
    obtain ⟨W, hW, j0, j1, dW, uW⟩ := faced_end (w := w) h kb kc (by omega) (Nat.le_refl _) (by omega) (bw_call d0 b1)
    have HW : Hid (W = _) := hW
    have HE : Hid (FaceP Q G w (.returned (.tuple #[.agg h.cells, .bool true])) W) := ⟨dW, .inl ⟨h, w1, rfl, hq, uW, by have := b1.size; omega, bw_call d0 b1⟩⟩
    have q0 := at_cell kb 0
    have q1 := at_cell kb 1
    have q2 := at_cell kb 2
    have q3 := at_cell kb 3
    have q4 := at_cell kb 4
    have q5 := at_cell kb 5
    have q6 := at_cell kb 6
    have q7 := at_cell kb 7
    have q8 := at_cell kb 8
    have f0 := at_open kb 0
    have f1 := at_open kb 1
    have f2 := at_open kb 2
    have f3 := at_open kb 3
    have f4 := at_open kb 4
    have f5 := at_open kb 5
    have f6 := at_open kb 6
    have f7 := at_open kb 7
    have f8 := at_open kb 8
    have qc := at_cell kc 0
    have fc := at_open kc 0
    clear hW k0 k1 d0 z0 HC b1 hq dW uW kb kc
    unfold Hv.cells
    go_wp2_with fail
    refine leaves_cons (f := 119) (args := #[.pointer (some ⟨w.heap.size, 0, none⟩), .pointer (some ⟨w.heap.size + 1, 0, none⟩)]) (by simp) (by simp [go_sem]) ?_
    rw [← HW.out]
    refine (face_idle ⟨w.heap.size, 0, none⟩ ⟨w.heap.size + 1, 0, none⟩ _).mono ?_
    rintro e u' w'' ⟨rfl, rfl, rfl⟩
    have a0 := at_cell j0 0
    have a1 := at_cell j0 1
    have a2 := at_cell j0 2
    have a3 := at_cell j0 3
    have a4 := at_cell j0 4
    have a5 := at_cell j0 5
    have a6 := at_cell j0 6
    have a7 := at_cell j0 7
    have a8 := at_cell j0 8
    have ac := at_cell j1 0
    unfold Hv.cells at a0 a1 a2 a3 a4 a5 a6 a7 a8
    simp [Leaves, settle, results, Tryz.results60, go_sem, a0, a1, a2, a3, a4, a5, a6, a7, a8, ac]
    exact HE.out
  · have kb := (b1.block _ (heap_lt k0)).trans k0
    have kc := (b1.block _ (heap_lt k1)).trans k1
    obtain ⟨j0, j1, dW⟩ := wiped_end (w := w) kb kc (by omega) (Nat.le_refl _) (by omega) (bw_call d0 b1)
    have HE : Hid (FaceP Q G w (.returned (.tuple #[.agg hz9, .bool false])) (wiped w.heap.size (w.heap.size + 1) w1)) := ⟨dW, .inr ⟨rfl, hg⟩⟩
    clear k0 k1 d0 z0 HC b1 dW
    go_wp2_with fail
    refine leaves_cons (f := 119) (args := #[.pointer (some ⟨w.heap.size, 0, none⟩), .pointer (some ⟨w.heap.size + 1, 0, none⟩)]) (by simp) (by simp [go_sem]) ?_
    refine (face_panicking w.heap.size (w.heap.size + 1) _ _ _ _ _ _ _ _ _ _ u pv [] _ kb kc (by omega)).mono ?_
    rintro e u' w'' ⟨rfl, rfl, rfl⟩
    have a0 := at_cell j0 0
    have a1 := at_cell j0 1
    have a2 := at_cell j0 2
    have a3 := at_cell j0 3
    have a4 := at_cell j0 4
    have a5 := at_cell j0 5
    have a6 := at_cell j0 6
    have a7 := at_cell j0 7
    have a8 := at_cell j0 8
    have ac := at_cell j1 0
    unfold hz9 at a0 a1 a2 a3 a4 a5 a6 a7 a8
    simp [Leaves, settle, results, Tryz.results60, go_sem, a0, a1, a2, a3, a4, a5, a6, a7, a8, ac]
    exact HE.out
end Go.Proofs.YtjhfeegilhmgkaaGreatDoor

namespace Go.Proofs.YtjhfeegilhmgkaaGreatDoor
open Go.RowKit

set_option linter.unusedVariables false

set_option maxRecDepth 100000

set_option linter.unusedSimpArgs false


/-- A house that the log comes to, with memory of its own. -/
def HsQ (base : Nat) (n : Int) (l : List Ent) (h : Hv) (W : World) : Prop :=
  ∃ ms : List Bk, rpOk n l = true ∧ h.up = true ∧ h.pg = n ∧ h.ak = 0 ∧ W.ownsRow base 39 9 (.slice h.lg.o h.lg.n h.lg.c) l.length (l.flatMap entC) ∧ OwnS base W (.slice h.c.o h.c.n h.c.c) (.slice h.p.o h.p.n h.p.c) (.slice h.b.o h.b.n h.b.c) (rpFrom (rpNew n) l).s.cs (rpFrom (rpNew n) l).s.ps ms ∧ ms.map Bk.pb = (rpFrom (rpNew n) l).s.bs ∧ OwnM base W (.slice h.t.o h.t.n h.t.c) (.slice h.r.o h.r.n h.r.c) (rpFrom (rpNew n) l).ts (rpFrom (rpNew n) l).rs ∧ (∀ g, ((Value.slice h.c.o h.c.n h.c.c).ownBlock = some g ∨ (Value.slice h.p.o h.p.n h.p.c).ownBlock = some g) → (Value.slice h.t.o h.t.n h.t.c).ownBlock ≠ some g)
end Go.Proofs.YtjhfeegilhmgkaaGreatDoor

