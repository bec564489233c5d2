/-
  Contracts and plain laws, one chapter behind the other.
-/
import Derived.Lib.Strings
import Derived.Shelf.LaysM
import Derived.Shelf.Strconv.Clone
import Derived.Tactics2
import Derived.ScopeJumps
import Derived.WalkMore
import Derived.Deep.Cut
import Derived.Deep.RegionLaw
import Derived.Lib.LazyBuf
import Derived.Deep.DeepCutAuto
import Derived.Lib.Slices
import Derived.Lib.Walk
import Derived.Lib.Bytealg
import Derived.RangeFuncBox
import Derived.Deep.RegionHeld3
import Derived.Lib.AppendZeros
import Derived.Laws.Cover1
import Derived.Test.YtibhepekmihagaaGreatDoorM01
import Derived.Test.YtibhepekmihagaaGreatDoorM02
import Derived.Test.YtibhepekmihagaaGreatDoorM03
import Derived.Test.YtibhepekmihagaaGreatDoorM04
import Derived.Test.YtibhepekmihagaaGreatDoorM05
import Derived.Test.YtibhepekmihagaaGreatDoorM06
import Derived.Test.YtibhepekmihagaaGreatDoorM07
import Derived.Test.YtibhepekmihagaaGreatDoorM10
import Derived.Test.YtibhepekmihagaaGreatDoorM11
import Derived.Test.YtibhepekmihagaaGreatDoorM12
import Derived.Test.YtibhepekmihagaaGreatDoorM13
import Derived.Test.YtibhepekmihagaaGreatDoorM14
import Derived.Test.YtibhepekmihagaaGreatDoorM16
import Derived.Test.YtibhepekmihagaaGreatDoorM18
import Derived.Test.YtibhepekmihagaaGreatDoorM19
import Derived.Test.YtibhepekmihagaaGreatDoorM25
import Derived.Test.YtibhepekmihagaaGreatDoorM26
import Derived.Test.YtibhepekmihagaaGreatDoorM27
import Derived.Test.YtibhepekmihagaaGreatDoorM30
import Derived.Test.YtibhepekmihagaaGreatDoorM31
import Derived.Test.YtibhepekmihagaaGreatDoorM32
namespace Go.Proofs.YtibhepekmihagaaGreatDoor
open Go.RowKit

set_option linter.unusedVariables false

set_option maxRecDepth 100000

theorem nine_all (x0 x1 x2 x3 x4 x5 x6 x7 x8 z0 z1 z2 z3 z4 z5 z6 z7 z8 : Value) : (((((((((#[x0, x1, x2, x3, x4, x5, x6, x7, x8].setIfInBounds 0 z0).setIfInBounds 1 z1).setIfInBounds 2 z2).setIfInBounds 3 z3).setIfInBounds 4 z4).setIfInBounds 5 z5).setIfInBounds 6 z6).setIfInBounds 7 z7).setIfInBounds 8 z8) = #[z0, z1, z2, z3, z4, z5, z6, z7, z8] := by
  apply Array.toList_inj.1
  simp only [Array.toList_setIfInBounds, List.set_cons_zero, List.set_cons_succ]

theorem nine_at {W : World} {b : Nat} {T : TypeId} {x0 x1 x2 x3 x4 x5 x6 x7 x8 : Value} (k : W.heap[b]? = some (.cells #[x0, x1, x2, x3, x4, x5, x6, x7, x8] T (0, 0))) (z0 z1 z2 z3 z4 z5 z6 z7 z8 : Value) :
    (((((((((W.setCell ⟨b, 0, none⟩ z0).setCell ⟨b, 1, none⟩ z1).setCell ⟨b, 2, none⟩ z2).setCell ⟨b, 3, none⟩ z3).setCell ⟨b, 4, none⟩ z4).setCell ⟨b, 5, none⟩ z5).setCell ⟨b, 6, none⟩ z6).setCell ⟨b, 7, none⟩ z7).setCell ⟨b, 8, none⟩ z8).heap[b]? = some (.cells #[z0, z1, z2, z3, z4, z5, z6, z7, z8] T (0, 0)) := by
  have h := set_at (set_at (set_at (set_at (set_at (set_at (set_at (set_at (set_at k 0 z0) 1 z1) 2 z2) 3 z3) 4 z4) 5 z5) 6 z6) 7 z7) 8 z8
  rw [nine_all] at h
  exact h
end Go.Proofs.YtibhepekmihagaaGreatDoor

namespace Go.Proofs.YtibhepekmihagaaGreatDoor
open Go.RowKit

set_option linter.unusedVariables false

set_option maxRecDepth 100000


/-- A shelf's box is written, all three of its cells. -/
theorem shelf_put {w W : World} {c : Nat} {x0 x1 x2 : Value} {T : TypeId} (kc : W.heap[c]? = some (.cells #[x0, x1, x2] T (0, 0))) (hc : w.heap.size ≤ c) (h0 : Below w.heap.size w W) (y0 y1 y2 : Value) :
    (((W.setCell ⟨c, 0, none⟩ y0).setCell ⟨c, 1, none⟩ y1).setCell ⟨c, 2, none⟩ y2).heap[c]? = some (.cells #[y0, y1, y2] T (0, 0)) ∧ Upto c W (((W.setCell ⟨c, 0, none⟩ y0).setCell ⟨c, 1, none⟩ y1).setCell ⟨c, 2, none⟩ y2) ∧ Below w.heap.size w (((W.setCell ⟨c, 0, none⟩ y0).setCell ⟨c, 1, none⟩ y1).setCell ⟨c, 2, none⟩ y2) :=
  ⟨set_at (set_at (set_at kc 0 y0) 1 y1) 2 y2, (((Upto.refl _ _).setCell ⟨c, 0, none⟩ (.inl rfl) _).setCell ⟨c, 1, none⟩ (.inl rfl) _).setCell ⟨c, 2, none⟩ (.inl rfl) _, bw_set (p := ⟨c, 2, none⟩) (bw_set (p := ⟨c, 1, none⟩) (bw_set (p := ⟨c, 0, none⟩) h0 hc _) hc _) hc _⟩

theorem newPool_no {n : Int} {z : (List Int × List Int) × Bool} (h : newPool n = z) (hz : z.2 = false) : z = (([], []), false) := by
  unfold newPool at h
  split at h
  · subst h; cases hz
  · exact h.symm

set_option maxHeartbeats 1600000 in
theorem implNewShelf_any (n : Int) (w : World) :
    Calls Tryz.prog 85 #[.int .i64 n] w fun e w' => ∃ u1 u2 ub : Value, e = .returned (.tuple #[.agg #[u1, u2, ub], .bool (newPool n).2]) ∧ OwnP w.heap.size w' u1 u2 (newPool n).1.1 (newPool n).1.2 ∧ OwnB w.heap.size w' ub [] ∧ Below w.heap.size w w' := by
  obtain ⟨W0, hW0, k0, d0, z0⟩ := box1 w #[.slice none 0 0, .slice none 0 0, .slice none 0 0] 28
  have HW0 : Hid (W0 = _) := hW0
  have l0 := heap_lt k0
  clear hW0 z0
  go_enter Tryz.func85, Tryz.ntmps85
  go_wp2_with fail
  rw [← HW0.out]
  clear HW0
  refine (implNewPool_any n _).mono ?_
  rintro e w1 ⟨u1, u2, rfl, own, b1⟩
  replace k0 := (b1.block _ l0).trans k0
  replace d0 := bw_call d0 b1
  obtain ⟨⟨⟨zc, zp⟩, made⟩, hz⟩ : ∃ x, newPool n = x := ⟨_, rfl⟩
  have HZ : Hid (newPool n = ((zc, zp), made)) := hz
  rw [hz] at own ⊢
  simp only at own ⊢
  obtain ⟨o1, c1, e1⟩ := own_slice own.c
  obtain ⟨o2, c2, e2⟩ := own_slice own.p
  subst e1 e2
  have hlt : w.heap.size < w1.heap.size := Nat.lt_of_lt_of_le l0 b1.size
  have q0 := at_cell k0 0
  have q1 := at_cell k0 1
  have q2 := at_cell k0 2
  have f0 := at_open k0 0
  have f1 := at_open k0 1
  have f2 := at_open k0 2
  have hne : ¬ w.heap.size = w1.heap.size := by omega
  cases made
  · have hn := newPool_no hz rfl
    simp only [Prod.mk.injEq] at hn
    obtain ⟨⟨rfl, rfl⟩, -⟩ := hn
    have HS : Hid _ := shelf_put (w := w) k0 (Nat.le_refl _) d0 (.slice none 0 0) (.slice none 0 0) (.slice none 0 0)
    have bP : ∀ X : World, Below X.heap.size X (X.alloc (.cells #[.slice o1 0 c1, .slice o2 0 c2] 25)) := fun X => bw_alloc (Below.refl _ _)
    have HT : Hid _ := And.intro (((bP _).block _ (heap_lt HS.out.1)).trans HS.out.1) (bw_call HS.out.2.2 (bP _))
    clear own d0 k0 b1 hz bP
    go_wp2_with fail
    exact bodyPost_ret (v := .tuple #[.agg #[.slice none 0 0, .slice none 0 0, .slice none 0 0], .bool false]) (by simp [results, Tryz.results85, go_sem, at_cell HT.out.1]) rfl ⟨.slice none 0 0, .slice none 0 0, .slice none 0 0, by rw [HZ.out], by rw [HZ.out]; exact OwnP.nil _ _, ⟨owns_nil _ _ _ _, fun b hb => by simp at hb⟩, HT.out.2⟩
  · have HS : Hid _ := shelf_put (w := w) k0 (Nat.le_refl _) d0 (.slice o1 zc.length c1) (.slice o2 zp.length c2) (.slice (some ⟨w1.heap.size + 1, 0, none⟩) 0 0)
    have ow3 := (own.upto HS.out.2.1 l0).mono (Nat.le_of_lt l0)
    have z3 : (((w1.setCell ⟨w.heap.size, 0, none⟩ (.slice o1 zc.length c1)).setCell ⟨w.heap.size, 1, none⟩ (.slice o2 zp.length c2)).setCell ⟨w.heap.size, 2, none⟩ (.slice (some ⟨w1.heap.size + 1, 0, none⟩) 0 0)).heap.size = w1.heap.size := by simp
    have HZ3 : Hid _ := z3
    have HO3 : Hid _ := ow3
    clear own d0 k0 b1 hz ow3 z3
    go_wp2_with fail
    revert HS HO3 HZ3
    generalize ((w1.setCell ⟨w.heap.size, 0, none⟩ (.slice o1 zc.length c1)).setCell ⟨w.heap.size, 1, none⟩ (.slice o2 zp.length c2)).setCell ⟨w.heap.size, 2, none⟩ (.slice (some ⟨w1.heap.size + 1, 0, none⟩) 0 0) = W3
    intro HS HZ3 HO3
    obtain ⟨W5, hW5, k5, k6, d5, z5⟩ := box2 W3 #[.slice o1 zc.length c1, .slice o2 zp.length c2] #[] 25 133
    rw [HZ3.out] at k6
    rw [← hW5]
    have k7 := (d5.block _ (heap_lt HS.out.1)).trans HS.out.1
    have HT : Hid _ := And.intro k7 (And.intro (HO3.out.below d5) (bw_call HS.out.2.2 d5))
    have HOB : Hid (W5.ownsRow w.heap.size 133 5 (.slice (some ⟨w1.heap.size + 1, 0, none⟩) 0 0) 0 []) := ⟨rfl, .inr ⟨_, 0, #[], rfl, by omega, k6, Nat.le_refl _, Nat.zero_le _, rfl, rfl⟩⟩
    exact bodyPost_ret (v := .tuple #[.agg #[.slice o1 zc.length c1, .slice o2 zp.length c2, .slice (some ⟨w1.heap.size + 1, 0, none⟩) 0 0], .bool true]) (by simp [results, Tryz.results85, go_sem, at_cell HT.out.1]) rfl ⟨_, _, _, by rw [HZ.out], by rw [HZ.out]; exact HT.out.2.1, ⟨HOB.out, fun b hb => by simp at hb⟩, HT.out.2.2⟩
end Go.Proofs.YtibhepekmihagaaGreatDoor

namespace Go.Proofs.YtibhepekmihagaaGreatDoor
open Go.RowKit

set_option linter.unusedVariables false

set_option maxRecDepth 100000

/-- A box of a shelf is written: a shelf of one's own stays. -/
theorem OwnS.answer {base c : Nat} {W W' : World} {v1 v2 vb : Value} {cs ps : List Int} {bks : List Bk} {xs : Array Value} (h : OwnS base W v1 v2 vb cs ps bks) (k : W.heap[c]? = some (.cells xs 28 (0, 0))) (u : Upto c W W') : OwnS base W' v1 v2 vb cs ps bks := by
  have st : ∀ (e : TypeId) (kk n : Nat) (v : Value) (xs : List Value), 28 ≠ e → W.ownsRow base e kk v n xs → W'.ownsRow base e kk v n xs := fun e kk n v xs he hr => own_rng_not hr (fun q hq hqv => u.block q hq (fun hx => own_not_box hr k he (by rw [← hx]; exact hqv)))
  exact ⟨⟨st _ _ _ _ _ (by decide) h.p.c, st _ _ _ _ _ (by decide) h.p.p, h.p.apart⟩, ⟨st _ _ _ _ _ (by decide) h.b.row, fun b hb => st _ _ _ _ _ (by decide) (h.b.maps b hb)⟩, h.a⟩
end Go.Proofs.YtibhepekmihagaaGreatDoor

namespace Go.Proofs.YtibhepekmihagaaGreatDoor
open Go.RowKit

set_option linter.unusedVariables false

set_option maxRecDepth 100000


/-- A row of books that is not empty: where it lies. -/
theorem OwnB.at {base : Nat} {w : World} {vb : Value} {bks : List Bk} (h : OwnB base w vb bks) (i : Nat) (hi : i < bks.length) : ∃ g cap, vb = .slice (some ⟨g, 0, none⟩) bks.length cap := by
  obtain ⟨n, hn1⟩ : ∃ n, bks.length = n + 1 := ⟨bks.length - 1, by omega⟩
  have hr := h.row
  rw [hn1] at hr ⊢
  exact owns_form hr
end Go.Proofs.YtibhepekmihagaaGreatDoor

namespace Go.Proofs.YtibhepekmihagaaGreatDoor
open Go.RowKit

set_option linter.unusedVariables false

set_option maxRecDepth 100000


/-- A box of a pool is written: a pool of one's own stays. -/
theorem OwnP.answer {base c : Nat} {W W' : World} {v1 v2 : Value} {cs ps : List Int} {xs : Array Value} (h : OwnP base W v1 v2 cs ps) (k : W.heap[c]? = some (.cells xs 25 (0, 0))) (u : Upto c W W') : OwnP base W' v1 v2 cs ps := by
  have st : ∀ (v : Value) (n : Nat) (xs : List Value), W.ownsRow base 2 1 v n xs → W'.ownsRow base 2 1 v n xs := fun v n xs hr => own_rng_not hr (fun q hq hqv => u.block q hq (fun hx => own_not_box hr k (by decide) (by rw [← hx]; exact hqv)))
  exact ⟨st _ _ _ h.c, st _ _ _ h.p, h.apart⟩
end Go.Proofs.YtibhepekmihagaaGreatDoor

namespace Go.Proofs.YtibhepekmihagaaGreatDoor
open Go.RowKit

set_option linter.unusedVariables false

set_option maxRecDepth 100000

def ChPart (ad : Nat → Addr) (base : Nat) (X : Sf × (Int × Int)) (u1 u2 u3 : Value) (told : Int) (err : Value) (w' : World) : Prop :=
  (X.2.1 = 0 ∧ told = X.2.2 ∧ err = .nilIface ∧ ∃ ms : List Bk, OwnS base w' u1 u2 u3 X.1.cs X.1.ps ms ∧ ms.map Bk.pb = X.1.bs) ∨ (X.2.1 = 9 ∧ err = refErr ad 9)

theorem ChPart.own {ad : Nat → Addr} {base c : Nat} {X : Sf × (Int × Int)} {u1 u2 u3 : Value} {told : Int} {err : Value} {W W' : World} {xs : Array Value} (h : ChPart ad base X u1 u2 u3 told err W) (k : W.heap[c]? = some (.cells xs 28 (0, 0))) (u : Upto c W W') : ChPart ad base X u1 u2 u3 told err W' := by
  rcases h with ⟨h0, h1, h2, ms, ow, hm⟩ | h
  · exact .inl ⟨h0, h1, h2, ms, OwnS.answer ow k u, hm⟩
  · exact .inr h

theorem ChPart.mono {ad : Nat → Addr} {base base' : Nat} {X : Sf × (Int × Int)} {u1 u2 u3 : Value} {told : Int} {err : Value} {W : World} (h : ChPart ad base X u1 u2 u3 told err W) (hb : base' ≤ base) : ChPart ad base' X u1 u2 u3 told err W := by
  rcases h with ⟨h0, h1, h2, ms, ow, hm⟩ | h
  · exact .inl ⟨h0, h1, h2, ms, ow.mono hb, hm⟩
  · exact .inr h
end Go.Proofs.YtibhepekmihagaaGreatDoor

namespace Go.Proofs.YtibhepekmihagaaGreatDoor
open Go.RowKit

set_option linter.unusedVariables false

set_option maxRecDepth 100000

set_option linter.unusedSimpArgs false


theorem Tryz.infoEntG : (Tryz.prog.info? 91).map (fun i => (i.zero, i.size, i.bytes)) = some (some (.agg #[.int .i64 0, .int .i64 0, .int .i64 0, .int .i64 0, .string ByteArray.empty, .string ByteArray.empty, .int .i64 0, .int .i64 0, .int .i64 0]), 9, 88) := by kernel_rfl

/-- These blocks are as they were. -/
def KeepAt (T : Nat → Prop) (W X : World) : Prop := ∀ k, T k → X.heap[k]? = W.heap[k]?

theorem KeepAt.set {T : Nat → Prop} {W X : World} {b : Nat} (h : KeepAt T W X) (hb : ¬ T b) (i : Nat) (v : Value) : KeepAt T W (X.setCell ⟨b, i, none⟩ v) := fun k hk => (Below.heap_setCell X ⟨b, i, none⟩ v k (fun e => hb ((show k = b from e) ▸ hk))).trans (h k hk)

theorem onlyU {w w' : World} {c : Nat} (u : Upto c w w') : Only (fun k => k = c) w w' := ⟨u.os, u.tape, u.output, u.size, fun k hk hn => u.block k hk hn⟩

/-- The answer's box is written. -/
theorem grown_ans {W V : World} {R : Nat} {z0 z1 z2 z3 z4 z5 z6 z7 z8 : Value} (kR : W.heap[R]? = some (.cells #[z0, z1, z2, z3, z4, z5, z6, z7, z8] 33 (0, 0))) (x0 x1 v2 x3 v4 v5 v6 v7 v8 : Value)
    (hV : V = ((((((((W.setCell ⟨R, 0, none⟩ x0).setCell ⟨R, 1, none⟩ x1).setCell ⟨R, 2, none⟩ v2).setCell ⟨R, 3, none⟩ x3).setCell ⟨R, 4, none⟩ v4).setCell ⟨R, 5, none⟩ v5).setCell ⟨R, 6, none⟩ v6).setCell ⟨R, 7, none⟩ v7).setCell ⟨R, 8, none⟩ v8) :
    V.heap[R]? = some (.cells #[x0, x1, v2, x3, v4, v5, v6, v7, v8] 33 (0, 0)) ∧ Upto R W V := by
  subst hV
  have uV : Upto R W _ := (((((((((Upto.refl R W).setCell ⟨R, 0, none⟩ (.inl rfl) x0).setCell ⟨R, 1, none⟩ (.inl rfl) x1).setCell ⟨R, 2, none⟩ (.inl rfl) v2).setCell ⟨R, 3, none⟩ (.inl rfl) x3).setCell ⟨R, 4, none⟩ (.inl rfl) v4).setCell ⟨R, 5, none⟩ (.inl rfl) v5).setCell ⟨R, 6, none⟩ (.inl rfl) v6).setCell ⟨R, 7, none⟩ (.inl rfl) v7).setCell ⟨R, 8, none⟩ (.inl rfl) v8
  exact ⟨nine_at kR _ _ _ _ _ _ _ _ _, uV⟩
end Go.Proofs.YtibhepekmihagaaGreatDoor

namespace Go.Proofs.YtibhepekmihagaaGreatDoor
open Go.RowKit

set_option linter.unusedVariables false

set_option maxRecDepth 100000

set_option linter.unusedSimpArgs false


theorem newPool_ok (n : Int) : (newPool n).2 = inB n 1 24 := by
  unfold newPool
  by_cases h : 1 ≤ n ∧ n ≤ 24
  · rw [if_pos h, (inB_iff _ _ _).2 h]
  · rw [if_neg h]
    symm
    rw [Bool.eq_false_iff]
    exact fun h2 => h ((inB_iff _ _ _).1 h2)

theorem made_log (n : Nat) (hn : n ≤ 1048576) : ∃ M : Array Value, (∀ W : World, (Instr.makeSlice 22 (.int .i64 0) (.int .i64 (n : Int))).run Tryz.prog W = .ok (.slice (some ⟨W.heap.size, 0, none⟩) 0 n) (W.alloc (.cells M 91))) ∧
    ∀ (W : World) (base : Nat), base ≤ W.heap.size → (W.alloc (.cells M 91)).ownsRow base 91 9 (.slice (some ⟨W.heap.size, 0, none⟩) 0 n) 0 [] := by
  obtain ⟨i0, hi, hz0, hz1, hz2⟩ := info_parts Tryz.infoEntG
  refine ⟨madeCells (Value.agg #[.int .i64 0, .int .i64 0, .int .i64 0, .int .i64 0, .string ByteArray.empty, .string ByteArray.empty, .int .i64 0, .int .i64 0, .int .i64 0]).cells (n * 9), fun W => ?_, fun W base hb => ?_⟩
  · have h := run_make (P := Tryz.prog) W 22 91 i0 (.agg #[.int .i64 0, .int .i64 0, .int .i64 0, .int .i64 0, .string ByteArray.empty, .string ByteArray.empty, .int .i64 0, .int .i64 0, .int .i64 0]) Tryz.underlying22 hi hz0 .i64 .i64 0 (n : Int) (by omega) (by omega) (by rw [hz2]; omega) (by omega)
    rw [hz1, Int.toNat_natCast] at h
    simpa using h
  · exact ⟨rfl, .inr ⟨_, n, _, rfl, hb, heap_alloc_new W _, Nat.zero_le _, by unfold maxLen; omega, by rw [size_madeCells], by simp⟩⟩

/-- The house in its box, when k entries of the log are done. -/
structure HsAt (n : Int) (l : List Ent) (k : Nat) (base b : Nat) (W : World) (vl u1 u2 ub m1 m2 : Value) (ms : List Bk) : Prop where
  box : W.heap[b]? = some (.cells #[.bool true, .int .i64 n, vl, .int .i64 0, u1, u2, ub, m1, m2] 33 (0, 0))
  log : W.ownsRow base 91 9 vl (l.take k).length ((l.take k).flatMap entC)
  sh : OwnS base W u1 u2 ub (rpFrom (rpNew n) (l.take k)).s.cs (rpFrom (rpNew n) (l.take k)).s.ps ms
  bs : ms.map Bk.pb = (rpFrom (rpNew n) (l.take k)).s.bs
  mm : OwnM base W m1 m2 (rpFrom (rpNew n) (l.take k)).ts (rpFrom (rpNew n) (l.take k)).rs
  ap : (∀ g, (u1.ownBlock = some g ∨ u2.ownBlock = some g) → m1.ownBlock ≠ some g)

theorem HsAt.below {n : Int} {l : List Ent} {k base b : Nat} {W W' : World} {vl u1 u2 ub m1 m2 : Value} {ms : List Bk} (h : HsAt n l k base b W vl u1 u2 ub m1 m2 ms) (d : Below W.heap.size W W') : HsAt n l k base b W' vl u1 u2 ub m1 m2 ms :=
  ⟨(d.block _ (heap_lt h.box)).trans h.box, owns_below h.log d, h.sh.below d, h.bs, h.mm.below d, h.ap⟩

theorem HsAt.log_not {n : Int} {l : List Ent} {k base b : Nat} {W : World} {vl u1 u2 ub m1 m2 : Value} {ms : List Bk} (h : HsAt n l k base b W vl u1 u2 ub m1 m2 ms) {c : Nat} {zs : Array Value} (kc : W.heap[c]? = some (.cells zs 33 (0, 0))) : ¬ vl.ownBlock = some c := own_not_box h.log kc (by decide)
end Go.Proofs.YtibhepekmihagaaGreatDoor

namespace Go.Proofs.YtibhepekmihagaaGreatDoor
open Go.RowKit

set_option linter.unusedVariables false

set_option maxRecDepth 100000


/-- One operation waits for the next, and so on. -/
def pathB (md : Region.Mode) (ops : Array Oper) : Nat → List Nat → Bool
  | _, [] => true
  | p, i :: l => depB md ops p i && pathB md ops i l

theorem Down.path {md : Region.Mode} {ops : Array Oper} {L : Array Bool} (h : Down md ops L) : ∀ (l : List Nat) (p : Nat), pathB md ops p l = true → L.getD p false = true → L.getD (l.getLastD p) false = true
  | [], p, _, hp => hp
  | i :: l, p, hl, hp => by
    simp only [pathB, Bool.and_eq_true] at hl
    have := Down.path h l i hl.2 (h p i hp hl.1)
    rw [List.getLastD_cons]
    exact this

theorem Down.no {md : Region.Mode} {ops : Array Oper} {L : Array Bool} (h : Down md ops L) (p : Nat) (l : List Nat) {i : Nat} (hn : L.getD i true = false) (hp : pathB md ops p l = true) (hi : l.getLastD p = i) : L.getD p false = false := by
  rw [Bool.eq_false_iff]
  intro h1
  have h2 := h.path l p hp h1
  rw [hi] at h2
  have h3 := not_done hn
  rw [h2] at h3
  cases h3

/-- p: the store; sB, sV: the slots of its address and of its value. -/
structure RX (ops : Array Oper) (p sB sV : Nat) (R : Nat → Value → World → Prop) (a0 : Act) (W : World) (L : Array Bool) (a : Act) (x X : World) : Prop where
  df : a.defers = a0.defers
  sz : a.tmps.size = a0.tmps.size
  old : ∀ s, ops.toList.all (fun o => o.dst != some s) = true → a.tmps.getD s undef = a0.tmps.getD s undef
  rel : ∀ j s, L.getD j false = true → ((ops[j]?).bind (·.dst)) = some s → R j (a.tmps.getD s undef) X
  bel : Below W.heap.size W X
  pre : L.getD p false = false → x = X
  fin : L.getD p false = true → ∃ n zs, a.tmps.getD sB undef = .pointer (some ⟨n, 0, none⟩) ∧ a.tmps.getD sV undef = .agg zs ∧ x = X.setRow n zs

def RXs (ops : Array Oper) (p sB sV : Nat) (R : Nat → Value → World → Prop) (a0 : Act) (W : World) (L : Array Bool) (a : Act) (x : World) : Prop := ∃ X, RX ops p sB sV R a0 W L a x X

theorem RXs.start (ops : Array Oper) (p sB sV : Nat) (R : Nat → Value → World → Prop) (a0 : Act) (W : World) : RXs ops p sB sV R a0 W (Array.replicate ops.size false) a0 W.drew := by
  have hn : ∀ j, (Array.replicate ops.size false).getD j false = false := fun j => by
    rw [Array.getD_eq_getD_getElem?, Array.getElem?_replicate]
    split <;> rfl
  exact ⟨W.drew, rfl, rfl, fun _ _ => rfl, (fun j s h => by rw [hn] at h; cases h), bw_drew (Below.refl _ _), fun _ => rfl, (fun h => by rw [hn] at h; cases h)⟩

/-- An operation ahead of the store: it answers, and may make memory. -/
theorem RX.val {ops : Array Oper} {p sB sV : Nat} {R : Nat → Value → World → Prop} {a0 : Act} {W : World} {L : Array Bool} {a : Act} {x X : World} (h : RX ops p sB sV R a0 W L a x X) (i s : Nat) (v : Value) (x' : World) (hp : i ≠ p) (hi : ((ops[i]?).bind (·.dst)) = some s) (hs : s < a0.tmps.size) (hd : (ops.toList.all (fun o => o.dst != some s)) = false) (hu : uniqB ops s i = true)
    (hn : L.getD p false = false) (hb : Below x.heap.size x x') (hv : R i v x') (hm : ∀ j u, R j u x → R j u x') : RXs ops p sB sV R a0 W (L.setIfInBounds i true) (a.put (some s) v) x' := by
  obtain rfl := h.pre hn
  refine ⟨x', h.df, by show (a.tmps.setIfInBounds s v).size = _; rw [Array.size_setIfInBounds]; exact h.sz, fun r hr => ?_, fun j r hj hr => ?_, bw_call h.bel hb, fun _ => rfl, fun hl => by rw [getD_other hp, hn] at hl; cases hl⟩
  · have hne : s ≠ r := fun e => by subst e; rw [hd] at hr; cases hr
    exact (tmps_other v hne).trans (h.old r hr)
  · show R j ((a.tmps.setIfInBounds s v).getD r undef) x'
    by_cases e : i = j
    · subst e
      rw [hi] at hr
      cases hr
      rw [tmps_self v (by rw [h.sz]; exact hs)]
      exact hv
    · have hne : s ≠ r := fun e2 => by subst e2; exact e (uniq_of hu j hr).symm
      rw [tmps_other v hne]
      rw [getD_other e] at hj
      exact hm _ _ (h.rel j r hj hr)

/-- An operation that answers and makes nothing, ahead of the store or behind it. -/
theorem RX.put {ops : Array Oper} {p sB sV : Nat} {R : Nat → Value → World → Prop} {a0 : Act} {W : World} {L : Array Bool} {a : Act} {x X : World} (h : RX ops p sB sV R a0 W L a x X) (i s : Nat) (v : Value) (hp : i ≠ p) (hi : ((ops[i]?).bind (·.dst)) = some s) (hs : s < a0.tmps.size) (hd : (ops.toList.all (fun o => o.dst != some s)) = false) (hu : uniqB ops s i = true)
    (hB : s ≠ sB) (hV : s ≠ sV) (hv : R i v X) : RXs ops p sB sV R a0 W (L.setIfInBounds i true) (a.put (some s) v) x := by
  refine ⟨X, h.df, by show (a.tmps.setIfInBounds s v).size = _; rw [Array.size_setIfInBounds]; exact h.sz, fun r hr => ?_, fun j r hj hr => ?_, h.bel, fun hl => h.pre (by rwa [getD_other hp] at hl), fun hl => ?_⟩
  · have hne : s ≠ r := fun e => by subst e; rw [hd] at hr; cases hr
    exact (tmps_other v hne).trans (h.old r hr)
  · show R j ((a.tmps.setIfInBounds s v).getD r undef) X
    by_cases e : i = j
    · subst e
      rw [hi] at hr
      cases hr
      rw [tmps_self v (by rw [h.sz]; exact hs)]
      exact hv
    · have hne : s ≠ r := fun e2 => by subst e2; exact e (uniq_of hu j hr).symm
      rw [tmps_other v hne]
      rw [getD_other e] at hj
      exact h.rel j r hj hr
  · rw [getD_other hp] at hl
    obtain ⟨n, zs, e1, e2, e3⟩ := h.fin hl
    exact ⟨n, zs, (tmps_other v hB).trans e1, (tmps_other v hV).trans e2, e3⟩

theorem RX.store {ops : Array Oper} {p sB sV : Nat} {R : Nat → Value → World → Prop} {a0 : Act} {W : World} {L : Array Bool} {a : Act} {x X : World} (h : RX ops p sB sV R a0 W L a x X) (hp : p < L.size) (hn : L.getD p false = false) (hd : ((ops[p]?).bind (·.dst)) = none) {n : Nat} {zs : Array Value} (hB : a.tmps.getD sB undef = .pointer (some ⟨n, 0, none⟩)) (hV : a.tmps.getD sV undef = .agg zs) : RXs ops p sB sV R a0 W (L.setIfInBounds p true) a (x.setRow n zs) := by
  obtain rfl := h.pre hn
  refine ⟨x, h.df, h.sz, h.old, fun j r hj hr => ?_, h.bel, fun hl => ?_, fun _ => ⟨n, zs, hB, hV, rfl⟩⟩
  · by_cases e : p = j
    · subst e; rw [hd] at hr; cases hr
    · rw [getD_other e] at hj
      exact h.rel j r hj hr
  · rw [getD_self hp] at hl; cases hl

theorem RX.frame {ops : Array Oper} {p sB sV : Nat} {R : Nat → Value → World → Prop} {a0 : Act} {W : World} {L : Array Bool} {a : Act} {x X : World} (h : RX ops p sB sV R a0 W L a x X) (S : List Nat) (hS : frameB ops S a0.tmps.size = true) : a = Act.puts a0 (fun s => a.tmps.getD s undef) S := by
  have hd : a.defers = (Act.puts a0 (fun s => a.tmps.getD s undef) S).defers := by rw [puts_defers]; exact h.df
  have ht : a.tmps = (Act.puts a0 (fun s => a.tmps.getD s undef) S).tmps := by
    refine arr_ext (by rw [puts_size]; exact h.sz) (fun r hr => ?_)
    rw [puts_at _ S a0 r (by rw [← h.sz]; exact hr)]
    by_cases hm : r ∈ S
    · rw [if_pos hm]
    · rw [if_neg hm]
      exact h.old r (frame_of hS r (by rw [← h.sz]; exact hr) hm)
  generalize Act.puts a0 (fun s => a.tmps.getD s undef) S = b at hd ht
  cases a
  cases b
  simp only at hd ht
  rw [hd, ht]

theorem row_upto {w : World} {g : Nat} {cs : Array Value} : Upto g w (w.setRow g cs) := by
  refine ⟨rfl, rfl, rfl, by simp [World.setRow], fun k hk hne => ?_⟩
  simp only [World.setRow, Array.getElem?_modify]
  rw [if_neg (fun e => hne e.symm)]
end Go.Proofs.YtibhepekmihagaaGreatDoor

