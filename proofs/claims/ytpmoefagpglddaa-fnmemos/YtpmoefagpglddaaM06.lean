/-
  Contracts and plain laws, one chapter behind the other.
-/
import Derived.Deep.DeepCutAuto
import Derived.Deep.RegionHeld3
import Derived.Test.YtpmoefagpglddaaM01
import Derived.Test.YtpmoefagpglddaaM02
import Derived.Test.YtpmoefagpglddaaM03
import Derived.Test.YtpmoefagpglddaaM05
namespace Go.Proofs.Ytpmoefagpglddaa
open Go.RowKit

set_option linter.unusedVariables false


theorem seven_lit (a b c d e f g : Int) (k : Nat) (hk : k < 7) : (#[Value.int .i64 a, .int .i64 b, .int .i64 c, .int .i64 d, .int .i64 e, .int .i64 f, .int .i64 g] : Array Value)[k]? = some (.int .i64 ([a, b, c, d, e, f, g].getD k 0)) := by
  have h : k = 0 ∨ k = 1 ∨ k = 2 ∨ k = 3 ∨ k = 4 ∨ k = 5 ∨ k = 6 := by omega
  rcases h with rfl | rfl | rfl | rfl | rfl | rfl | rfl <;> rfl

/-- A literal that is laid behind the store. -/
theorem lit_late (w : World) (b : Nat) (y0 y1 : Value) (cs : Array Value) (t : TypeId) (j : Nat) : (((w.setCell ⟨b, 0, none⟩ y0).setCell ⟨b, 1, none⟩ y1).alloc (.cells cs t)).cell? ⟨w.heap.size, j, none⟩ = cs[j]? := by
  have h := World.cell?_alloc_mark ((w.setCell ⟨b, 0, none⟩ y0).setCell ⟨b, 1, none⟩ y1) cs t (0, 0) j
  rwa [World.size_setCell, World.size_setCell] at h

theorem late_end {w X : World} {b : Nat} {cs : Array Value} {T : TypeId} {v1 v2 : Value} {ts : List Int} {rs : List (Int × Int)} (k : X.heap[b]? = some (.cells cs T (0, 0))) (r : RM X.heap.size X v1 v2 ts rs) (d : Below w.heap.size w X) (lit : Array Value) (t : TypeId) :
    (X.alloc (.cells lit t)).heap[b]? = some (.cells cs T (0, 0)) ∧ RM (X.alloc (.cells lit t)).heap.size (X.alloc (.cells lit t)) v1 v2 ts rs ∧ Below w.heap.size w (X.alloc (.cells lit t)) := by
  have hb : Below X.heap.size X (X.alloc (.cells lit t)) := bw_alloc (Below.refl _ _)
  exact ⟨(hb.block _ (heap_lt k)).trans k, (r.below hb).mono hb.size, bw_call d hb⟩

set_option maxRecDepth 100000 in
set_option maxHeartbeats 6400000 in
theorem drawKnown_any (x : Option Addr) (len cap : Nat) (w : World) (hs : Src w w.heap.size x len) :
    Calls Try.prog 11 #[.slice x len cap] w fun e w' => ∃ (v1 v2 : Value) (ts : List Int) (rs : List (Int × Int)) (k t : Int), e = .returned (.tuple #[.agg #[v1, v2], .int .i64 k, .int .i64 t]) ∧ RM w'.heap.size w' v1 v2 ts rs ∧ Below w.heap.size w w' := by
  obtain ⟨W0, hW0, kR, d0, z0⟩ := box1 w #[.slice none 0 0, .slice none 0 0] 27
  have HW0 : Hid (W0 = _) := hW0
  have hs0 := (hs.below d0).mono d0.size
  have sR : w.heap.size < W0.heap.size := by omega
  clear hW0 z0 hs
  go_enter Try.func11, Try.ntmps11
  go_upto_region 1 with fail
  rw [← HW0.out]
  clear HW0
  go_wp2_with fail
  refine (new_any x len cap _ hs0).mono ?_
  rintro e w1 ⟨rfl, b1, kc⟩
  replace kR := (b1.block _ sR).trans kR
  replace d0 := bw_call d0 b1
  have z1 := b1.size
  clear b1 hs0
  go_wp2_with fail
  refine (draw12_any _ x len cap _ kc).mono ?_
  rintro e w2 ⟨v1, v2, ts, rs, rfl, rr, hg1, hg2, u2, k2⟩
  replace kR := (u2.block _ (Nat.lt_of_lt_of_le sR z1) (Nat.ne_of_lt sR)).trans kR
  replace d0 := d0.trans (u2.toBelow (by omega) (by omega))
  obtain ⟨o1, c1, o2, c2, rfl, rfl⟩ := rr.forms
  have hw1 : w.heap.size < w1.heap.size := by omega
  clear u2 kc
  obtain ⟨W3, hW3, kB, b3, z3⟩ := box1 w2 #[.slice o1 ts.length c1, .slice o2 rs.length c2] 27
  have HW3 : Hid (W3 = _) := hW3
  have k3 := k2.below b3
  replace kR := (b3.block _ (heap_lt kR)).trans kR
  replace d0 := bw_call d0 b3
  replace rr := (rr.below b3).mono b3.size
  have hz2 : W0.heap.size < w2.heap.size := k2.lt
  clear hW3 b3 z3 k2
  go_upto_region 3 with fail
  rw [← HW3.out]
  clear HW3
  generalize w2.heap.size = nB at *
  go_wp2_with fail
  refine (from_any _ x len cap (-1) 4 _ (by omega) (by omega) (by omega) k3).mono ?_
  rintro e w4 ⟨k, rfl, hk, u4, k4⟩
  replace kR := (u4.block _ (heap_lt kR) (Nat.ne_of_lt sR)).trans kR
  replace kB := (u4.block _ (heap_lt kB) (by omega)).trans kB
  replace d0 := d0.trans (u4.toBelow (by have := d0.size; omega) (by omega))
  have nc1 : (Value.slice o1 ts.length c1).ownBlock ≠ some W0.heap.size := fun e => by have := hg1 _ e; omega
  have nc2 : (Value.slice o2 rs.length c2).ownBlock ≠ some W0.heap.size := fun e => by have := hg2 _ e; omega
  replace rr := rr.box nc1 nc2 u4
  clear u4 k3 W3 w2
  have HJ7 : ∀ (jn : Nat) (Z : Prop), (0 ≤ (jn : Int) ∧ ((0 : Int) < 7 → (jn : Int) < 7) ∧ Z) → jn < 7 := fun jn Z h => by have := h.2.1 (by decide); omega
  have HJI : ∀ jn : Nat, jn < 7 → (jn : Int) < 7 := fun jn h => by omega
  have HJ0 : ∀ jn : Nat, (0 : Int) ≤ (jn : Int) := fun jn => by omega
  have lB := heap_lt kB
  have lR := heap_lt kR
  have hr4 : w.heap.size < w4.heap.size := lR
  have hBc : nB ≠ W0.heap.size := by omega
  have hRc : w.heap.size ≠ W0.heap.size := by omega
  have hlc := k4.lt
  have HKB : ∀ X : World, X.heap[nB]? = w4.heap[nB]? → X.cell? ⟨nB, 0, none⟩ = some (.slice o1 ts.length c1) ∧ X.cell? ⟨nB, 1, none⟩ = some (.slice o2 rs.length c2) := fun X hX => ⟨at_cell (hX.trans kB) 0, at_cell (hX.trans kB) 1⟩
  have HKR : ∀ X : World, X.heap[w.heap.size]? = w4.heap[w.heap.size]? → (X.cell? ⟨w.heap.size, 0, none⟩ = some (.slice none 0 0) ∧ X.cell? ⟨w.heap.size, 1, none⟩ = some (.slice none 0 0)) ∧ X.frozen? ⟨w.heap.size, 0, none⟩ = false ∧ X.frozen? ⟨w.heap.size, 1, none⟩ = false := fun X hX => ⟨⟨at_cell (hX.trans kR) 0, at_cell (hX.trans kR) 1⟩, at_open (hX.trans kR) 0, at_open (hX.trans kR) 1⟩
  obtain ⟨p0, p1⟩ := HKB w4 rfl
  obtain ⟨p0d, p1d⟩ := HKB w4.drew rfl
  obtain ⟨p0a, p1a⟩ := HKB (w4.alloc (.cells #[.int .i64 0, .int .i64 1, .int .i64 3, .int .i64 5, .int .i64 9, .int .i64 1000, .int .i64 1001] 2)).drew (Below.heap_alloc _ _ _ lB)
  have FIN : Hid (∀ X : World, Upto W0.heap.size w4 X → ((X.setCell ⟨w.heap.size, 0, none⟩ (.slice o1 ts.length c1)).setCell ⟨w.heap.size, 1, none⟩ (.slice o2 rs.length c2)).heap[w.heap.size]? = some (.cells #[.slice o1 ts.length c1, .slice o2 rs.length c2] 27 (0, 0)) ∧ RM ((X.setCell ⟨w.heap.size, 0, none⟩ (.slice o1 ts.length c1)).setCell ⟨w.heap.size, 1, none⟩ (.slice o2 rs.length c2)).heap.size ((X.setCell ⟨w.heap.size, 0, none⟩ (.slice o1 ts.length c1)).setCell ⟨w.heap.size, 1, none⟩ (.slice o2 rs.length c2)) (.slice o1 ts.length c1) (.slice o2 rs.length c2) ts rs ∧ Below w.heap.size w ((X.setCell ⟨w.heap.size, 0, none⟩ (.slice o1 ts.length c1)).setCell ⟨w.heap.size, 1, none⟩ (.slice o2 rs.length c2)) ∧ ∀ (b j : Nat) (v : Value), X.cell? ⟨b, j, none⟩ = some v → w.heap.size < b → ((X.setCell ⟨w.heap.size, 0, none⟩ (.slice o1 ts.length c1)).setCell ⟨w.heap.size, 1, none⟩ (.slice o2 rs.length c2)).cell? ⟨b, j, none⟩ = some v) := fun X uX => by
    obtain ⟨kS, uS⟩ := set_two ((uX.block _ lR hRc).trans kR) (.slice o1 ts.length c1) (.slice o2 rs.length c2)
    have dX := d0.trans (uX.toBelow d0.size (by omega))
    exact ⟨kS, (rr.box nc1 nc2 uX).box (fun e => by have := hg1 _ e; omega) (fun e => by have := hg2 _ e; omega) uS, dX.trans (uS.toBelow dX.size (Nat.le_refl _)), fun b j v hv hb => (uS.cell (p := ⟨b, j, none⟩) (World.block_lt_of_cell? X _ hv) (by simp; omega)).trans hv⟩
  clear kB kR rr hg1 hg2 d0
  go_wp2_with fail
  go_region_law
    ((go_simp; go_at_call 29; first
      | (refine (below_any W0.heap.size x len cap 7 (w4.alloc (.cells #[.int .i64 0, .int .i64 1, .int .i64 3, .int .i64 5, .int .i64 9, .int .i64 1000, .int .i64 1001] 2)).drew (by omega) ((k4.alloc _).drew)).mono ?_; rintro e w6 ⟨y6, rfl, hy6, u6, k6⟩; obtain ⟨jn, rfl⟩ := Int.eq_ofNat_of_zero_le hy6.1; have hj4 := HJ7 jn _ hy6; have hji := HJI jn hj4; have hj0 := HJ0 jn; have hz6 := (pick_cell u6.undr hlc jn).trans (seven_lit 0 1 3 5 9 1000 1001 jn hj4); have U6 : Upto W0.heap.size w4 w6 := ((Upto.refl _ w4).alloc _).trans u6.undr; have HF : Hid _ := FIN.out w6 U6; have hz7 := HF.out.2.2.2 _ _ _ hz6 hr4; obtain ⟨p06, p16⟩ := HKB w6 (U6.block nB lB hBc); obtain ⟨⟨q0, q1⟩, f0, f1⟩ := HKR w6 (U6.block _ lR hRc); generalize ([0, 1, 3, 5, 9, 1000, 1001] : List Int).getD jn 0 = zz at hz6 hz7; dsimp only)
      | (refine (below_any W0.heap.size x len cap 7 w4.drew (by omega) k4.drew).mono ?_; rintro e w6 ⟨y6, rfl, hy6, u6, k6⟩; obtain ⟨jn, rfl⟩ := Int.eq_ofNat_of_zero_le hy6.1; have hj4 := HJ7 jn _ hy6; have hji := HJI jn hj4; have hj0 := HJ0 jn; have hz6 := (World.cell?_alloc_mark w6 #[.int .i64 0, .int .i64 1, .int .i64 3, .int .i64 5, .int .i64 9, .int .i64 1000, .int .i64 1001] 2 (0, 0) jn).trans (seven_lit 0 1 3 5 9 1000 1001 jn hj4); have U6 : Upto W0.heap.size w4 w6 := u6.undr; have HF : Hid _ := FIN.out (w6.alloc (.cells #[.int .i64 0, .int .i64 1, .int .i64 3, .int .i64 5, .int .i64 9, .int .i64 1000, .int .i64 1001] 2)) (U6.alloc _); have hz7 := HF.out.2.2.2 _ _ _ hz6 (Nat.lt_of_lt_of_le hr4 U6.size); obtain ⟨p06, p16⟩ := HKB w6 (U6.block nB lB hBc); obtain ⟨p07, p17⟩ := HKB (w6.alloc (.cells #[.int .i64 0, .int .i64 1, .int .i64 3, .int .i64 5, .int .i64 9, .int .i64 1000, .int .i64 1001] 2)) ((Below.heap_alloc _ _ _ (Nat.lt_of_lt_of_le lB U6.size)).trans (U6.block nB lB hBc)); have HG : Hid _ := FIN.out w6 U6; have hz8 := (lit_late w6 w.heap.size (.slice o1 ts.length c1) (.slice o2 rs.length c2) #[.int .i64 0, .int .i64 1, .int .i64 3, .int .i64 5, .int .i64 9, .int .i64 1000, .int .i64 1001] 2 jn).trans (seven_lit 0 1 3 5 9 1000 1001 jn hj4); obtain ⟨⟨q2, q3⟩, f2, f3⟩ := HKR w6 (U6.block _ lR hRc); obtain ⟨⟨q0, q1⟩, f0, f1⟩ := HKR (w6.alloc (.cells #[.int .i64 0, .int .i64 1, .int .i64 3, .int .i64 5, .int .i64 9, .int .i64 1000, .int .i64 1001] 2)) ((Below.heap_alloc _ _ _ (Nat.lt_of_lt_of_le lR U6.size)).trans (U6.block _ lR hRc)); generalize ([0, 1, 3, 5, 9, 1000, 1001] : List Int).getD jn 0 = zz at hz6 hz7 hz8; dsimp only)))
  all_goals
    have HKK := HKB
    clear HKK HKB HKR FIN p0 p1 p0d p1d p0a p1a p06 p16 q0 q1 f0 f1 hz6 hz7 u6 k6 U6 hy6
    first
    | (go_wp2_with fail; exact bodyPost_ret (v := .tuple #[.agg #[.slice o1 ts.length c1, .slice o2 rs.length c2], .int .i64 k, .int .i64 zz]) (by simp [results, Try.results11, go_sem, at_cell HF.out.1]) rfl ⟨_, _, ts, rs, k, zz, rfl, HF.out.2.1, HF.out.2.2.1⟩)
    | (have HQ : Hid _ := late_end HG.out.1 HG.out.2.1 HG.out.2.2.1 #[.int .i64 0, .int .i64 1, .int .i64 3, .int .i64 5, .int .i64 9, .int .i64 1000, .int .i64 1001] 2; clear HG hz8 q2 q3 f2 f3 p07 p17; go_wp2_with fail; exact bodyPost_ret (v := .tuple #[.agg #[.slice o1 ts.length c1, .slice o2 rs.length c2], .int .i64 k, .int .i64 zz]) (by simp [results, Try.results11, go_sem, at_cell HQ.out.1]) rfl ⟨_, _, ts, rs, k, zz, rfl, HQ.out.2.1, HQ.out.2.2⟩)
end Go.Proofs.Ytpmoefagpglddaa

namespace Go.Proofs.Ytpmoefagpglddaa
open Go.RowKit

set_option linter.unusedVariables false


theorem seven_bd (k : Nat) : 0 ≤ ([0, 1, 5, 9, 12, 1000, 1001] : List Int).getD k 0 ∧ ([0, 1, 5, 9, 12, 1000, 1001] : List Int).getD k 0 ≤ 1001 := by
  by_cases hk : k < 7
  · have h : k = 0 ∨ k = 1 ∨ k = 2 ∨ k = 3 ∨ k = 4 ∨ k = 5 ∨ k = 6 := by omega
    rcases h with rfl | rfl | rfl | rfl | rfl | rfl | rfl <;> decide
  · rw [List.getD_eq_getElem?_getD, List.getElem?_eq_none (by simp; omega)]
    decide

set_option maxRecDepth 100000 in
set_option maxHeartbeats 6400000 in
theorem drawNoted_any (x : Option Addr) (len cap : Nat) (w : World) (hs : Src w w.heap.size x len) :
    Calls Try.prog 9 #[.slice x len cap] w fun e w' => ∃ (v1 v2 : Value) (ts : List Int) (rs : List (Int × Int)) (k t a v : Int), e = .returned (.tuple #[.agg #[v1, v2], .int .i64 k, .int .i64 t, .agg #[.int .i64 a, .int .i64 v]]) ∧ (0 ≤ t ∧ t ≤ 1001) ∧ RM w'.heap.size w' v1 v2 ts rs ∧ Below w.heap.size w w' := by
  obtain ⟨W0, hW0, kR, kP, d0, z0⟩ := box2 w #[.slice none 0 0, .slice none 0 0] #[.int .i64 0, .int .i64 0] 27 29
  have HW0 : Hid (W0 = _) := hW0
  have hs0 := (hs.below d0).mono d0.size
  have sR : w.heap.size + 1 < W0.heap.size := by omega
  clear hW0 z0 hs
  go_enter Try.func9, Try.ntmps9
  go_upto_region 1 with fail
  rw [← HW0.out]
  clear HW0
  go_wp2_with fail
  refine (new_any x len cap _ hs0).mono ?_
  rintro e w1 ⟨rfl, b1, kc⟩
  replace kR := (b1.block _ (heap_lt kR)).trans kR
  replace kP := (b1.block _ (heap_lt kP)).trans kP
  replace d0 := bw_call d0 b1
  have z1 := b1.size
  clear b1 hs0
  go_wp2_with fail
  refine (draw12_any _ x len cap _ kc).mono ?_
  rintro e w2 ⟨v1, v2, ts, rs, rfl, rr, hg1, hg2, u2, k2⟩
  replace kR := (u2.block _ (heap_lt kR) (by omega)).trans kR
  replace kP := (u2.block _ (heap_lt kP) (by omega)).trans kP
  replace d0 := d0.trans (u2.toBelow (by omega) (by omega))
  obtain ⟨o1, c1, o2, c2, rfl, rfl⟩ := rr.forms
  have hw1 : w.heap.size + 1 < w1.heap.size := by omega
  clear u2 kc
  obtain ⟨W3, hW3, kB, b3, z3⟩ := box1 w2 #[.slice o1 ts.length c1, .slice o2 rs.length c2] 27
  have HW3 : Hid (W3 = _) := hW3
  have k3 := k2.below b3
  replace kR := (b3.block _ (heap_lt kR)).trans kR
  replace kP := (b3.block _ (heap_lt kP)).trans kP
  replace d0 := bw_call d0 b3
  replace rr := (rr.below b3).mono b3.size
  have hz2 : W0.heap.size < w2.heap.size := k2.lt
  clear hW3 b3 z3 k2
  go_upto_region 3 with fail
  rw [← HW3.out]
  clear HW3
  generalize w2.heap.size = nB at *
  go_wp2_with fail
  refine (from_any _ x len cap (-1) 4 _ (by omega) (by omega) (by omega) k3).mono ?_
  rintro e w4 ⟨k, rfl, hk, u4, k4⟩
  replace kR := (u4.block _ (heap_lt kR) (by omega)).trans kR
  replace kP := (u4.block _ (heap_lt kP) (by omega)).trans kP
  replace kB := (u4.block _ (heap_lt kB) (by omega)).trans kB
  replace d0 := d0.trans (u4.toBelow (by have := d0.size; omega) (by omega))
  have nc1 : (Value.slice o1 ts.length c1).ownBlock ≠ some W0.heap.size := fun e => by have := hg1 _ e; omega
  have nc2 : (Value.slice o2 rs.length c2).ownBlock ≠ some W0.heap.size := fun e => by have := hg2 _ e; omega
  replace rr := rr.box nc1 nc2 u4
  clear u4 k3 W3 w2
  go_wp2_with fail
  refine (below_any W0.heap.size x len cap 7 _ (by omega) (k4.alloc _)).mono ?_
  rintro e w5 ⟨y, rfl, hy, u5, k5⟩
  have hy7 := hy.2.1 (by omega)
  obtain ⟨jn, rfl⟩ := Int.eq_ofNat_of_zero_le hy.1
  have hj7 : jn < 7 := by omega
  have hz := (pick_cell u5 k4.lt jn).trans (seven_lit 0 1 5 9 12 1000 1001 jn hj7)
  have htb := seven_bd jn
  generalize ([0, 1, 5, 9, 12, 1000, 1001] : List Int).getD jn 0 = t at hz htb
  have hb : Below w4.heap.size w4 (w4.alloc (.cells #[.int .i64 0, .int .i64 1, .int .i64 5, .int .i64 9, .int .i64 12, .int .i64 1000, .int .i64 1001] 2)) := bw_alloc (Below.refl _ _)
  replace kR := (u5.block _ (heap_lt ((hb.block _ (heap_lt kR)).trans kR)) (by omega)).trans ((hb.block _ (heap_lt kR)).trans kR)
  replace kP := (u5.block _ (heap_lt ((hb.block _ (heap_lt kP)).trans kP)) (by omega)).trans ((hb.block _ (heap_lt kP)).trans kP)
  replace kB := (u5.block _ (heap_lt ((hb.block _ (heap_lt kB)).trans kB)) (by omega)).trans ((hb.block _ (heap_lt kB)).trans kB)
  replace d0 := (bw_call d0 hb).trans (u5.toBelow (by have := d0.size; have := hb.size; omega) (by omega))
  replace rr := ((rr.below hb).mono hb.size).box nc1 nc2 u5
  clear hb u5 hy k4
  go_upto_region 5 with fail
  clear hz
  have p0 := at_cell kB 0
  have p1 := at_cell kB 1
  have p0d : w5.drew.cell? ⟨nB, 0, none⟩ = some (.slice o1 ts.length c1) := at_cell kB 0
  have p1d : w5.drew.cell? ⟨nB, 1, none⟩ = some (.slice o2 rs.length c2) := at_cell kB 1
  have HX : Hid _ := And.intro kR (And.intro kP (And.intro kB (And.intro d0 rr)))
  have k5d := k5.drew
  have hnBc : nB ≠ W0.heap.size := by omega
  have hRc : w.heap.size ≠ W0.heap.size := by omega
  have hPc : w.heap.size + 1 ≠ W0.heap.size := by omega
  clear kR kP kB d0 rr
  go_region_law
    ((go_simp; go_at_call 30; refine (draw10_any W0.heap.size x len cap w5.drew k5d).mono ?_; rintro e w6 ⟨a, v, rfl, -, -, u6, k6⟩; have U6 : Upto W0.heap.size w5 w6 := u6.undr; have kR6 := (U6.block _ (heap_lt HX.out.1) hRc).trans HX.out.1; have kP6 := (U6.block _ (heap_lt HX.out.2.1) hPc).trans HX.out.2.1; have kB6 := (U6.block _ (heap_lt HX.out.2.2.1) hnBc).trans HX.out.2.2.1; have b0 := at_cell kB6 0; have b1 := at_cell kB6 1; have q0 := at_cell kR6 0; have q1 := at_cell kR6 1; have f0 := at_open kR6 0; have f1 := at_open kR6 1; have q2 := at_cell kP6 0; have q3 := at_cell kP6 1; have f2 := at_open kP6 0; have f3 := at_open kP6 1; dsimp only))
  all_goals
    obtain ⟨kS, uS⟩ := set_two kR6 (.slice o1 ts.length c1) (.slice o2 rs.length c2)
    obtain ⟨kT, uT⟩ := set_two ((uS.block _ (heap_lt kP6) (by omega)).trans kP6) (.int .i64 a) (.int .i64 v)
    have d6 := HX.out.2.2.2.1.trans (U6.toBelow HX.out.2.2.2.1.size (by omega))
    have HE : Hid _ := And.intro ((uT.block _ (heap_lt kS) (by omega)).trans kS) (And.intro kT (And.intro (((HX.out.2.2.2.2.box nc1 nc2 U6).box (fun e => by have := hg1 _ e; omega) (fun e => by have := hg2 _ e; omega) uS).box (fun e => by have := hg1 _ e; omega) (fun e => by have := hg2 _ e; omega) uT) ((d6.trans (uS.toBelow d6.size (Nat.le_refl _))).trans (uT.toBelow (Nat.le_trans d6.size uS.size) (by omega)))))
    clear kS uS kT uT d6 kR6 kP6 kB6 b0 b1 q0 q1 q2 q3 f0 f1 f2 f3 p0 p1 p0d p1d HX k5d u6 k6 U6
    go_wp2_with fail
    exact bodyPost_ret (v := .tuple #[.agg #[.slice o1 ts.length c1, .slice o2 rs.length c2], .int .i64 k, .int .i64 t, .agg #[.int .i64 a, .int .i64 v]]) (by simp [results, Try.results9, go_sem, at_cell HE.out.1, at_cell HE.out.2.1]) rfl ⟨_, _, ts, rs, k, t, a, v, rfl, htb, HE.out.2.2⟩

set_option maxHeartbeats 1600000 in
theorem likeMemo_any (a1 a2 b1 b2 : Value) (cs : List Int) (ps : List (Int × Int)) (cs' : List Int) (ps' : List (Int × Int)) (w : World) (r : RM w.heap.size w a1 a2 cs ps) (r' : RM w.heap.size w b1 b2 cs' ps') :
    Calls Try.prog 15 #[.agg #[a1, a2], .agg #[b1, b2]] w fun e w' => e = .returned (.bool (decide (cs = cs') && decide (ps = ps'))) ∧ Below w.heap.size w w' := by
  obtain ⟨oa1, ka1, oa2, ka2, rfl, rfl⟩ := r.forms
  obtain ⟨ob1, kb1, ob2, kb2, rfl, rfl⟩ := r'.forms
  obtain ⟨W0, hW0, k0, k1, d0, z0⟩ := box2 w #[.slice oa1 cs.length ka1, .slice oa2 ps.length ka2] #[.slice ob1 cs'.length kb1, .slice ob2 ps'.length kb2] 27 27
  have r0 := (r.below d0).mono d0.size
  have r1 := (r'.below d0).mono d0.size
  have HW0 : Hid (W0 = _) := hW0
  have hm1 : ps.length ≤ maxLen := by obtain ⟨_, _, _, hm, _⟩ := r.r; exact hm
  have hm2 : ps'.length ≤ maxLen := by obtain ⟨_, _, _, hm, _⟩ := r'.r; exact hm
  unfold maxLen at hm1 hm2
  clear hW0 r r'
  go_enter Try.func15, Try.ntmps15
  go_upto_region 1 with fail
  rw [← HW0.out]
  clear HW0
  have p0 := at_cell k0 0
  have p1 := at_cell k1 0
  go_wp2_with fail
  refine (likeInts_any _ _ cs cs' _ r0.t r1.t).mono ?_
  rintro e w1 ⟨rfl, b⟩
  clear p0 p1
  replace k0 := (b.block _ (by omega)).trans k0
  replace k1 := (b.block _ (by omega)).trans k1
  replace d0 := bw_call d0 b
  replace r0 := (r0.below b).mono b.size
  replace r1 := (r1.below b).mono b.size
  have p0 := at_cell k0 1
  have p1 := at_cell k1 1
  by_cases hc : cs = cs'
  · rw [decide_eq_true hc]
    have HC : Hid (cs = cs') := hc
    clear hc
    by_cases hlen : ps.length = ps'.length
    · have hne : ((ps.length : Int) != (ps'.length : Int)) = false := by rw [hlen]; simp
      obtain ⟨o1, cap1, e1, -, c1, -⟩ := r0.r
      obtain ⟨o2, cap2, e2, -, c2, -⟩ := r1.r
      simp only [Value.slice.injEq] at e1 e2
      obtain ⟨rfl, -, rfl⟩ := e1
      obtain ⟨rfl, -, rfl⟩ := e2
      have C1 : Hid _ := two_cells c1
      have C2 : Hid _ := two_cells c2
      have HL : Hid (ps.length = ps'.length) := hlen
      have hle : ps'.length ≤ ps.length := by omega
      have hge : ps.length ≤ ps'.length := by omega
      clear c1 c2 hlen r0 r1 b
      go_wp2_with fail
      clear p0 p1
      go_loopw [5] (fun i wr => ∃ k : Nat, k ≤ ps.length ∧ i = .int .i64 k ∧ ps.take k = ps'.take k ∧ Below w1.heap.size w1 wr) (fun i _ => ps.length - (intOf i).toNat)
      case atStart => exact ⟨0, Nat.zero_le _, rfl, rfl, Below.refl _ _⟩
      case round =>
        obtain ⟨k, hk, rfl, htk, hb⟩ := hrel
        have HT : Hid (ps.take k = ps'.take k) := htk
        have kr0 := (hb.block _ (heap_lt k0)).trans k0
        have kr1 := (hb.block _ (heap_lt k1)).trans k1
        have p0 := at_cell kr0 1
        have p1 := at_cell kr1 1
        have dr := bw_call d0 hb
        clear htk
        by_cases hlt : k < ps.length
        · have hlt2 : k < ps'.length := by omega
          obtain ⟨g1, of1, rfl, q1, a0, a1⟩ := C1.out k hlt
          obtain ⟨g2, of2, rfl, q2, b0, b1⟩ := C2.out k hlt2
          have HE : Hid (ps[k] = ps'[k] → ps.take (k + 1) = ps'.take (k + 1)) := fun e => take_more ps ps' k hlt hlt2 HT.out e
          have HNE : Hid (ps[k] ≠ ps'[k] → ¬ ps = ps') := fun e => ne_at ps ps' k hlt hlt2 e
          generalize ps[k] = x at a0 a1 HE HNE
          generalize ps'[k] = y at b0 b1 HE HNE
          obtain ⟨f, c⟩ := x
          obtain ⟨f', c'⟩ := y
          simp only at a0 a1 b0 b1
          replace a0 := (hb.cell (p := ⟨g1, of1 + k * 2, none⟩) q1).trans a0
          replace a1 := (hb.cell (p := ⟨g1, of1 + k * 2 + 1, none⟩) q1).trans a1
          replace b0 := (hb.cell (p := ⟨g2, of2 + k * 2, none⟩) q2).trans b0
          replace b1 := (hb.cell (p := ⟨g2, of2 + k * 2 + 1, none⟩) q2).trans b1
          obtain ⟨bb, hbb⟩ : ∃ z, decide ((f, c) = (f', c')) = z := ⟨_, rfl⟩
          have HEQ : ∀ W : World, (Op.equalIn 10000 29 (.agg #[.int .i64 f, .int .i64 c]) (.agg #[.int .i64 f', .int .i64 c'])).run Try.prog W = .ok bb W := fun W => by rw [← hbb]; exact rep_equal _ _ _ _ W
          have HBB : Hid _ := hbb
          have hg := Try.eqGuardType29
          have i0 : (0 : Int) ≤ (k : Int) := by omega
          have i1 : (k : Int) < (ps.length : Int) := by omega
          have i2 : (k : Int) < (ps'.length : Int) := by omega
          clear C1 C2 hbb
          go_wp2_with fail
          go_quiet (fail)
          cases bb
          · have HF : Hid _ := HNE.out (of_decide_eq_false HBB.out)
            clear HEQ
            go_wp2_with fail
            go_ret
            exact ⟨ret_bool (by rw [decide_eq_false HF.out, Bool.and_false]), ⟨dr.os, dr.tape, dr.output, dr.size, dr.block⟩⟩
          · have HF : Hid _ := HE.out (of_decide_eq_true HBB.out)
            clear HEQ
            go_wp2_with fail
            go_roundw
            case rel => exact ⟨k + 1, by omega, by go_num, HF.out, ⟨hb.os, hb.tape, hb.output, hb.size, hb.block⟩⟩
            case measure => simp [intOf]; omega
        · go_wp2_with fail
          go_ret
          exact ⟨ret_bool (by rw [decide_eq_true HC.out, decide_eq_true (all_taken ps ps' k hlt HL.out HT.out)]; rfl), dr⟩
    · have hne : ((ps.length : Int) != (ps'.length : Int)) = true := by rw [bne_iff_ne]; omega
      have HX : Hid (decide (ps = ps') = false) := by rw [Hid, decide_eq_false_iff_not]; intro e; rw [e] at hlen; exact hlen rfl
      clear hlen
      go_wp2_with fail
      go_ret
      exact ⟨ret_bool (by rw [HX.out, Bool.and_false]), d0⟩
  · rw [decide_eq_false hc]
    have HP : Hid (¬ cs = cs') := hc
    clear hc
    go_wp2_with fail
    go_ret
    exact ⟨ret_bool (by rw [decide_eq_false HP.out, Bool.false_and]), d0⟩
end Go.Proofs.Ytpmoefagpglddaa

namespace Go.Proofs.Ytpmoefagpglddaa
set_option linter.unusedVariables false

set_option maxRecDepth 100000


theorem noted_bad {ts nts : List Int} {rs nrs : List (Int × Int)} {client tag : Int} {r : Int × Int} {nv : Bool} (h : notedM ts rs client tag r = ((nts, nrs), nv)) (hb : memOk ts rs = false) : nts = [] ∧ nrs = [] ∧ nv = false := by
  rw [notedM, if_neg (by rw [hb]; decide)] at h
  simp only [Prod.mk.injEq] at h
  exact ⟨h.1.1.symm, h.1.2.symm, h.2.symm⟩

theorem noted_not {ts nts : List Int} {rs nrs : List (Int × Int)} {client tag : Int} {r : Int × Int} (h : notedM ts rs client tag r = ((nts, nrs), false)) (hb : memOk ts rs = true) : nts = ts ∧ nrs = rs := by
  rw [notedM, if_pos hb] at h
  split at h
  · simp at h
  · simp only [Prod.mk.injEq] at h
    exact ⟨h.1.1.symm, h.1.2.symm⟩

theorem noted_yes {ts nts : List Int} {rs nrs : List (Int × Int)} {client tag : Int} {r : Int × Int} (h : notedM ts rs client tag r = ((nts, nrs), true)) (hb : memOk ts rs = true) : nts = ts.set client.toNat tag ∧ nrs = rs.set client.toNat r ∧ knownT ts client tag = 0 ∧ repOk r.1 r.2 = true := by
  rw [notedM, if_pos hb] at h
  split at h
  · rename_i hc
    simp only [Prod.mk.injEq] at h
    exact ⟨h.1.1.symm, h.1.2.symm, hc.1, hc.2⟩
  · simp at h

/-- What a client was told last: it is known, what was before it is old, the others' are as they were. -/
theorem noted_all {ts nts : List Int} {rs nrs : List (Int × Int)} {client tag : Int} {r : Int × Int} (h : notedM ts rs client tag r = ((nts, nrs), true)) (hb : memOk ts rs = true) :
    (0 ≤ client ∧ client ≤ 3) ∧ (1 ≤ tag ∧ tag ≤ 1000) ∧ nts.length = 4 ∧ nrs.length = 4 ∧ memOk nts nrs = true ∧ knownM nts nrs client tag = 1 ∧ (¬ tag = 1 → knownM nts nrs client (tag - 1) = 2) ∧ knownM ts rs client tag = 0 ∧ nrs.getD client.toNat (0, 0) = r ∧ ∀ j : Nat, (j : Int) ≠ client → nts.getD j 0 = ts.getD j 0 ∧ nrs.getD j (0, 0) = rs.getD j (0, 0) := by
  obtain ⟨rfl, rfl, hk, hr⟩ := noted_yes h hb
  obtain ⟨h1, h2⟩ := memOk_len hb
  obtain ⟨hc, ht, hlt⟩ := knownT_new hk
  refine ⟨hc, ht, by rw [List.length_set, h1], by rw [List.length_set, h2], memOk_set hb hk hr, known_last hb hk hr, fun h => known_old hb hk hr h, by rw [knownM, if_pos hb, hk], getD_set_self _ _ _ _ (by omega), fun j hj => ?_⟩
  have e : client.toNat ≠ j := by omega
  exact ⟨getD_set_other _ _ _ _ _ e, getD_set_other _ _ _ _ _ e⟩
end Go.Proofs.Ytpmoefagpglddaa

namespace Go.Proofs.Ytpmoefagpglddaa
open Go.RowKit

set_option linter.unusedVariables false

set_option maxRecDepth 100000


theorem within_any (x lo hi : Int) (w : World) :
    Calls Try.prog 57 #[.int .i64 x, .int .i64 lo, .int .i64 hi] w fun e w' => e = .returned (.bool (inB x lo hi)) ∧ w' = w := by
  by_cases h : lo ≤ x
  · go_enter Try.func57, Try.ntmps57
    go_wp2
    go_ret
    exact ⟨ret_bool (by simp [inB, h]), rfl⟩
  · go_enter Try.func57, Try.ntmps57
    go_wp2
    go_ret
    exact ⟨ret_bool (by simp [inB]; omega), rfl⟩
end Go.Proofs.Ytpmoefagpglddaa

namespace Go.Proofs.Ytpmoefagpglddaa
open Go.RowKit

set_option linter.unusedVariables false

set_option maxRecDepth 100000


theorem clientOk_any (x : Int) (w : World) : Calls Try.prog 55 #[.int .i64 x] w fun e w' => e = .returned (.bool (inB x 0 3)) ∧ w' = w := by
  go_enter Try.func55, Try.ntmps55
  go_wp2_with fail
  refine (within_any x 0 3 _).mono ?_
  rintro e w' ⟨rfl, rfl⟩
  go_wp2_with fail
  go_ret
  exact ⟨rfl, rfl⟩

theorem tagOk_any (x : Int) (w : World) : Calls Try.prog 56 #[.int .i64 x] w fun e w' => e = .returned (.bool (inB x 1 1000)) ∧ w' = w := by
  go_enter Try.func56, Try.ntmps56
  go_wp2_with fail
  refine (within_any x 1 1000 _).mono ?_
  rintro e w' ⟨rfl, rfl⟩
  go_wp2_with fail
  go_ret
  exact ⟨rfl, rfl⟩
end Go.Proofs.Ytpmoefagpglddaa

namespace Go.Proofs.Ytpmoefagpglddaa
open Go.RowKit

set_option linter.unusedVariables false

set_option maxRecDepth 100000


theorem within_rep (x lo hi : Int) (w : World) :
    Calls Try.prog 57 #[.int .i64 x, .int .i64 lo, .int .i64 hi] w fun e w' => e = .returned (.bool (inB x lo hi)) ∧ w' = w := by
  by_cases h : lo ≤ x
  · go_enter Try.func57, Try.ntmps57
    go_wp2
    go_ret
    exact ⟨ret_bool (by simp [inB, h]), rfl⟩
  · go_enter Try.func57, Try.ntmps57
    go_wp2
    go_ret
    exact ⟨ret_bool (by simp [inB]; omega), rfl⟩

theorem implReplyOk_any (c v : Int) (w : World) :
    Calls Try.prog 33 #[.agg #[.int .i64 c, .int .i64 v]] w fun e w' => e = .returned (.bool (repOk c v)) ∧ Below w.heap.size w w' := by
  obtain ⟨W0, hW0, k0, d0, z0⟩ := box1 w #[.int .i64 c, .int .i64 v] 29
  have HW0 : Hid (W0 = _) := hW0
  have p0 := at_cell k0 0
  have p1 := at_cell k0 1
  have HB : Hid (repOk c v = (inB c 0 9 && inB v 0 (if c = 0 then 1000 else 0))) := repOk_by c v
  clear hW0 k0
  by_cases h0 : c = 0
  · subst h0
    rw [if_pos rfl] at HB
    go_enter Try.func33, Try.ntmps33
    go_wp2_with fail
    rw [← HW0.out]
    clear HW0
    refine (within_rep 0 0 9 _).mono ?_
    have hin : inB 0 0 9 = true := rfl
    rw [hin] at HB ⊢
    rintro e w' ⟨rfl, rfl⟩
    clear hin
    go_wp2_with fail
    refine (within_rep v 0 1000 _).mono ?_
    generalize inB v 0 1000 = b1 at *
    rintro e w' ⟨rfl, rfl⟩
    go_wp2_with fail
    go_ret
    exact ⟨ret_bool (by rw [HB.out]; rfl), d0⟩
  · rw [if_neg h0] at HB
    go_enter Try.func33, Try.ntmps33
    go_wp2_with fail
    rw [← HW0.out]
    clear HW0 h0
    refine (within_rep c 0 9 _).mono ?_
    generalize inB c 0 9 = b0 at *
    rintro e w' ⟨rfl, rfl⟩
    cases b0
    · go_wp2_with fail
      go_ret
      exact ⟨ret_bool (by rw [HB.out]; rfl), d0⟩
    go_wp2_with fail
    refine (within_rep v 0 0 _).mono ?_
    generalize inB v 0 0 = b1 at *
    rintro e w' ⟨rfl, rfl⟩
    go_wp2_with fail
    go_ret
    exact ⟨ret_bool (by rw [HB.out]; rfl), d0⟩
end Go.Proofs.Ytpmoefagpglddaa

namespace Go.Proofs.Ytpmoefagpglddaa
open Go.RowKit

set_option linter.unusedVariables false

set_option maxRecDepth 100000


theorem four_tags (a b c d : Int) (k : Nat) (hk : k < 4) : (#[Value.int .i64 a, .int .i64 b, .int .i64 c, .int .i64 d] : Array Value)[k]? = some (.int .i64 ([a, b, c, d].getD k 0)) := by
  have h : k = 0 ∨ k = 1 ∨ k = 2 ∨ k = 3 := by omega
  rcases h with rfl | rfl | rfl | rfl <;> rfl

theorem hasTag_any (a b c d : Int) (k : Nat) (w : World) (hk : k < 4) :
    Calls Try.prog 62 #[.agg #[.int .i64 a, .int .i64 b, .int .i64 c, .int .i64 d], .int .i64 k] w fun e w' => e = .returned (.bool (!decide ([a, b, c, d].getD k 0 = 0))) ∧ Below w.heap.size w w' := by
  obtain ⟨W0, hW0, k0, d0, z0⟩ := box1 w #[.int .i64 a, .int .i64 b, .int .i64 c, .int .i64 d] 59
  have HW0 : Hid (W0 = _) := hW0
  have p := (at_cell k0 k).trans (four_tags a b c d k hk)
  have i0 : (0 : Int) ≤ (k : Int) := by omega
  have i1 : (k : Int) < 4 := by omega
  generalize [a, b, c, d].getD k 0 = x at p ⊢
  clear hW0 k0 z0
  go_enter Try.func62, Try.ntmps62
  go_upto_region 1 with fail
  rw [← HW0.out]
  clear HW0
  go_wp2_with fail
  go_ret
  exact ⟨ret_bool (by by_cases h : x = 0 <;> simp [h]), d0⟩

theorem index4 (c : Array Value) (k : Nat) (y : Int) (hk : k < 4) (hck : c[k]? = some (.int .i64 y)) (w : World) : (Instr.index 59 (.agg c) (.int .i64 (k : Int))).run Try.prog w = .ok (.int .i64 y) w := by
  obtain ⟨hlt, hv⟩ := Array.getElem?_eq_some_iff.1 hck
  simp [Instr.index, run_underlying Try.underlying59, hv, go_sem, hk, hlt]

theorem tagsRight_any (a b c d : Int) (w : World) :
    Calls Try.prog 53 #[.agg #[.int .i64 a, .int .i64 b, .int .i64 c, .int .i64 d]] w fun e w' => e = .returned (.bool (tagN [a, b, c, d] 4)) ∧ Below w.heap.size w w' := by
  obtain ⟨W0, hW0, k0, d0, z0⟩ := box1 w #[.int .i64 a, .int .i64 b, .int .i64 c, .int .i64 d] 59
  have HW0 : Hid (W0 = _) := hW0
  have p0 := at_cell k0 0
  have p1 := at_cell k0 1
  have p2 := at_cell k0 2
  have p3 := at_cell k0 3
  have s0 := heap_lt k0
  clear hW0 z0
  go_enter Try.func53, Try.ntmps53
  go_upto_region 1 with fail
  rw [← HW0.out]
  clear HW0
  go_wp2_with fail
  clear p0 p1 p2 p3
  go_loopw [6] (fun i wr => ∃ k : Nat, k ≤ 4 ∧ i = .int .i64 k ∧ tagN [a, b, c, d] k = true ∧ Below W0.heap.size W0 wr) (fun i _ => 4 - (intOf i).toNat)
  case atStart => exact ⟨0, Nat.zero_le _, rfl, rfl, Below.refl _ _⟩
  case round =>
    obtain ⟨k, hk, rfl, hall, hb⟩ := hrel
    have HA : Hid (tagN [a, b, c, d] k = true) := hall
    have kr := (hb.block _ s0).trans k0
    have dr := bw_call d0 hb
    clear hall
    by_cases hlt : k < 4
    · have hix := index4 _ k _ hlt (four_tags a b c d k hlt)
      have HY : Hid (tagAt ([a, b, c, d].getD k 0) = true → tagN [a, b, c, d] (k + 1) = true) := fun h => by rw [tagN, allB_succ, Bool.and_eq_true]; exact ⟨HA.out, h⟩
      have HN : Hid (tagAt ([a, b, c, d].getD k 0) = false → tagN [a, b, c, d] 4 = false) := fun h => allB_false _ 4 k hlt h
      have HH := fun W => hasTag_any a b c d k W hlt
      generalize [a, b, c, d].getD k 0 = x at hix HY HN HH
      have HT : Hid (tagAt x = !(!decide (x = 0) && !inB x 1 1000)) := rfl
      have i0 : (0 : Int) ≤ (k : Int) := by omega
      have i1 : (k : Int) < 4 := by omega
      have p0 := at_cell kr 0
      have p1 := at_cell kr 1
      have p2 := at_cell kr 2
      have p3 := at_cell kr 3
      clear HA
      go_wp2_with fail
      refine (HH _).mono ?_
      rintro e w3 ⟨rfl, b3⟩
      have hb3 := bw_call hb b3
      have dr3 := bw_call dr b3
      clear HH hb dr b3 kr p0 p1 p2 p3
      by_cases hx : x = 0
      · have HF : Hid _ := HY.out (by rw [HT.out, decide_eq_true hx]; rfl)
        rw [decide_eq_true hx]
        clear hx
        go_wp2_with fail
        go_roundw
        case rel => exact ⟨k + 1, by omega, by go_num, HF.out, hb3⟩
        case measure => simp [intOf]; omega
      · rw [decide_eq_false hx]
        rw [decide_eq_false hx] at HT
        go_wp2_with fail
        refine (tagOk_any x _).mono ?_
        rintro e w4 ⟨rfl, rfl⟩
        generalize inB x 1 1000 = bT at HT ⊢
        cases bT
        · have HF : Hid _ := HN.out (by rw [HT.out]; rfl)
          go_wp2_with fail
          go_ret
          exact ⟨ret_bool HF.out.symm, dr3⟩
        · have HF : Hid _ := HY.out (by rw [HT.out]; rfl)
          go_wp2_with fail
          go_roundw
          case rel => exact ⟨k + 1, by omega, by go_num, HF.out, hb3⟩
          case measure => simp [intOf]; omega
    · obtain rfl : k = 4 := by omega
      go_wp2_with fail
      go_ret
      exact ⟨ret_bool HA.out.symm, dr⟩

/-- A memo's eight numbers behind its four tags. -/
theorem index4r0 (a0 a1 b0 b1 c0 c1 d0 d1 : Int) (w : World) : (Instr.index 60 (.agg #[.int .i64 a0, .int .i64 a1, .int .i64 b0, .int .i64 b1, .int .i64 c0, .int .i64 c1, .int .i64 d0, .int .i64 d1]) (.int .i64 0)).run Try.prog w = .ok (.agg #[.int .i64 a0, .int .i64 a1]) w := by kernel_rfl

theorem index4r1 (a0 a1 b0 b1 c0 c1 d0 d1 : Int) (w : World) : (Instr.index 60 (.agg #[.int .i64 a0, .int .i64 a1, .int .i64 b0, .int .i64 b1, .int .i64 c0, .int .i64 c1, .int .i64 d0, .int .i64 d1]) (.int .i64 1)).run Try.prog w = .ok (.agg #[.int .i64 b0, .int .i64 b1]) w := by kernel_rfl

theorem index4r2 (a0 a1 b0 b1 c0 c1 d0 d1 : Int) (w : World) : (Instr.index 60 (.agg #[.int .i64 a0, .int .i64 a1, .int .i64 b0, .int .i64 b1, .int .i64 c0, .int .i64 c1, .int .i64 d0, .int .i64 d1]) (.int .i64 2)).run Try.prog w = .ok (.agg #[.int .i64 c0, .int .i64 c1]) w := by kernel_rfl

theorem index4r3 (a0 a1 b0 b1 c0 c1 d0 d1 : Int) (w : World) : (Instr.index 60 (.agg #[.int .i64 a0, .int .i64 a1, .int .i64 b0, .int .i64 b1, .int .i64 c0, .int .i64 c1, .int .i64 d0, .int .i64 d1]) (.int .i64 3)).run Try.prog w = .ok (.agg #[.int .i64 d0, .int .i64 d1]) w := by kernel_rfl

theorem index4r (a0 a1 b0 b1 c0 c1 d0 d1 : Int) (k : Nat) (hk : k < 4) (w : World) : (Instr.index 60 (.agg #[.int .i64 a0, .int .i64 a1, .int .i64 b0, .int .i64 b1, .int .i64 c0, .int .i64 c1, .int .i64 d0, .int .i64 d1]) (.int .i64 (k : Int))).run Try.prog w = .ok (.agg #[.int .i64 ([(a0, a1), (b0, b1), (c0, c1), (d0, d1)].getD k (0, 0)).1, .int .i64 ([(a0, a1), (b0, b1), (c0, c1), (d0, d1)].getD k (0, 0)).2]) w := by
  have h : k = 0 ∨ k = 1 ∨ k = 2 ∨ k = 3 := by omega
  rcases h with rfl | rfl | rfl | rfl
  · exact index4r0 a0 a1 b0 b1 c0 c1 d0 d1 w
  · exact index4r1 a0 a1 b0 b1 c0 c1 d0 d1 w
  · exact index4r2 a0 a1 b0 b1 c0 c1 d0 d1 w
  · exact index4r3 a0 a1 b0 b1 c0 c1 d0 d1 w

set_option maxHeartbeats 1600000 in
theorem repliesRight_any (a b c d a0 a1 b0 b1 c0 c1 e0 e1 : Int) (w : World) :
    Calls Try.prog 54 #[.agg #[.int .i64 a, .int .i64 b, .int .i64 c, .int .i64 d, .int .i64 a0, .int .i64 a1, .int .i64 b0, .int .i64 b1, .int .i64 c0, .int .i64 c1, .int .i64 e0, .int .i64 e1]] w fun e w' => e = .returned (.bool (repN [a, b, c, d] [(a0, a1), (b0, b1), (c0, c1), (e0, e1)] 4)) ∧ Below w.heap.size w w' := by
  obtain ⟨W0, hW0, k0, d0, z0⟩ := box1 w #[.int .i64 a, .int .i64 b, .int .i64 c, .int .i64 d, .int .i64 a0, .int .i64 a1, .int .i64 b0, .int .i64 b1, .int .i64 c0, .int .i64 c1, .int .i64 e0, .int .i64 e1] 62
  have HW0 : Hid (W0 = _) := hW0
  have p4 := at_cell k0 4
  have p5 := at_cell k0 5
  have p6 := at_cell k0 6
  have p7 := at_cell k0 7
  have p8 := at_cell k0 8
  have p9 := at_cell k0 9
  have pa := at_cell k0 10
  have pb := at_cell k0 11
  have s0 := heap_lt k0
  clear hW0 z0
  go_enter Try.func54, Try.ntmps54
  go_upto_region 1 with fail
  rw [← HW0.out]
  clear HW0
  go_wp2_with fail
  clear p4 p5 p6 p7 p8 p9 pa pb
  go_loopw [7] (fun i wr => ∃ k : Nat, k ≤ 4 ∧ i = .int .i64 k ∧ repN [a, b, c, d] [(a0, a1), (b0, b1), (c0, c1), (e0, e1)] k = true ∧ Below W0.heap.size W0 wr) (fun i _ => 4 - (intOf i).toNat)
  case atStart => exact ⟨0, Nat.zero_le _, rfl, rfl, Below.refl _ _⟩
  case round =>
    obtain ⟨k, hk, rfl, hall, hb⟩ := hrel
    have HA : Hid (repN [a, b, c, d] [(a0, a1), (b0, b1), (c0, c1), (e0, e1)] k = true) := hall
    have kr := (hb.block _ s0).trans k0
    have dr := bw_call d0 hb
    clear hall
    by_cases hlt : k < 4
    · have hix := index4r a0 a1 b0 b1 c0 c1 e0 e1 k hlt
      have HY : Hid (repAt ([a, b, c, d].getD k 0) ([(a0, a1), (b0, b1), (c0, c1), (e0, e1)].getD k (0, 0)) = true → repN [a, b, c, d] [(a0, a1), (b0, b1), (c0, c1), (e0, e1)] (k + 1) = true) := fun h => by rw [repN, allB_succ, Bool.and_eq_true]; exact ⟨HA.out, h⟩
      have HN : Hid (repAt ([a, b, c, d].getD k 0) ([(a0, a1), (b0, b1), (c0, c1), (e0, e1)].getD k (0, 0)) = false → repN [a, b, c, d] [(a0, a1), (b0, b1), (c0, c1), (e0, e1)] 4 = false) := fun h => allB_false _ 4 k hlt h
      have HH := fun W => hasTag_any a b c d k W hlt
      generalize [a, b, c, d].getD k 0 = x at HY HN HH
      generalize [(a0, a1), (b0, b1), (c0, c1), (e0, e1)].getD k (0, 0) = rr at hix HY HN
      obtain ⟨rc, rv⟩ := rr
      simp only at hix
      have HT : Hid (repAt x (rc, rv) = (repOk rc rv && (!decide (x = 0) || decide ((rc, rv) = (0, 0))))) := rfl
      have i0 : (0 : Int) ≤ (k : Int) := by omega
      have i1 : (k : Int) < 4 := by omega
      have hg := Try.eqGuardType29
      obtain ⟨W1, hW1, k1, b1, z1⟩ := box1 wr #[.int .i64 rc, .int .i64 rv] 29
      have HW1 : Hid (W1 = _) := hW1
      replace kr := (b1.block _ (heap_lt kr)).trans kr
      replace hb := bw_call hb b1
      replace dr := bw_call dr b1
      clear HA hW1 z1 b1
      go_upto_region 4 with fail
      rw [← HW1.out]
      clear HW1 hix
      generalize wr.heap.size = nB at *
      have f0 := at_cell k1 0
      have f1 := at_cell k1 1
      go_wp2_with fail
      refine (implReplyOk_any rc rv _).mono ?_
      rintro e w3 ⟨rfl, b3⟩
      replace kr := (b3.block _ (heap_lt kr)).trans kr
      replace k1 := (b3.block _ (heap_lt k1)).trans k1
      replace hb := bw_call hb b3
      replace dr := bw_call dr b3
      clear b3 f0 f1
      generalize repOk rc rv = bR at HT ⊢
      cases bR
      · have HF : Hid _ := HN.out (by rw [HT.out]; rfl)
        go_wp2_with fail
        go_ret
        exact ⟨ret_bool HF.out.symm, dr⟩
      have p0 := at_cell kr 0
      have p1 := at_cell kr 1
      have p2 := at_cell kr 2
      have p3 := at_cell kr 3
      go_wp2_with fail
      refine (HH _).mono ?_
      rintro e w4 ⟨rfl, b4⟩
      replace k1 := (b4.block _ (heap_lt k1)).trans k1
      replace hb := bw_call hb b4
      replace dr := bw_call dr b4
      clear b4 kr HH p0 p1 p2 p3
      by_cases hx : x = 0
      · rw [decide_eq_true hx]
        obtain ⟨bb, hbb⟩ : ∃ y, decide ((rc, rv) = ((0 : Int), (0 : Int))) = y := ⟨_, rfl⟩
        have HEQ : ∀ W : World, (Op.equalIn 10000 29 (.agg #[.int .i64 rc, .int .i64 rv]) (.agg #[.int .i64 0, .int .i64 0])).run Try.prog W = .ok bb W := fun W => by rw [← hbb]; exact rep_equal _ _ _ _ W
        have HM2 : Hid (repAt x (rc, rv) = bb) := by rw [Hid, HT.out, hbb, decide_eq_true hx]; rfl
        have f0 := at_cell k1 0
        have f1 := at_cell k1 1
        clear hbb HT hx k1
        cases bb
        · have HF : Hid _ := HN.out HM2.out
          go_wp2_with fail
          go_ret
          exact ⟨ret_bool HF.out.symm, dr⟩
        · have HF : Hid _ := HY.out HM2.out
          go_wp2_with fail
          go_roundw
          case rel => exact ⟨k + 1, by omega, by go_num, HF.out, hb⟩
          case measure => simp [intOf]; omega
      · have HF : Hid _ := HY.out (by rw [HT.out, decide_eq_false hx]; rfl)
        rw [decide_eq_false hx]
        clear hx
        go_wp2_with fail
        go_roundw
        case rel => exact ⟨k + 1, by omega, by go_num, HF.out, hb⟩
        case measure => simp [intOf]; omega
    · obtain rfl : k = 4 := by omega
      go_wp2_with fail
      go_ret
      exact ⟨ret_bool HA.out.symm, dr⟩

theorem implKnownT_any (a b c d client tag : Int) (w : World) :
    Calls Try.prog 32 #[.agg #[.int .i64 a, .int .i64 b, .int .i64 c, .int .i64 d], .int .i64 client, .int .i64 tag] w fun e w' => e = .returned (.int .i64 (knownT [a, b, c, d] client tag)) ∧ Below w.heap.size w w' := by
  obtain ⟨W0, hW0, k0, d0, z0⟩ := box1 w #[.int .i64 a, .int .i64 b, .int .i64 c, .int .i64 d] 59
  have HW0 : Hid (W0 = _) := hW0
  have HT : Hid (knownT [a, b, c, d] client tag = if inB client 0 3 = true ∧ inB tag 1 1000 = true then knownIn [a, b, c, d] client tag else -1) := rfl
  have HCB : Hid (inB client 0 3 = true → 0 ≤ client ∧ client ≤ 3) := fun h => (inB_iff _ _ _).1 h
  clear hW0 z0
  go_enter Try.func32, Try.ntmps32
  go_upto_region 1 with fail
  rw [← HW0.out]
  clear HW0
  go_wp2_with fail
  refine (clientOk_any client _).mono ?_
  rintro e w1 ⟨rfl, rfl⟩
  generalize inB client 0 3 = bC at HT HCB ⊢
  cases bC
  · go_wp2_with fail
    go_ret
    exact ⟨ret_int (by rw [HT.out]; rfl), d0⟩
  go_wp2_with fail
  refine (tagOk_any tag _).mono ?_
  rintro e w1 ⟨rfl, rfl⟩
  generalize inB tag 1 1000 = bT at HT ⊢
  cases bT
  · go_wp2_with fail
    go_ret
    exact ⟨ret_int (by rw [HT.out]; rfl), d0⟩
  rw [if_pos (by simp)] at HT
  obtain ⟨hc0, hc3⟩ := HCB.out (by simp)
  obtain ⟨C, rfl⟩ := Int.eq_ofNat_of_zero_le hc0
  have hC : C < 4 := by omega
  have p := (at_cell k0 C).trans (four_tags a b c d C hC)
  have HV : Hid (knownIn [a, b, c, d] (C : Int) tag = if [a, b, c, d].getD C 0 < tag then 0 else if tag = [a, b, c, d].getD C 0 then 1 else 2) := rfl
  generalize [a, b, c, d].getD C 0 = x at p HV
  have i0 : (0 : Int) ≤ (C : Int) := by omega
  have i1 : (C : Int) < 4 := by omega
  clear HCB hc0 hc3 k0
  by_cases hx : x < tag
  · rw [if_pos hx] at HV
    go_wp2_with fail
    go_ret
    exact ⟨ret_int (by rw [HT.out, HV.out]), d0⟩
  · rw [if_neg hx] at HV
    by_cases he : tag = x
    · rw [if_pos he] at HV
      subst he
      go_wp2_with fail
      go_ret
      exact ⟨ret_int (by rw [HT.out, HV.out]), d0⟩
    · rw [if_neg he] at HV
      have hb : (tag == x) = false := by rw [beq_eq_false_iff_ne]; exact he
      go_wp2_with fail
      go_ret
      exact ⟨ret_int (by rw [HT.out, HV.out]), d0⟩
end Go.Proofs.Ytpmoefagpglddaa

