/-
  Chapter 14's draws for the laws: DrawViewOk, DrawHeadOf, DrawNextOf, DrawWithout, DrawJoined.
-/
import Derived.Test.YtijmmenkcemggaaDrawVw2
namespace Go.Proofs.Ytijmmenkcemggaa
open Go.RowKit Nums
set_option linter.unusedVariables false
set_option maxRecDepth 100000

/-- What is drawn is small. -/
structure SmallV (n : Int) (ms : List Int) : Prop where
  n : 0 ≤ n ∧ n ≤ 1001
  ms : ∀ m ∈ ms, -1 ≤ m ∧ m ≤ 4

set_option maxHeartbeats 1600000 in
theorem drawViewOk_any (x : Option Addr) (len cap : Nat) (w : World) (hs : Src w w.heap.size x len) :
    Calls Try.prog 58 #[.slice x len cap] w fun e w' => ∃ (n : Int) (v : Value) (ms : List Int), e = .returned (.agg #[.int .i64 n, v]) ∧ OwnVw w.heap.size w' v ms ∧ SmallV n ms ∧ Below w.heap.size w w' := by
  obtain ⟨W0, hW0, kR, d, z0⟩ := box1 w #[.int .i64 0, .slice none 0 0] 26
  have hs0 : Src W0 W0.heap.size x len := (hs.below d).mono d.size
  have HW0 : Hid (W0 = _) := hW0
  have sR : w.heap.size < W0.heap.size := by omega
  clear hW0 z0
  go_enter Try.func58, Try.ntmps58
  go_wp2_with fail
  rw [← HW0.out]
  clear HW0
  refine (new_any x len cap _ hs0).mono ?_
  rintro e w1 ⟨rfl, b1, k1⟩
  replace kR := (b1.block _ sR).trans kR
  replace d := bw_call d b1
  have sc := k1.lt
  clear b1 hs0
  generalize W0.heap.size = c at *
  go_wp2_with fail
  refine (draw14_any _ x len cap _ k1).mono ?_
  rintro e w2 ⟨n, v, ms, rfl, own, hb, u, k2⟩
  replace kR := (u.block _ (heap_lt kR) (by omega)).trans kR
  replace d := d.trans (u.toBelow (by omega) (by omega))
  obtain ⟨o1, c1, rfl⟩ := own.forms
  have q0 := at_cell kR 0
  have q1 := at_cell kR 1
  have f0 := at_open kR 0
  have f1 := at_open kR 1
  have HS : Hid _ := view_end w w2 n _ _ _ w.heap.size ms (Nat.le_refl _) kR (owns_mono own.c (by omega)) d
  have HB : Hid (SmallV n ms) := ⟨hb.1, hb.2⟩
  clear own hb u k2 k1 kR d
  go_wp2_with fail
  exact bodyPost_ret (v := .agg #[.int .i64 n, .slice o1 ms.length c1]) (by simp [results, Try.results58, go_sem, at_cell HS.out.1]) rfl ⟨_, _, _, rfl, ⟨HS.out.2.1⟩, HB.out, HS.out.2.2⟩

set_option maxHeartbeats 1600000 in
theorem drawHeadOf_any (x : Option Addr) (len cap : Nat) (w : World) (hs : Src w w.heap.size x len) :
    Calls Try.prog 28 #[.slice x len cap] w fun e w' => ∃ (n : Int) (v : Value) (ms : List Int), e = .returned (.agg #[.int .i64 n, v]) ∧ OwnVw w.heap.size w' v ms ∧ SmallV n ms ∧ Below w.heap.size w w' := by
  obtain ⟨W0, hW0, kR, d, z0⟩ := box1 w #[.int .i64 0, .slice none 0 0] 26
  have hs0 : Src W0 W0.heap.size x len := (hs.below d).mono d.size
  have HW0 : Hid (W0 = _) := hW0
  clear hW0
  go_enter Try.func28, Try.ntmps28
  go_wp2_with fail
  rw [← HW0.out]
  clear HW0
  refine (drawViewOk_any x len cap _ hs0).mono ?_
  rintro e w2 ⟨n, v, ms, rfl, own, hb, b2⟩
  replace kR := (b2.block _ (by omega)).trans kR
  replace d := bw_call d b2
  obtain ⟨o1, c1, rfl⟩ := own.forms
  have q0 := at_cell kR 0
  have q1 := at_cell kR 1
  have f0 := at_open kR 0
  have f1 := at_open kR 1
  have HS : Hid _ := view_end w w2 n _ _ _ w.heap.size ms (Nat.le_refl _) kR (owns_mono own.c (by omega)) d
  have HB : Hid (SmallV n ms) := hb
  clear own hb b2 kR d hs0
  go_wp2_with fail
  exact bodyPost_ret (v := .agg #[.int .i64 n, .slice o1 ms.length c1]) (by simp [results, Try.results28, go_sem, at_cell HS.out.1]) rfl ⟨_, _, _, rfl, ⟨HS.out.2.1⟩, HB.out, HS.out.2.2⟩

set_option maxHeartbeats 3200000 in
theorem drawNextOf_any (x : Option Addr) (len cap : Nat) (w : World) (hs : Src w w.heap.size x len) :
    Calls Try.prog 25 #[.slice x len cap] w fun e w' => ∃ (n : Int) (v : Value) (ms : List Int) (h : Int), e = .returned (.tuple #[.agg #[.int .i64 n, v], .int .i64 h]) ∧ OwnVw w.heap.size w' v ms ∧ SmallV n ms ∧ (-1 ≤ h ∧ h ≤ 4) ∧ Below w.heap.size w w' := by
  obtain ⟨W0, hW0, kR, d, z0⟩ := box1 w #[.int .i64 0, .slice none 0 0] 26
  have hs0 : Src W0 W0.heap.size x len := (hs.below d).mono d.size
  have HW0 : Hid (W0 = _) := hW0
  have sR : w.heap.size < W0.heap.size := by omega
  clear hW0 z0
  go_enter Try.func25, Try.ntmps25
  go_wp2_with fail
  rw [← HW0.out]
  clear HW0
  refine (new_any x len cap _ hs0).mono ?_
  rintro e w1 ⟨rfl, b1, k1⟩
  replace kR := (b1.block _ sR).trans kR
  replace d := bw_call d b1
  have sc := k1.lt
  clear b1 hs0
  generalize W0.heap.size = c at *
  go_wp2_with fail
  refine (draw14_any _ x len cap _ k1).mono ?_
  rintro e w2 ⟨n, v, ms, rfl, own, hb, u, k2⟩
  replace kR := (u.block _ (heap_lt kR) (by omega)).trans kR
  replace d := d.trans (u.toBelow (by omega) (by omega))
  obtain ⟨o1, c1, rfl⟩ := own.forms
  have bP : Below w2.heap.size w2 (w2.alloc (.cells #[.int .i64 n, .slice o1 ms.length c1] 26)) := bw_alloc (Below.refl _ _)
  have kP := heap_alloc_new w2 (.cells #[.int .i64 n, .slice o1 ms.length c1] 26)
  replace kR := (bP.block _ (heap_lt kR)).trans kR
  replace d := bw_call d bP
  have k3 := k2.below bP
  have own3 := own.below bP
  have hPc : c < w2.heap.size := k2.lt
  have hn2 : w.heap.size < w2.heap.size := by omega
  have hcw : c < w1.heap.size := sc
  have HB : Hid (SmallV n ms) := ⟨hb.1, hb.2⟩
  clear k1 k2 bP u own hb
  go_wp2_with fail
  generalize w2.alloc (.cells #[.int .i64 n, .slice o1 ms.length c1] 26) = W3 at *
  generalize w2.heap.size = nP at *
  have S0 := at_cell (W := W3.drew) kP 0
  have S1 := at_cell (W := W3.drew) kP 1
  go_region_law (go_simp; go_at_call 56; refine (from_any _ x len cap (-1) 4 _ (by omega) (by omega) (by omega) k3.drew).mono ?_; rintro e w5 ⟨a, rfl, ha, u5, k5⟩; have v5 : Upto c W3 w5 := ⟨u5.os, u5.tape, u5.output, u5.size, u5.block⟩; have kP5 := (v5.block _ (heap_lt kP) (by omega)).trans kP; have kR5 := (v5.block _ (heap_lt kR) (by omega)).trans kR; have S50 := at_cell kP5 0; have S51 := at_cell kP5 1; have q0 := at_cell kR5 0; have q1 := at_cell kR5 1; have f0 := at_open kR5 0; have f1 := at_open kR5 1; dsimp only)
  all_goals
    have d5 : Below w.heap.size w w5 := d.trans (v5.toBelow d.size (by omega))
    have HS : Hid _ := view_end w w5 n _ _ _ w.heap.size ms (Nat.le_refl _) kR5 (owns_mono (ownsRow_upto own3.c v5 hcw) (by omega)) d5
    have HA : Hid _ := ha
    clear own3 kR5 kP5 d5 v5 u5 k5 k3 kP kR d S0 S1 S50 S51 q0 q1 f0 f1 ha
    go_wp2_with fail
    exact bodyPost_ret (v := .tuple #[.agg #[.int .i64 n, .slice o1 ms.length c1], .int .i64 a]) (by simp [results, Try.results25, go_sem, at_cell HS.out.1]) rfl ⟨_, _, _, _, rfl, ⟨HS.out.2.1⟩, HB.out, HA.out, HS.out.2.2⟩

set_option maxHeartbeats 1600000 in
theorem drawWithout_any (x : Option Addr) (len cap : Nat) (w : World) (hs : Src w w.heap.size x len) :
    Calls Try.prog 13 #[.slice x len cap] w fun e w' => ∃ (n : Int) (v : Value) (ms : List Int) (h : Int), e = .returned (.tuple #[.agg #[.int .i64 n, v], .int .i64 h]) ∧ OwnVw w.heap.size w' v ms ∧ SmallV n ms ∧ (-1 ≤ h ∧ h ≤ 4) ∧ Below w.heap.size w w' := by
  obtain ⟨W0, hW0, kR, d, z0⟩ := box1 w #[.int .i64 0, .slice none 0 0] 26
  have hs0 : Src W0 W0.heap.size x len := (hs.below d).mono d.size
  have HW0 : Hid (W0 = _) := hW0
  clear hW0
  go_enter Try.func13, Try.ntmps13
  go_wp2_with fail
  rw [← HW0.out]
  clear HW0
  refine (drawNextOf_any x len cap _ hs0).mono ?_
  rintro e w2 ⟨n, v, ms, h, rfl, own, hb, hh, b2⟩
  replace kR := (b2.block _ (by omega)).trans kR
  replace d := bw_call d b2
  obtain ⟨o1, c1, rfl⟩ := own.forms
  have q0 := at_cell kR 0
  have q1 := at_cell kR 1
  have f0 := at_open kR 0
  have f1 := at_open kR 1
  have HS : Hid _ := view_end w w2 n _ _ _ w.heap.size ms (Nat.le_refl _) kR (owns_mono own.c (by omega)) d
  have HB : Hid (SmallV n ms) := hb
  have HA : Hid _ := hh
  clear own hb b2 kR d hs0 hh
  go_wp2_with fail
  exact bodyPost_ret (v := .tuple #[.agg #[.int .i64 n, .slice o1 ms.length c1], .int .i64 h]) (by simp [results, Try.results13, go_sem, at_cell HS.out.1]) rfl ⟨_, _, _, _, rfl, ⟨HS.out.2.1⟩, HB.out, HA.out, HS.out.2.2⟩

set_option maxHeartbeats 1600000 in
theorem drawJoined_any (x : Option Addr) (len cap : Nat) (w : World) (hs : Src w w.heap.size x len) :
    Calls Try.prog 15 #[.slice x len cap] w fun e w' => ∃ (n : Int) (v : Value) (ms : List Int) (h : Int), e = .returned (.tuple #[.agg #[.int .i64 n, v], .int .i64 h]) ∧ OwnVw w.heap.size w' v ms ∧ SmallV n ms ∧ (-1 ≤ h ∧ h ≤ 4) ∧ Below w.heap.size w w' := by
  obtain ⟨W0, hW0, kR, d, z0⟩ := box1 w #[.int .i64 0, .slice none 0 0] 26
  have hs0 : Src W0 W0.heap.size x len := (hs.below d).mono d.size
  have HW0 : Hid (W0 = _) := hW0
  clear hW0
  go_enter Try.func15, Try.ntmps15
  go_wp2_with fail
  rw [← HW0.out]
  clear HW0
  refine (drawNextOf_any x len cap _ hs0).mono ?_
  rintro e w2 ⟨n, v, ms, h, rfl, own, hb, hh, b2⟩
  replace kR := (b2.block _ (by omega)).trans kR
  replace d := bw_call d b2
  obtain ⟨o1, c1, rfl⟩ := own.forms
  have q0 := at_cell kR 0
  have q1 := at_cell kR 1
  have f0 := at_open kR 0
  have f1 := at_open kR 1
  have HS : Hid _ := view_end w w2 n _ _ _ w.heap.size ms (Nat.le_refl _) kR (owns_mono own.c (by omega)) d
  have HB : Hid (SmallV n ms) := hb
  have HA : Hid _ := hh
  clear own hb b2 kR d hs0 hh
  go_wp2_with fail
  exact bodyPost_ret (v := .tuple #[.agg #[.int .i64 n, .slice o1 ms.length c1], .int .i64 h]) (by simp [results, Try.results15, go_sem, at_cell HS.out.1]) rfl ⟨_, _, _, _, rfl, ⟨HS.out.2.1⟩, HB.out, HA.out, HS.out.2.2⟩

end Go.Proofs.Ytijmmenkcemggaa
