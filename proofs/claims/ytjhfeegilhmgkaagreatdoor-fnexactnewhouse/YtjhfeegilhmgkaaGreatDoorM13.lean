/-
  Contracts and plain laws, one chapter behind the other.
-/
import Derived.BigRegion
import Derived.Deep.Cut
import Derived.Test.YtjhfeegilhmgkaaGreatDoorChecked
import Derived.Deep.Slices
import Derived.Deep.Strs
import Derived.Deep.DeepCutAuto
import Derived.Test.YtjhfeegilhmgkaaGreatDoorM02
import Derived.Test.YtjhfeegilhmgkaaGreatDoorM04
import Derived.Test.YtjhfeegilhmgkaaGreatDoorM07
import Derived.Test.YtjhfeegilhmgkaaGreatDoorM08
import Derived.Test.YtjhfeegilhmgkaaGreatDoorM10
import Derived.Test.YtjhfeegilhmgkaaGreatDoorM12
namespace Go.Proofs.YtjhfeegilhmgkaaGreatDoor
open Go.RowKit

set_option linter.unusedVariables false

set_option maxRecDepth 100000

set_option linter.unusedSimpArgs false


theorem only_rng2 {W W' : World} {a : Nat} (h : Only (fun k => k = a ∨ k = a + 1) W W') : Rng a (a + 1 + 1) W W' := ⟨h.os, h.tape, h.output, h.size, fun k hk hc => h.block k hk (by omega)⟩

theorem OwnS.nil (base : Nat) (w : World) : OwnS base w (.slice none 0 0) (.slice none 0 0) (.slice none 0 0) [] [] [] := ⟨OwnP.nil _ _, ⟨owns_nil _ _ _ _, fun b hb => by cases hb⟩, List.Pairwise.nil⟩

theorem replay_noI {n : Int} {l : List Ent} (h : rpOk n l = false) : replay n l = (Rp.zero, false) := by rw [replay, if_neg (by rw [h]; decide)]

theorem replay_yesI {n : Int} {l : List Ent} (h : rpOk n l = true) : replay n l = (rpFrom (rpNew n) l, true) := by rw [replay, if_pos h]
end Go.Proofs.YtjhfeegilhmgkaaGreatDoor

namespace Go.Proofs.YtjhfeegilhmgkaaGreatDoor
open Go.RowKit

set_option linter.unusedVariables false

set_option linter.unusedSimpArgs false


theorem Tryz.infoHouse9n : (Tryz.prog.info? 35).map (·.size) = some 9 := by kernel_rfl

set_option maxRecDepth 100000 in
set_option maxHeartbeats 3200000 in
theorem fromLog_nil (n : Int) (v : Value) (l : List Ent) (hl0 : l = []) (w : World) (ad : Nat → Addr) (hv : VarsS w ad) (hf : FitLog l) (hok : rpOk n l = true) (r : ReadsR 9 entC w.heap.size w v l) :
    Calls Tryz.prog 67 #[.int .i64 n, v] w fun e w' => ∃ (vl u1 u2 ub m1 m2 : Value) (ms : List Bk), e = .returned (.agg #[.bool true, .int .i64 n, vl, .int .i64 0, u1, u2, ub, m1, m2]) ∧ w'.ownsRow w.heap.size 39 9 vl l.length (l.flatMap entC) ∧ OwnS w.heap.size w' u1 u2 ub (rpFrom (rpNew n) l).s.cs (rpFrom (rpNew n) l).s.ps ms ∧ ms.map Bk.pb = (rpFrom (rpNew n) l).s.bs ∧ OwnM w.heap.size w' m1 m2 (rpFrom (rpNew n) l).ts (rpFrom (rpNew n) l).rs ∧ (∀ g, (u1.ownBlock = some g ∨ u2.ownBlock = some g) → m1.ownBlock ≠ some g) ∧ Below w.heap.size w w' := by
  obtain ⟨o, cap, rfl⟩ := r.form
  have HOK : Hid (rpOk n l = true) := hok
  have HFL : Hid (FitLog l) := hf
  have HL0 : Hid (l = []) := hl0
  clear hl0
  obtain ⟨hn, hl, ho⟩ := rpOk_parts hok
  have hp : (newPool n).2 = true := by rw [newPool_ok, (inB_iff _ _ _).2 hn]
  have hlo : logOk l = true := by simp [logOk, hl, ho]
  obtain ⟨M, hmk, hown⟩ := made_log l.length (by omega)
  have HMK : Hid _ := hmk
  have HOWN : Hid _ := hown
  obtain ⟨W0, hW0, kR, d0, z0⟩ := box1 w #[.bool false, .int .i64 0, .slice none 0 0, .int .i64 0, .slice none 0 0, .slice none 0 0, .slice none 0 0, .slice none 0 0, .slice none 0 0] 35
  have HW0 : Hid (W0 = _) := hW0
  have HRD : Hid _ := r
  have r0 := (r.below d0).mono d0.size
  have hns := implNewShelf_any n W0
  rw [hp] at hns
  have hv0 := hv.below d0
  clear hmk hown hW0 hok hp ho hn r
  go_enter Tryz.func67, Tryz.ntmps67
  go_upto_region 1 with fail
  rw [← HW0.out]
  clear HW0
  go_upto_region 2 with (go_at_call 128; refine hns.mono ?_; rintro e w1 ⟨u1, u2, ub, rfl, op, ob, b1⟩; obtain ⟨x1, j1, rfl⟩ := own_slice op.c; obtain ⟨x2, j2, rfl⟩ := own_slice op.p; have ob0 : w1.ownsRow W0.heap.size 118 5 ub 0 [] := ob.row; obtain ⟨x3, j3, rfl⟩ := own_slice ob0)
  obtain ⟨W2, hW2, kS, d2, z2⟩ := box1 w1 #[.slice x1 (newPool n).1.1.length j1, .slice x2 (newPool n).1.2.length j2, .slice x3 0 j3] 30
  have HW2 : Hid (W2 = _) := hW2
  have B02 := bw_call b1 d2
  have r2 := (r0.below B02).mono B02.size
  have kR2 := (B02.block _ (heap_lt kR)).trans kR
  have op2 := op.below d2
  have ob2 := ob.below d2
  have hv2 := hv0.below B02
  have hlg := implLogOk_any _ l W2 hf r2
  rw [hlo] at hlg
  rw [← HW2.out]
  clear HW2 hW2 hns ob0 op ob
  go_upto_region 3 with (go_at_call 120; refine (must_yes _).mono ?_; rintro e X3 ⟨rfl, rfl⟩)
  go_upto_region 4 with (first | (go_at_call 125; refine hlg.mono ?_; rintro e w4 ⟨rfl, b5⟩) | (go_at_call 120; refine (must_yes _).mono ?_; rintro e X5 ⟨rfl, rfl⟩))
  have B05 := bw_call (bw_call d0 B02) b5
  have kS5 := (b5.block _ (heap_lt kS)).trans kS
  have kR5 := (b5.block _ (heap_lt kR2)).trans kR2
  have op5 := op2.below b5
  have ob5 := ob2.below b5
  clear hlg kS kR2 op2 ob2 kR r0 r2 hv0 hv2 hlo hf
  obtain ⟨R, hR0⟩ : ∃ R : Nat → Value → World → Prop, R = fun j v X => match j with
    | 0 => v = .int .i64 n
    | 1 => v = .slice o l.length cap
    | 2 => v = .int .i64 (l.length : Int)
    | 3 => ∃ g : Nat, v = .slice (some ⟨g, 0, none⟩) 0 l.length ∧ X.ownsRow w.heap.size 39 9 (.slice (some ⟨g, 0, none⟩) 0 l.length) 0 []
    | 4 => v = .agg #[.slice x1 (newPool n).1.1.length j1, .slice x2 (newPool n).1.2.length j2, .slice x3 0 j3]
    | 5 => ∃ (a1 : Option Addr) (c1 : Nat) (a2 : Option Addr) (c2 : Nat), v = .agg #[.slice a1 4 c1, .slice a2 4 c2] ∧ OwnM X5.heap.size X (.slice a1 4 c1) (.slice a2 4 c2) [0, 0, 0, 0] [(0, 0), (0, 0), (0, 0), (0, 0)]
    | 6 => ∃ (g : Nat) (a1 : Option Addr) (c1 : Nat) (a2 : Option Addr) (c2 : Nat), v = .agg #[.bool true, .int .i64 n, .slice (some ⟨g, 0, none⟩) 0 l.length, .int .i64 0, .slice x1 (newPool n).1.1.length j1, .slice x2 (newPool n).1.2.length j2, .slice x3 0 j3, .slice a1 4 c1, .slice a2 4 c2] ∧ X.ownsRow w.heap.size 39 9 (.slice (some ⟨g, 0, none⟩) 0 l.length) 0 [] ∧ OwnM X5.heap.size X (.slice a1 4 c1) (.slice a2 4 c2) [0, 0, 0, 0] [(0, 0), (0, 0), (0, 0), (0, 0)]
    | 7 => ∃ g : Nat, v = .pointer (some ⟨g, 0, none⟩) ∧ X5.heap.size ≤ g ∧ X.heap[g]? = some (.cells #[.bool false, .int .i64 0, .slice none 0 0, .int .i64 0, .slice none 0 0, .slice none 0 0, .slice none 0 0, .slice none 0 0, .slice none 0 0] 35 (0, 0))
    | _ => True := ⟨_, rfl⟩
  have hR : Hid _ := hR0
  clear hR0
  have RMO : ∀ X X', Below X.heap.size X X' → ∀ j v, R j v X → R j v X' := fun X X' hb j v => by
    rw [hR.out]
    match j with
    | 0 => exact id
    | 1 => exact id
    | 2 => exact id
    | 3 => exact fun ⟨g, e, ow⟩ => ⟨g, e, owns_below ow hb⟩
    | 4 => exact id
    | 5 => exact fun ⟨a1, c1, a2, c2, e, om⟩ => ⟨a1, c1, a2, c2, e, om.below hb⟩
    | 6 => exact fun ⟨g, a1, c1, a2, c2, e, ow, om⟩ => ⟨g, a1, c1, a2, c2, e, owns_below ow hb, om.below hb⟩
    | 7 => exact fun ⟨g, e, hg, k⟩ => ⟨g, e, hg, (hb.block _ (heap_lt k)).trans k⟩
    | _ + 8 => exact id
  refine wp_region_inv (I := RXs _ 8 7 26 R _ X5) (by kernel_rfl) (RXs.start _ 8 7 26 _ _ X5) ?_ ?_
  · intro L a y i hL hD hi h
    obtain ⟨X, h⟩ := h
    have hin : i < 9 := (ready_mem hi).1
    have hnot := (ready_mem hi).2.1
    have hc : i = 0 ∨ i = 1 ∨ i = 2 ∨ i = 3 ∨ i = 4 ∨ i = 5 ∨ i = 6 ∨ i = 7 ∨ i = 8 := by omega
    have t0 : a.tmps.getD 0 undef = .int .i64 n := h.old 0 (by kernel_rfl)
    have t1 : a.tmps.getD 1 undef = .slice o l.length cap := h.old 1 (by kernel_rfl)
    have t5 : a.tmps.getD 5 undef = .pointer (some ⟨w1.heap.size, 0, none⟩) := h.old 5 (by kernel_rfl)
    rcases hc with rfl | rfl | rfl | rfl | rfl | rfl | rfl | rfl | rfl
    · refine wpOp_of rfl rfl ?_
      unfold Oper.wp
      go_simp
      exact h.put 0 20 _ (by decide) (by kernel_rfl) (of_decide_eq_true (by kernel_rfl)) (by kernel_rfl) (by kernel_rfl) (by decide) (by decide) (by rw [hR.out]; exact rfl)
    · refine wpOp_of rfl rfl ?_
      unfold Oper.wp
      go_simp
      exact h.put 1 21 _ (by decide) (by kernel_rfl) (of_decide_eq_true (by kernel_rfl)) (by kernel_rfl) (by kernel_rfl) (by decide) (by decide) (by rw [hR.out]; exact rfl)
    · have hn' : L.getD 8 false = false := hD.no 8 [6, 3, 2] hnot (by kernel_rfl) rfl
      obtain rfl := h.pre hn'
      have q1 := h.rel 1 21 (ready_dep hi (by kernel_rfl)) (by kernel_rfl)
      rw [hR.out] at q1
      have q1' : a.tmps.getD 21 undef = .slice o l.length cap := q1
      have s21 : a.tmps[21]?.getD undef = .slice o l.length cap := (Array.getD_eq_getD_getElem? ..).symm.trans q1'
      clear q1
      refine wpOp_of rfl rfl ?_
      unfold Oper.wp
      go_simp
      exact h.put 2 22 _ (by decide) (by kernel_rfl) (of_decide_eq_true (by kernel_rfl)) (by kernel_rfl) (by kernel_rfl) (by decide) (by decide) (by rw [hR.out]; exact rfl)
    · have hn' : L.getD 8 false = false := hD.no 8 [6, 3] hnot (by kernel_rfl) rfl
      obtain rfl := h.pre hn'
      have q2 := h.rel 2 22 (ready_dep hi (by kernel_rfl)) (by kernel_rfl)
      rw [hR.out] at q2
      have q2' : a.tmps.getD 22 undef = .int .i64 (l.length : Int) := q2
      have s22 : a.tmps[22]?.getD undef = .int .i64 (l.length : Int) := (Array.getD_eq_getD_getElem? ..).symm.trans q2'
      clear q2
      have hmy := HMK.out y
      have hb : Below y.heap.size y (y.alloc (.cells M 39)) := bw_alloc (Below.refl _ _)
      have hoy := HOWN.out y w.heap.size (by have := h.bel.size; have := B05.size; omega)
      refine wpOp_of rfl rfl ?_
      unfold Oper.wp
      go_simp
      exact h.val 3 23 _ _ (by decide) (by kernel_rfl) (of_decide_eq_true (by kernel_rfl)) (by kernel_rfl) (by kernel_rfl) hn' hb (by rw [hR.out]; exact ⟨_, rfl, hoy⟩) (RMO _ _ hb)
    · have hn' : L.getD 8 false = false := hD.no 8 [6, 4] hnot (by kernel_rfl) rfl
      obtain rfl := h.pre hn'
      have kSy := (h.bel.block _ (heap_lt kS5)).trans kS5
      have c0 := at_cell kSy 0
      have c1 := at_cell kSy 1
      have c2 := at_cell kSy 2
      refine wpOp_of rfl rfl ?_
      unfold Oper.wp
      go_simp
      exact h.put 4 24 _ (by decide) (by kernel_rfl) (of_decide_eq_true (by kernel_rfl)) (by kernel_rfl) (by kernel_rfl) (by decide) (by decide) (by rw [hR.out]; exact rfl)
    · have hn' : L.getD 8 false = false := hD.no 8 [6, 5] hnot (by kernel_rfl) rfl
      obtain rfl := h.pre hn'
      refine wpOp_of rfl rfl ?_
      unfold Oper.wp
      go_simp
      go_at_call 129
      refine (implNewMemo_any _).mono ?_
      rintro e y1 ⟨m1, m2, rfl, om, hb⟩
      obtain ⟨a1, c1, a2, c2, e1, e2⟩ := om.forms
      have e1' : m1 = .slice a1 4 c1 := e1
      have e2' : m2 = .slice a2 4 c2 := e2
      subst e1' e2'
      exact h.val 5 25 _ y1 (by decide) (by kernel_rfl) (of_decide_eq_true (by kernel_rfl)) (by kernel_rfl) (by kernel_rfl) hn' hb (by rw [hR.out]; exact ⟨a1, c1, a2, c2, rfl, om.mono h.bel.size⟩) (RMO _ _ hb)
    · have hn' : L.getD 8 false = false := hD.no 8 [6] hnot (by kernel_rfl) rfl
      obtain rfl := h.pre hn'
      have q0 := h.rel 0 20 (ready_dep hi (by kernel_rfl)) (by kernel_rfl)
      rw [hR.out] at q0
      have q0' : a.tmps.getD 20 undef = .int .i64 n := q0
      have s20 : a.tmps[20]?.getD undef = .int .i64 n := (Array.getD_eq_getD_getElem? ..).symm.trans q0'
      clear q0
      have q3 := h.rel 3 23 (ready_dep hi (by kernel_rfl)) (by kernel_rfl)
      rw [hR.out] at q3
      have q4 := h.rel 4 24 (ready_dep hi (by kernel_rfl)) (by kernel_rfl)
      rw [hR.out] at q4
      have q4' : a.tmps.getD 24 undef = .agg #[.slice x1 (newPool n).1.1.length j1, .slice x2 (newPool n).1.2.length j2, .slice x3 0 j3] := q4
      have s24 : a.tmps[24]?.getD undef = .agg #[.slice x1 (newPool n).1.1.length j1, .slice x2 (newPool n).1.2.length j2, .slice x3 0 j3] := (Array.getD_eq_getD_getElem? ..).symm.trans q4'
      clear q4
      have q5 := h.rel 5 25 (ready_dep hi (by kernel_rfl)) (by kernel_rfl)
      rw [hR.out] at q5
      obtain ⟨g, e23, ow⟩ := q3
      obtain ⟨a1, c1, a2, c2, e25, om⟩ := q5
      have s23 : a.tmps[23]?.getD undef = .slice (some ⟨g, 0, none⟩) 0 l.length := (Array.getD_eq_getD_getElem? ..).symm.trans e23
      have s25 : a.tmps[25]?.getD undef = .agg #[.slice a1 4 c1, .slice a2 4 c2] := (Array.getD_eq_getD_getElem? ..).symm.trans e25
      refine wpOp_of rfl rfl ?_
      unfold Oper.wp
      go_simp
      exact h.val 6 26 _ y (by decide) (by kernel_rfl) (of_decide_eq_true (by kernel_rfl)) (by kernel_rfl) (by kernel_rfl) hn' (Below.refl _ _) (by rw [hR.out]; exact ⟨g, a1, c1, a2, c2, rfl, ow, om⟩) (fun _ _ q => q)
    · have hn' : L.getD 8 false = false := hD.no 8 [7] hnot (by kernel_rfl) rfl
      obtain rfl := h.pre hn'
      have hb : Below y.heap.size y (y.alloc (.cells #[.bool false, .int .i64 0, .slice none 0 0, .int .i64 0, .slice none 0 0, .slice none 0 0, .slice none 0 0, .slice none 0 0, .slice none 0 0] 35)) := bw_alloc (Below.refl _ _)
      refine wpOp_of rfl rfl ?_
      unfold Oper.wp
      go_simp
      exact h.val 7 7 _ _ (by decide) (by kernel_rfl) (of_decide_eq_true (by kernel_rfl)) (by kernel_rfl) (by kernel_rfl) hn' hb (by rw [hR.out]; exact ⟨_, rfl, h.bel.size, heap_alloc_new y _⟩) (RMO _ _ hb)
    · have hn' := not_done hnot
      obtain rfl := h.pre hn'
      have q6 := h.rel 6 26 (ready_dep hi (by kernel_rfl)) (by kernel_rfl)
      rw [hR.out] at q6
      have q7 := h.rel 7 7 (ready_dep hi (by kernel_rfl)) (by kernel_rfl)
      rw [hR.out] at q7
      obtain ⟨g, a1, c1, a2, c2, eV, ow, om⟩ := q6
      obtain ⟨g7, eB, hg7, k7⟩ := q7
      refine wpOp_of rfl rfl (op_store 35 7 26 rfl rfl g7 eB _ eV #[.bool false, .int .i64 0, .slice none 0 0, .int .i64 0, .slice none 0 0, .slice none 0 0, .slice none 0 0, .slice none 0 0, .slice none 0 0] 35 k7 Tryz.infoHouse9n rfl (by simp [Value.oneCell']) ?_)
      exact h.store (by rw [hL]; exact of_decide_eq_true (by kernel_rfl)) hn' (by kernel_rfl) eB eV
  · intro L a y hL hD hr h
    obtain ⟨X, h⟩ := h
    have hall := all_done hL hr (by kernel_rfl)
    obtain ⟨g0, zs, eB, eV, rfl⟩ := h.fin (hall 8 (of_decide_eq_true (by kernel_rfl)))
    have qV := h.rel 6 26 (hall 6 (of_decide_eq_true (by kernel_rfl))) (by kernel_rfl)
    have qB := h.rel 7 7 (hall 7 (of_decide_eq_true (by kernel_rfl))) (by kernel_rfl)
    rw [hR.out] at qV qB
    obtain ⟨g, a1, c1, a2, c2, eV', ow, om0⟩ := qV
    have om := om0.mono B05.size
    have hap0 : (∀ g, ((Value.slice x1 (newPool n).1.1.length j1).ownBlock = some g ∨ (Value.slice x2 (newPool n).1.2.length j2).ownBlock = some g) → (Value.slice a1 4 c1).ownBlock ≠ some g) := fun g h1 h2 => by
      have a := (op5.span g h1).2
      have b := (om0.span g (.inl h2)).1
      omega
    obtain ⟨g7, eB', hg7, k7⟩ := qB
    have en : (Value.pointer (some ⟨g0, 0, none⟩)) = .pointer (some ⟨g7, 0, none⟩) := eB.symm.trans eB'
    have ez : Value.agg zs = .agg #[.bool true, .int .i64 n, .slice (some ⟨g, 0, none⟩) 0 l.length, .int .i64 0, .slice x1 (newPool n).1.1.length j1, .slice x2 (newPool n).1.2.length j2, .slice x3 0 j3, .slice a1 4 c1, .slice a2 4 c2] := eV.symm.trans eV'
    simp only [Value.pointer.injEq, Option.some.injEq, Addr.mk.injEq, and_true] at en
    simp only [Value.agg.injEq] at ez
    subst en ez
    obtain ⟨Y, hY⟩ : ∃ Y, Y = X.setRow g0 #[.bool true, .int .i64 n, .slice (some ⟨g, 0, none⟩) 0 l.length, .int .i64 0, .slice x1 (newPool n).1.1.length j1, .slice x2 (newPool n).1.2.length j2, .slice x3 0 j3, .slice a1 4 c1, .slice a2 4 c2] := ⟨_, rfl⟩
    have uY : Upto g0 X Y := by rw [hY]; exact row_upto
    have dY : Below X5.heap.size X5 Y := h.bel.trans (uY.toBelow h.bel.size hg7)
    have k7Y : Y.heap[g0]? = some (.cells #[.bool true, .int .i64 n, .slice (some ⟨g, 0, none⟩) 0 l.length, .int .i64 0, .slice x1 (newPool n).1.1.length j1, .slice x2 (newPool n).1.2.length j2, .slice x3 0 j3, .slice a1 4 c1, .slice a2 4 c2] 35 (0, 0)) := by rw [hY]; exact setRow_row k7
    have kRY := (dY.block _ (heap_lt kR5)).trans kR5
    have dwY : Below w.heap.size w Y := bw_call B05 dY
    have hneR : w.heap.size ≠ g0 := by have := heap_lt kR5; omega
    have HST : Hid (HsAt n l 0 w.heap.size g0 Y (.slice (some ⟨g, 0, none⟩) 0 l.length) (.slice x1 (newPool n).1.1.length j1) (.slice x2 (newPool n).1.2.length j2) (.slice x3 0 j3) (.slice a1 4 c1) (.slice a2 4 c2) []) :=
      ⟨k7Y, own_only (S := fun j => j = g0) ow (onlyU uY) (fun q hq e => own_not_box ow k7 (by decide) (by rw [hq, e])), ⟨(op5.below dY).mono d0.size, (ob5.below dY).mono d0.size, List.Pairwise.nil⟩, rfl,
        ⟨own_only (S := fun j => j = g0) om.t (onlyU uY) (fun q hq e => own_not_box om.t k7 (by decide) (by rw [hq, e])), own_only (S := fun j => j = g0) om.r (onlyU uY) (fun q hq e => own_not_box om.r k7 (by decide) (by rw [hq, e]))⟩, hap0⟩
    have hfr := h.frame [20, 21, 22, 23, 24, 25, 26, 7] (by kernel_rfl)
    obtain ⟨f, hf⟩ : ∃ f : Nat → Value, (fun s => a.tmps.getD s undef) = f := ⟨_, rfl⟩
    have hB7 : f 7 = .pointer (some ⟨g0, 0, none⟩) := by rw [← hf]; exact eB
    rw [hf] at hfr
    rw [← hY]
    clear hf h hall hr hD hL eB eV eB' eV' ow om om0 hap0 k7 RMO hR R HMK HOWN hY op5 ob5 kR5 kS5
    subst hfr
    simp only [Act.puts, Act.put, List.setIfInBounds_toArray, List.set_cons_succ, List.set_cons_zero]
    rw [hB7]
    generalize f 20 = u20
    generalize f 21 = u21
    generalize f 22 = u22
    generalize f 23 = u23
    generalize f 24 = u24
    generalize f 25 = u25
    generalize f 26 = u26
    clear hB7 f
    show Exit.then _ _ _ _ _
    have HRC : Hid _ := HRD.out
    have hgb : w.heap.size ≤ g0 := by have := heap_lt kRY; have := B05.size; omega
    go_wp2_with fail
    go_loopw [29] (fun i wr => ∃ (k : Nat) (vl v1 v2 vb m1 m2 : Value) (ms : List Bk), k ≤ l.length ∧ i = .int .i64 k ∧ HsAt n l k w.heap.size g0 wr vl v1 v2 vb m1 m2 ms ∧ wr.heap[w.heap.size]? = some (.cells #[.bool false, .int .i64 0, .slice none 0 0, .int .i64 0, .slice none 0 0, .slice none 0 0, .slice none 0 0, .slice none 0 0, .slice none 0 0] 35 (0, 0)) ∧ Below w.heap.size w wr) (fun i _ => l.length - (intOf i).toNat)
    case atStart => exact ⟨0, _, _, _, _, _, _, _, Nat.zero_le _, rfl, HST.out, kRY, dwY⟩
    case round =>
      obtain ⟨k, vl, v1, v2, vb, m1, m2, ms, hk, rfl, hs, kRw, hb⟩ := hrel
      obtain ⟨b1', f1', b2', f2', b3', f3', rfl, rfl, rfl⟩ := hs.sh.forms
      obtain ⟨b4', f4', b5', f5', rfl, rfl⟩ := hs.mm.forms
      obtain ⟨b0', f0', rfl⟩ := own_slice hs.log
      by_cases hlt : k < l.length
      · exact absurd hlt (by rw [HL0.out]; exact Nat.not_lt_zero _)
      · obtain rfl : k = l.length := by omega
        have et : l.take l.length = l := List.take_length
        have hlog := hs.log
        have hsh := hs.sh
        have hbs := hs.bs
        have hmm := hs.mm
        have kbx := hs.box
        have kbn := hs.log_not kRw
        have hap1 := hs.ap
        clear hs
        rw [et] at hlog hsh hbs hmm kbx kbn hap1
        obtain ⟨st, hst⟩ : ∃ st, rpFrom (rpNew n) l = st := ⟨_, rfl⟩
        rw [hst] at hsh hbs hmm kbx hap1
        have HAPE : Hid _ := hap1
        clear hap1
        have HSQ : Hid (rpFrom (rpNew n) l = st) := hst
        clear hst
        obtain ⟨V, hV⟩ : ∃ V : World, V = (((((((((wr.setCell ⟨w.heap.size, 0, none⟩ (.bool true)).setCell ⟨w.heap.size, 1, none⟩ (.int .i64 n)).setCell ⟨w.heap.size, 2, none⟩ (.slice b0' l.length f0')).setCell ⟨w.heap.size, 3, none⟩ (.int .i64 0)).setCell ⟨w.heap.size, 4, none⟩ (.slice b1' st.s.cs.length f1')).setCell ⟨w.heap.size, 5, none⟩ (.slice b2' st.s.ps.length f2')).setCell ⟨w.heap.size, 6, none⟩ (.slice b3' ms.length f3')).setCell ⟨w.heap.size, 7, none⟩ (.slice b4' st.ts.length f4')).setCell ⟨w.heap.size, 8, none⟩ (.slice b5' st.rs.length f5')) := ⟨_, rfl⟩
        have HV : Hid (V = _) := hV
        have HE : Hid _ := grown_ans kRw (.bool true) (.int .i64 n) (.slice b0' l.length f0') (.int .i64 0) (.slice b1' st.s.cs.length f1') (.slice b2' st.s.ps.length f2') (.slice b3' ms.length f3') (.slice b4' st.ts.length f4') (.slice b5' st.rs.length f5') hV
        have uV := HE.out.2
        have HF : Hid _ := And.intro (own_only (S := fun j => j = w.heap.size) hlog (onlyU uV) (fun q hq e => own_not_box hlog kRw (by decide) (by rw [hq, e]))) (And.intro (hsh.box kRw uV (by decide) (by decide) (by decide)) (And.intro hbs (And.intro (And.intro (own_only (S := fun j => j = w.heap.size) hmm.t (onlyU uV) (fun q hq e => own_not_box hmm.t kRw (by decide) (by rw [hq, e]))) (own_only (S := fun j => j = w.heap.size) hmm.r (onlyU uV) (fun q hq e => own_not_box hmm.r kRw (by decide) (by rw [hq, e])))) (hb.trans (uV.toBelow hb.size (Nat.le_refl _))))))
        have c0 := at_cell kbx 0
        have c1 := at_cell kbx 1
        have c2 := at_cell kbx 2
        have c3 := at_cell kbx 3
        have c4 := at_cell kbx 4
        have c5 := at_cell kbx 5
        have c6 := at_cell kbx 6
        have c7 := at_cell kbx 7
        have c8 := at_cell kbx 8
        have p0 := at_cell kRw 0
        have p1 := at_cell kRw 1
        have p2 := at_cell kRw 2
        have p3 := at_cell kRw 3
        have p4 := at_cell kRw 4
        have p5 := at_cell kRw 5
        have p6 := at_cell kRw 6
        have p7 := at_cell kRw 7
        have p8 := at_cell kRw 8
        have f0 := at_open kRw 0
        have f1 := at_open kRw 1
        have f2 := at_open kRw 2
        have f3 := at_open kRw 3
        have f4 := at_open kRw 4
        have f5 := at_open kRw 5
        have f6 := at_open kRw 6
        have f7 := at_open kRw 7
        have f8 := at_open kRw 8
        clear hV uV hlog hsh hmm kbx kbn kRw HRC hbs hb
        go_wp2_with fail
        rw [← HV.out]
        refine bodyPost_ret (v := .agg #[.bool true, .int .i64 n, .slice b0' l.length f0', .int .i64 0, .slice b1' st.s.cs.length f1', .slice b2' st.s.ps.length f2', .slice b3' ms.length f3', .slice b4' st.ts.length f4', .slice b5' st.rs.length f5']) (by simp [results, Tryz.results67, go_sem, at_cell HE.out.1]) rfl ?_
        rw [HSQ.out]
        exact ⟨.slice b0' l.length f0', .slice b1' st.s.cs.length f1', .slice b2' st.s.ps.length f2', .slice b3' ms.length f3', .slice b4' st.ts.length f4', .slice b5' st.rs.length f5', ms, rfl, HF.out.1, HF.out.2.1, HF.out.2.2.1, ⟨HF.out.2.2.2.1.1, HF.out.2.2.2.1.2⟩, HAPE.out, HF.out.2.2.2.2⟩
end Go.Proofs.YtjhfeegilhmgkaaGreatDoor

namespace Go.Proofs.YtjhfeegilhmgkaaGreatDoor
open Go.RowKit

set_option linter.unusedVariables false

set_option maxRecDepth 100000

set_option linter.unusedSimpArgs false


set_option maxHeartbeats 3200000 in
theorem newHouse1_nil (n : Int) (l : List Ent) (hl0 : l = []) (p base : Nat) (ad : Nat → Addr) (ab : Addr) (W : World) (kp : W.heap[p]? = some (.cells #[.int .i64 n] 2 (0, 0))) (hv : VarsS W ad) (hb : VarB W ab) (hbase : base ≤ W.heap.size) :
    Calls Tryz.prog 66 #[.pointer (some ⟨p, 0, none⟩)] W (WorkP (HsQ base n l) (rpOk n l = false) W) := by
  have hf : FitLog l := by rw [hl0]; exact fun e he => by cases he
  obtain ⟨WA, hWA, kRA, dA, zA⟩ := box1 W #[.bool false, .int .i64 0, .slice none 0 0, .int .i64 0, .slice none 0 0, .slice none 0 0, .slice none 0 0, .slice none 0 0, .slice none 0 0] 35
  have HWA : Hid (WA = _) := hWA
  obtain ⟨W0, hW0, kE, dB, z0⟩ := box1 WA #[] 39
  have HW0 : Hid (W0 = _) := hW0
  have kR := (dB.block _ (heap_lt kRA)).trans kRA
  have d0 := bw_call dA dB
  rw [zA] at z0
  have pc := at_cell ((dA.block _ (heap_lt kp)).trans kp) 0
  have r0 : ReadsR 9 entC W0.heap.size W0 (.slice (some ⟨WA.heap.size, 0, none⟩) 0 0) l := by rw [hl0]; exact ⟨some ⟨WA.heap.size, 0, none⟩, 0, rfl, Nat.zero_le _, fun i x h => by simp at h, Nat.zero_le _⟩
  have HL0 : Hid (l = []) := hl0
  clear hWA kRA hl0
  have hv0 := hv.below d0
  have hb0 := hb.below d0
  have HBS : Hid (base ≤ W.heap.size) := hbase
  have hlt : W.heap.size < W0.heap.size := by omega
  clear z0 zA
  by_cases hok : rpOk n l = true
  case neg =>
    have hok' : rpOk n l = false := by simpa using hok
    have hn := fromLog_no n _ l W0 ab hb0 hf hok' r0
    have HOK : Hid (rpOk n l = false) := hok'
    clear hW0 hv hb hv0 hb0 hok hok' r0
    go_enter Tryz.func66, Tryz.ntmps66
    go_upto_region 1 with fail
    rw [← HWA.out]
    go_wp2_with fail
    rw [← HW0.out]
    clear HW0 HWA pc
    refine hn.mono ?_
    rintro e w1 ⟨rfl, b1⟩
    go_wp2_with fail
    exact ⟨rfl, bw_call d0 b1, .inr ⟨_, _, rfl, HOK.out⟩⟩
  · have hy := fromLog_nil n _ l HL0.out W0 ad hv0 hf hok r0
    have HOKT : Hid (rpOk n l = true) := hok
    clear hW0 hv hb hv0 hb0 hok r0
    go_enter Tryz.func66, Tryz.ntmps66
    go_upto_region 1 with fail
    rw [← HWA.out]
    go_wp2_with fail
    rw [← HW0.out]
    clear HW0 HWA pc
    refine hy.mono ?_
    rintro e w1 ⟨vl, u1, u2, ub, m1, m2, ms, rfl, own, os, hms, om, ap, b1⟩
    have kR1 := (b1.block _ (heap_lt kR)).trans kR
    obtain ⟨st, hst⟩ : ∃ st, rpFrom (rpNew n) l = st := ⟨_, rfl⟩
    rw [hst] at os hms om
    have HSQ : Hid (rpFrom (rpNew n) l = st) := hst
    clear hst hy
    obtain ⟨y1, z1, y2, z2, y3, z3, rfl, rfl, rfl⟩ := os.forms
    obtain ⟨y4, z4, y5, z5, rfl, rfl⟩ := om.forms
    obtain ⟨yl, zl, rfl⟩ := own_slice own
    have HAPE : Hid _ := ap
    clear ap
    obtain ⟨V, hV⟩ : ∃ V : World, V = (((((((((w1.setCell ⟨W.heap.size, 0, none⟩ (.bool true)).setCell ⟨W.heap.size, 1, none⟩ (.int .i64 n)).setCell ⟨W.heap.size, 2, none⟩ (.slice yl l.length zl)).setCell ⟨W.heap.size, 3, none⟩ (.int .i64 0)).setCell ⟨W.heap.size, 4, none⟩ (.slice y1 st.s.cs.length z1)).setCell ⟨W.heap.size, 5, none⟩ (.slice y2 st.s.ps.length z2)).setCell ⟨W.heap.size, 6, none⟩ (.slice y3 ms.length z3)).setCell ⟨W.heap.size, 7, none⟩ (.slice y4 st.ts.length z4)).setCell ⟨W.heap.size, 8, none⟩ (.slice y5 st.rs.length z5)) := ⟨_, rfl⟩
    have HV : Hid (V = _) := hV
    have HE : Hid _ := grown_ans kR1 (.bool true) (.int .i64 n) (.slice yl l.length zl) (.int .i64 0) (.slice y1 st.s.cs.length z1) (.slice y2 st.s.ps.length z2) (.slice y3 ms.length z3) (.slice y4 st.ts.length z4) (.slice y5 st.rs.length z5) hV
    have uV := HE.out.2
    have dV : Below W.heap.size W V := (bw_call d0 b1).trans (uV.toBelow (bw_call d0 b1).size (Nat.le_refl _))
    have HF : Hid _ := And.intro (owns_mono (ownsRow_upto own uV hlt) (show base ≤ W0.heap.size by omega)) (And.intro ((os.upto uV hlt).mono (show base ≤ W0.heap.size by omega)) (And.intro hms (And.intro ((om.upto uV hlt).mono (show base ≤ W0.heap.size by omega)) dV)))
    have p0 := at_cell kR1 0
    have p1 := at_cell kR1 1
    have p2 := at_cell kR1 2
    have p3 := at_cell kR1 3
    have p4 := at_cell kR1 4
    have p5 := at_cell kR1 5
    have p6 := at_cell kR1 6
    have p7 := at_cell kR1 7
    have p8 := at_cell kR1 8
    have f0 := at_open kR1 0
    have f1 := at_open kR1 1
    have f2 := at_open kR1 2
    have f3 := at_open kR1 3
    have f4 := at_open kR1 4
    have f5 := at_open kR1 5
    have f6 := at_open kR1 6
    have f7 := at_open kR1 7
    have f8 := at_open kR1 8
    clear hV uV own os om kR1 kR hms dV
    go_wp2_with fail
    rw [← HV.out]
    refine bodyPost_ret (v := .agg #[.bool true, .int .i64 n, .slice yl l.length zl, .int .i64 0, .slice y1 st.s.cs.length z1, .slice y2 st.s.ps.length z2, .slice y3 ms.length z3, .slice y4 st.ts.length z4, .slice y5 st.rs.length z5]) (by simp [results, Tryz.results66, go_sem, at_cell HE.out.1]) rfl ?_
    refine ⟨HF.out.2.2.2.2, .inl ⟨⟨true, n, ⟨yl, l.length, zl⟩, 0, ⟨y1, st.s.cs.length, z1⟩, ⟨y2, st.s.ps.length, z2⟩, ⟨y3, ms.length, z3⟩, ⟨y4, st.ts.length, z4⟩, ⟨y5, st.rs.length, z5⟩⟩, rfl, ms, HOKT.out, rfl, rfl, rfl, ?_⟩⟩
    rw [HSQ.out]
    exact ⟨HF.out.1, HF.out.2.1, HF.out.2.2.1, HF.out.2.2.2.1, HAPE.out⟩

set_option maxHeartbeats 1600000 in
theorem implNewHouse_nil (n : Int) (w : World) (ad : Nat → Addr) (ab : Addr) (hv : VarsS w ad) (hb : VarB w ab) (pg : Int) (st : Rp) (ok : Bool) (hn : newH n = (pg, st, ok)) :
    Calls Tryz.prog 14 #[.int .i64 n] w fun e w' => ∃ (lo : Option Addr) (lc : Nat) (o1 : Option Addr) (c1 : Nat) (o2 : Option Addr) (c2 : Nat) (o3 : Option Addr) (c3 : Nat) (o4 : Option Addr) (c4 : Nat) (o5 : Option Addr) (c5 : Nat), e = .returned (.tuple #[.agg #[.bool ok, .int .i64 pg, .slice lo 0 lc, .int .i64 0, .slice o1 st.s.cs.length c1, .slice o2 st.s.ps.length c2, .slice o3 0 c3, .slice o4 st.ts.length c4, .slice o5 st.rs.length c5], .bool ok]) ∧ OwnH0 w.heap.size w' st lo lc o1 c1 o2 c2 o3 c3 o4 c4 o5 c5 ∧ (∀ g, ((Value.slice o1 st.s.cs.length c1).ownBlock = some g ∨ (Value.slice o2 st.s.ps.length c2).ownBlock = some g) → (Value.slice o4 st.ts.length c4).ownBlock ≠ some g) ∧ Below w.heap.size w w' := by
  obtain ⟨W0, hW0, kp, kR, d0, z0⟩ := box2 w #[.int .i64 n] #[.bool false, .int .i64 0, .slice none 0 0, .int .i64 0, .slice none 0 0, .slice none 0 0, .slice none 0 0, .slice none 0 0, .slice none 0 0] 2 35
  have HW0 : Hid (W0 = _) := hW0
  have e1 : (replay n []).1 = st := by have := congrArg (fun z => z.2.1) hn; exact this
  have e2 : (replay n []).2 = ok := by have := congrArg (fun z => z.2.2) hn; exact this
  have hno : ok = false → pg = 0 ∧ st = Rp.zero := fun h => by
    have := newH_no (n := n) (by rw [hn]; exact h)
    rw [hn] at this
    exact this
  have hyes : ok = true → pg = n := fun h => by
    have := newH_yes (n := n) (by rw [hn]; exact h)
    rw [hn] at this
    exact this
  have lp : w.heap.size < W0.heap.size := by omega
  have hv0 := hv.below d0
  have hb0 := hb.below d0
  have hface := face_new #[.pointer (some ⟨w.heap.size, 0, none⟩)] (HsQ (W0.heap.size + 1 + 1) n []) (rpOk n [] = false) W0 (fun W d hsz => newHouse1_nil n [] rfl _ _ ad ab W ((d.block _ lp).trans kp) (hv0.below d) (hb0.below d) hsz)
  have hmf : ∀ (fn : Fn) (first cap : Array Value) (w : World), (Instr.makeFunc fn first cap).run Tryz.prog w = .ok (.func fn first cap) w := fun _ _ _ _ => rfl
  clear hW0 hv hb hv0 hb0 z0 hn kp
  by_cases hok : rpOk n [] = true
  · have hy := replay_yesI hok
    rw [hy] at e1 e2
    have e1' : rpFrom (rpNew n) [] = st := e1
    have e2' : true = ok := e2
    subst e2'
    obtain rfl := hyes rfl
    have hbs : st.s.bs = [] := by rw [← e1']; rfl
    have hfy := hface.mono (R' := fun e w' => Below W0.heap.size W0 w' ∧ ∃ (lo : Option Addr) (lc : Nat) (o1 : Option Addr) (c1 : Nat) (o2 : Option Addr) (c2 : Nat) (o3 : Option Addr) (c3 : Nat) (o4 : Option Addr) (c4 : Nat) (o5 : Option Addr) (c5 : Nat), e = .returned (.tuple #[.agg #[.bool true, .int .i64 pg, .slice lo 0 lc, .int .i64 0, .slice o1 st.s.cs.length c1, .slice o2 st.s.ps.length c2, .slice o3 0 c3, .slice o4 st.ts.length c4, .slice o5 st.rs.length c5], .bool true]) ∧ OwnH0 (W0.heap.size + 1 + 1) w' st lo lc o1 c1 o2 c2 o3 c3 o4 c4 o5 c5 ∧ (∀ g, ((Value.slice o1 st.s.cs.length c1).ownBlock = some g ∨ (Value.slice o2 st.s.ps.length c2).ownBlock = some g) → (Value.slice o4 st.ts.length c4).ownBlock ≠ some g)) (by
      rintro e w' ⟨b, ⟨⟨up, pg', ⟨lo, ln, lc⟩, ak, ⟨a1, a2, a3⟩, ⟨p1, p2, p3⟩, ⟨b1, b2, b3⟩, ⟨t1, t2, t3⟩, ⟨r1, r2, r3⟩⟩, W1, rfl, ⟨ms, -, hup, hpg, hak, hlog, os, hms, om, ap⟩, on, -, -⟩ | ⟨-, hg⟩⟩
      · dsimp only at hup hpg hak hlog os om ap
        rw [e1'] at os hms om
        rw [hbs] at hms
        obtain rfl := List.map_eq_nil_iff.1 hms
        subst hup hpg hak
        obtain ⟨x1, y1, q1⟩ := own_slice hlog
        obtain ⟨x2, y2, x3, y3, x4, y4, q2, q3, q4⟩ := os.forms
        obtain ⟨x5, y5, x6, y6, q5, q6⟩ := om.forms
        have q4' : Value.slice b1 b2 b3 = .slice x4 0 y4 := q4
        have q1' : Value.slice lo ln lc = .slice x1 0 y1 := q1
        cases q1'
        cases q2
        cases q3
        cases q4'
        cases q5
        cases q6
        have ow : OwnH0 (W0.heap.size + 1 + 1) W1 st lo lc a1 a3 p1 p3 b1 b3 t1 t3 r1 r3 := ⟨hlog, os, om⟩
        exact ⟨b, lo, lc, a1, a3, p1, p3, b1, b3, t1, t3, r1, r3, rfl, ow.rng (only_rng2 on) (Nat.le_refl _), ap⟩
      · rw [hok] at hg; cases hg)
    clear hface hok hno hyes hy e1 e1' e2 hbs
    go_enter Tryz.func14, Tryz.ntmps14
    go_upto_region 1 with fail
    rw [← HW0.out]
    clear HW0
    go_wp2_with fail
    refine hfy.mono ?_
    rintro e W2 ⟨b5, lo, lc, o1, c1, o2, c2, o3, c3, o4, c4, o5, c5, rfl, OW, ap⟩
    have HAPE : Hid _ := ap
    clear ap
    have kR2 := (b5.block _ (heap_lt kR)).trans kR
    have D2 := bw_call d0 b5
    obtain ⟨V, hV⟩ : ∃ V : World, V = (((((((((W2.setCell ⟨w.heap.size + 1, 0, none⟩ (.bool true)).setCell ⟨w.heap.size + 1, 1, none⟩ (.int .i64 pg)).setCell ⟨w.heap.size + 1, 2, none⟩ (.slice lo 0 lc)).setCell ⟨w.heap.size + 1, 3, none⟩ (.int .i64 0)).setCell ⟨w.heap.size + 1, 4, none⟩ (.slice o1 st.s.cs.length c1)).setCell ⟨w.heap.size + 1, 5, none⟩ (.slice o2 st.s.ps.length c2)).setCell ⟨w.heap.size + 1, 6, none⟩ (.slice o3 0 c3)).setCell ⟨w.heap.size + 1, 7, none⟩ (.slice o4 st.ts.length c4)).setCell ⟨w.heap.size + 1, 8, none⟩ (.slice o5 st.rs.length c5)) := ⟨_, rfl⟩
    have HV : Hid (V = _) := hV
    have HE : Hid _ := house_put kR2 (.bool true) (.int .i64 pg) (.slice lo 0 lc) (.int .i64 0) (.slice o1 st.s.cs.length c1) (.slice o2 st.s.ps.length c2) (.slice o3 0 c3) (.slice o4 st.ts.length c4) (.slice o5 st.rs.length c5) hV
    have uV := HE.out.2
    have p0 := at_cell kR2 0
    have p1 := at_cell kR2 1
    have p2 := at_cell kR2 2
    have p3 := at_cell kR2 3
    have p4 := at_cell kR2 4
    have p5 := at_cell kR2 5
    have p6 := at_cell kR2 6
    have p7 := at_cell kR2 7
    have p8 := at_cell kR2 8
    have f0 := at_open kR2 0
    have f1 := at_open kR2 1
    have f2 := at_open kR2 2
    have f3 := at_open kR2 3
    have f4 := at_open kR2 4
    have f5 := at_open kR2 5
    have f6 := at_open kR2 6
    have f7 := at_open kR2 7
    have f8 := at_open kR2 8
    have HF : Hid _ := And.intro ((OW.upto uV (by omega)).mono (show w.heap.size ≤ W0.heap.size + 1 + 1 by omega)) (D2.trans (uV.toBelow D2.size (Nat.le_succ _)))
    clear hV uV kR2 OW hfy kR lp b5
    go_wp2_with fail
    rw [← HV.out]
    refine bodyPost_ret (v := .tuple #[.agg #[.bool true, .int .i64 pg, .slice lo 0 lc, .int .i64 0, .slice o1 st.s.cs.length c1, .slice o2 st.s.ps.length c2, .slice o3 0 c3, .slice o4 st.ts.length c4, .slice o5 st.rs.length c5], .bool true]) (by simp [results, Tryz.results14, go_sem, at_cell HE.out.1]) rfl ?_
    exact ⟨lo, lc, o1, c1, o2, c2, o3, c3, o4, c4, o5, c5, rfl, HF.out.1, HAPE.out, HF.out.2⟩
  · have hok' : rpOk n [] = false := by simpa using hok
    have hy := replay_noI hok'
    rw [hy] at e1 e2
    have e2' : false = ok := e2
    subst e2'
    obtain ⟨rfl, rfl⟩ := hno rfl
    have hfy := hface.mono (R' := fun e w' => Below W0.heap.size W0 w' ∧ e = .returned (.tuple #[.agg hz9, .bool false])) (by
      rintro e w' ⟨b, ⟨h, W1, -, ⟨ms, ho, -⟩, -⟩ | ⟨e1, -⟩⟩
      · exact absurd ho hok
      · exact ⟨b, e1⟩)
    clear hface hok hok' hno hyes hy e1 e2
    unfold hz9 at hfy
    go_enter Tryz.func14, Tryz.ntmps14
    go_upto_region 1 with fail
    rw [← HW0.out]
    clear HW0
    go_wp2_with fail
    refine hfy.mono ?_
    rintro e W2 ⟨b5, rfl⟩
    have kR2 := (b5.block _ (heap_lt kR)).trans kR
    have D2 := bw_call d0 b5
    obtain ⟨V, hV⟩ : ∃ V : World, V = (((((((((W2.setCell ⟨w.heap.size + 1, 0, none⟩ (.bool false)).setCell ⟨w.heap.size + 1, 1, none⟩ (.int .i64 0)).setCell ⟨w.heap.size + 1, 2, none⟩ (.slice none 0 0)).setCell ⟨w.heap.size + 1, 3, none⟩ (.int .i64 0)).setCell ⟨w.heap.size + 1, 4, none⟩ (.slice none 0 0)).setCell ⟨w.heap.size + 1, 5, none⟩ (.slice none 0 0)).setCell ⟨w.heap.size + 1, 6, none⟩ (.slice none 0 0)).setCell ⟨w.heap.size + 1, 7, none⟩ (.slice none 0 0)).setCell ⟨w.heap.size + 1, 8, none⟩ (.slice none 0 0)) := ⟨_, rfl⟩
    have HV : Hid (V = _) := hV
    have HE : Hid _ := house_put kR2 (.bool false) (.int .i64 0) (.slice none 0 0) (.int .i64 0) (.slice none 0 0) (.slice none 0 0) (.slice none 0 0) (.slice none 0 0) (.slice none 0 0) hV
    have uV := HE.out.2
    have p0 := at_cell kR2 0
    have p1 := at_cell kR2 1
    have p2 := at_cell kR2 2
    have p3 := at_cell kR2 3
    have p4 := at_cell kR2 4
    have p5 := at_cell kR2 5
    have p6 := at_cell kR2 6
    have p7 := at_cell kR2 7
    have p8 := at_cell kR2 8
    have f0 := at_open kR2 0
    have f1 := at_open kR2 1
    have f2 := at_open kR2 2
    have f3 := at_open kR2 3
    have f4 := at_open kR2 4
    have f5 := at_open kR2 5
    have f6 := at_open kR2 6
    have f7 := at_open kR2 7
    have f8 := at_open kR2 8
    have HF : Hid _ := And.intro (OwnH0.zero w.heap.size V) (D2.trans (uV.toBelow D2.size (Nat.le_succ _)))
    clear hV uV kR2 hfy kR lp b5
    go_wp2_with fail
    rw [← HV.out]
    refine bodyPost_ret (v := .tuple #[.agg #[.bool false, .int .i64 0, .slice none 0 0, .int .i64 0, .slice none 0 0, .slice none 0 0, .slice none 0 0, .slice none 0 0, .slice none 0 0], .bool false]) (by simp [results, Tryz.results14, go_sem, at_cell HE.out.1]) rfl ?_
    exact ⟨none, 0, none, 0, none, 0, none, 0, none, 0, none, 0, rfl, HF.out.1, (fun g h => by rcases h with h | h <;> cases h), HF.out.2⟩
end Go.Proofs.YtjhfeegilhmgkaaGreatDoor

namespace Go.Proofs.YtjhfeegilhmgkaaGreatDoor
open Go.ChangeShapes Go.WideShapes Go.ChangeAt Go.RowKit Go.Deep Go.Joins

set_option linter.unusedVariables false

set_option maxRecDepth 100000

set_option maxHeartbeats 1600000 in
theorem eqEntry_same (sq cl tg k : Int) (nm ot : ByteArray) (at_ va ep : Int) (w : World) :
    Calls Tryz.prog 98 #[.agg #[.int .i64 sq, .int .i64 cl, .int .i64 tg, .int .i64 k, .string nm, .string ot, .int .i64 at_, .int .i64 va, .int .i64 ep], .agg #[.int .i64 sq, .int .i64 cl, .int .i64 tg, .int .i64 k, .string nm, .string ot, .int .i64 at_, .int .i64 va, .int .i64 ep]] w fun e w' => e = .returned (.bool true) ∧ Below w.heap.size w w' := by
  obtain ⟨W0, hW0, k0, k1, d0, z0⟩ := box2 w #[.int .i64 sq, .int .i64 cl, .int .i64 tg, .int .i64 k, .string nm, .string ot, .int .i64 at_, .int .i64 va, .int .i64 ep] #[.int .i64 sq, .int .i64 cl, .int .i64 tg, .int .i64 k, .string nm, .string ot, .int .i64 at_, .int .i64 va, .int .i64 ep] 39 39
  have HW0 : Hid (W0 = _) := hW0
  have p0 := at_cell k0 0
  have q0 := at_cell k1 0
  have p1 := at_cell k0 1
  have q1 := at_cell k1 1
  have p2 := at_cell k0 2
  have q2 := at_cell k1 2
  have p3 := at_cell k0 3
  have q3 := at_cell k1 3
  have p4 := at_cell k0 4
  have q4 := at_cell k1 4
  have p5 := at_cell k0 5
  have q5 := at_cell k1 5
  have p6 := at_cell k0 6
  have q6 := at_cell k1 6
  have p7 := at_cell k0 7
  have q7 := at_cell k1 7
  have p8 := at_cell k0 8
  have q8 := at_cell k1 8
  clear hW0 k0 k1 z0
  go_enter Tryz.func98, Tryz.ntmps98
  go_wp2_with fail
  rw [← HW0.out]
  clear HW0
  refine (eqOp_same k nm ot at_ va ep _).mono ?_
  rintro e w1 ⟨rfl, b1⟩
  replace d0 := bw_call d0 b1
  go_wp2_with fail
  go_ret
  exact ⟨rfl, d0⟩
end Go.Proofs.YtjhfeegilhmgkaaGreatDoor

namespace Go.Proofs.YtjhfeegilhmgkaaGreatDoor
open Go.RowKit

set_option linter.unusedVariables false

set_option maxRecDepth 100000

set_option maxHeartbeats 3200000 in
theorem eqEntries_same (v v' : Value) (bs : List Ent) (w : World) (r : ReadsR 9 entC w.heap.size w v bs) (r' : ReadsR 9 entC w.heap.size w v' bs) :
    Calls Tryz.prog 39 #[v, v'] w fun e w' => e = .returned (.bool true) ∧ Below w.heap.size w w' := by
  obtain ⟨o1, cap1, rfl, m1, c1, -⟩ := r
  obtain ⟨o2, cap2, rfl, m2, c2, -⟩ := r'
  have C1 : Hid _ := nine_cells c1
  have C2 : Hid _ := nine_cells c2
  unfold maxLen at m1
  clear c1 c2 m2
  go_enter Tryz.func39, Tryz.ntmps39
  go_wp2
  go_loopw [5] (fun i wr => ∃ k : Nat, k ≤ bs.length ∧ i = .int .i64 k ∧ Below w.heap.size w wr) (fun i _ => bs.length - (intOf i).toNat)
  case atStart => exact ⟨0, Nat.zero_le _, rfl, Below.refl _ _⟩
  case round =>
    obtain ⟨k, hk, rfl, hb⟩ := hrel
    by_cases hlt : k < bs.length
    · obtain ⟨g1, of1, rfl, q1, a0, a1, a2, a3, a4, a5, a6, a7, a8⟩ := C1.out k hlt
      obtain ⟨g2, of2, rfl, q2, b0, b1, b2, b3, b4, b5, b6, b7, b8⟩ := C2.out k hlt
      generalize bs[k] = x at a0 a1 a2 a3 a4 a5 a6 a7 a8 b0 b1 b2 b3 b4 b5 b6 b7 b8
      obtain ⟨sq, cl, tg, ⟨k1, nm, ot, at_, va, ep⟩⟩ := x
      simp only at a0 a1 a2 a3 a4 a5 a6 a7 a8 b0 b1 b2 b3 b4 b5 b6 b7 b8
      have hne := BelowOf.any wr
      have l1 : g1 < wr.heap.size := Nat.lt_of_lt_of_le q1 hb.size
      have l2 : g2 < wr.heap.size := Nat.lt_of_lt_of_le q2 hb.size
      have HEQ : ∀ q : BelowOf wr, Calls Tryz.prog 98 #[.agg #[.int .i64 sq, .int .i64 cl, .int .i64 tg, .int .i64 k1, .string nm, .string ot, .int .i64 at_, .int .i64 va, .int .i64 ep], .agg #[.int .i64 sq, .int .i64 cl, .int .i64 tg, .int .i64 k1, .string nm, .string ot, .int .i64 at_, .int .i64 va, .int .i64 ep]] q.w' fun e w' => e = .returned (.bool true) ∧ Below q.w'.heap.size q.w' w' := fun q => eqEntry_same sq cl tg k1 nm ot at_ va ep q.w'
      have d0 := BelowOf.cell ((hb.cell (p := ⟨g1, of1 + k * 9, none⟩) q1).trans a0) l1
      have f0 := BelowOf.cell ((hb.cell (p := ⟨g2, of2 + k * 9, none⟩) q2).trans b0) l2
      have d1 := BelowOf.cell ((hb.cell (p := ⟨g1, of1 + k * 9 + 1, none⟩) q1).trans a1) l1
      have f1 := BelowOf.cell ((hb.cell (p := ⟨g2, of2 + k * 9 + 1, none⟩) q2).trans b1) l2
      have d2 := BelowOf.cell ((hb.cell (p := ⟨g1, of1 + k * 9 + 2, none⟩) q1).trans a2) l1
      have f2 := BelowOf.cell ((hb.cell (p := ⟨g2, of2 + k * 9 + 2, none⟩) q2).trans b2) l2
      have d3 := BelowOf.cell ((hb.cell (p := ⟨g1, of1 + k * 9 + 3, none⟩) q1).trans a3) l1
      have f3 := BelowOf.cell ((hb.cell (p := ⟨g2, of2 + k * 9 + 3, none⟩) q2).trans b3) l2
      have d4 := BelowOf.cell ((hb.cell (p := ⟨g1, of1 + k * 9 + 4, none⟩) q1).trans a4) l1
      have f4 := BelowOf.cell ((hb.cell (p := ⟨g2, of2 + k * 9 + 4, none⟩) q2).trans b4) l2
      have d5 := BelowOf.cell ((hb.cell (p := ⟨g1, of1 + k * 9 + 5, none⟩) q1).trans a5) l1
      have f5 := BelowOf.cell ((hb.cell (p := ⟨g2, of2 + k * 9 + 5, none⟩) q2).trans b5) l2
      have d6 := BelowOf.cell ((hb.cell (p := ⟨g1, of1 + k * 9 + 6, none⟩) q1).trans a6) l1
      have f6 := BelowOf.cell ((hb.cell (p := ⟨g2, of2 + k * 9 + 6, none⟩) q2).trans b6) l2
      have d7 := BelowOf.cell ((hb.cell (p := ⟨g1, of1 + k * 9 + 7, none⟩) q1).trans a7) l1
      have f7 := BelowOf.cell ((hb.cell (p := ⟨g2, of2 + k * 9 + 7, none⟩) q2).trans b7) l2
      have d8 := BelowOf.cell ((hb.cell (p := ⟨g1, of1 + k * 9 + 8, none⟩) q1).trans a8) l1
      have f8 := BelowOf.cell ((hb.cell (p := ⟨g2, of2 + k * 9 + 8, none⟩) q2).trans b8) l2
      have g1' : (0 : Int) ≤ (k : Int) := by omega
      have g2' : (k : Int) < (bs.length : Int) := by omega
      clear a0 a1 a2 a3 a4 a5 a6 a7 a8 b0 b1 b2 b3 b4 b5 b6 b7 b8 C1 C2
      go_wp2_with fail
      refine wp_region_of (by kernel_rfl) (by kernel_rfl) ?_
      repeat (go_big_quiet_step ((first | (go_at_call 98; exact calls_of (HEQ _)) | rfl)))
      refine wpQuiet_nil ?_
      intro w5 hw5
      obtain ⟨⟨wx, cx⟩, hwx⟩ := hw5
      have b5 : Below wr.heap.size wr w5 := by rw [hwx]; exact cx
      have hb5 := hb.trans (b5.mono hb.size)
      clear hwx cx wx hne d0 d1 d2 d3 d4 d5 d6 d7 d8 f0 f1 f2 f3 f4 f5 f6 f7 f8 HEQ
      go_wp2_with fail
      go_roundw
      case rel => exact ⟨k + 1, by omega, by go_num, hb5⟩
      case measure => simp [intOf]; omega
    · go_wp2
      go_ret
      exact ⟨rfl, hb⟩
end Go.Proofs.YtjhfeegilhmgkaaGreatDoor

