/-
  Contracts and plain laws, one chapter behind the other.
-/
import Derived.Deep.Cut
import Derived.Test.YtibhepekmihagaaGreatDoorM16
import Derived.Test.YtibhepekmihagaaGreatDoorM36
import Derived.Test.YtibhepekmihagaaGreatDoorM37
namespace Go.Proofs.YtibhepekmihagaaGreatDoor
open Go.RowKit

set_option linter.unusedVariables false

set_option linter.unusedSimpArgs false


theorem Tryz.infoHouse9n : (Tryz.prog.info? 33).map (·.size) = some 9 := by kernel_rfl

set_option maxRecDepth 100000 in
set_option maxHeartbeats 3200000 in
theorem fromLog_nil (n : Int) (v : Value) (l : List Ent) (hl0 : l = []) (w : World) (ad : Nat → Addr) (hv : VarsS w ad) (hf : FitLog l) (hok : rpOk n l = true) (r : ReadsR 9 entC w.heap.size w v l) :
    Calls Tryz.prog 35 #[.int .i64 n, v] w fun e w' => ∃ (vl u1 u2 ub m1 m2 : Value) (ms : List Bk), e = .returned (.agg #[.bool true, .int .i64 n, vl, .int .i64 0, u1, u2, ub, m1, m2]) ∧ w'.ownsRow w.heap.size 91 9 vl l.length (l.flatMap entC) ∧ OwnS w.heap.size w' u1 u2 ub (rpFrom (rpNew n) l).s.cs (rpFrom (rpNew n) l).s.ps ms ∧ ms.map Bk.pb = (rpFrom (rpNew n) l).s.bs ∧ OwnM w.heap.size w' m1 m2 (rpFrom (rpNew n) l).ts (rpFrom (rpNew n) l).rs ∧ (∀ g, (u1.ownBlock = some g ∨ u2.ownBlock = some g) → m1.ownBlock ≠ some g) ∧ Below w.heap.size w w' := by
  obtain ⟨o, cap, rfl⟩ := r.form
  have HOK : Hid (rpOk n l = true) := hok
  have HFL : Hid (FitLog l) := hf
  have HL0 : Hid (l = []) := hl0
  clear hl0
  obtain ⟨hn, hl, ho⟩ := rpOk_parts hok
  have hp : (newPool n).2 = true := by rw [newPool_ok, (inB_iff _ _ _).2 hn]
  have hlo : logOk l = true := by simp [logOk, hl, ho]
  obtain ⟨M, hmk, hown⟩ := made_log l.length (by omega)
  have HMK : Hid _ := hmk
  have HOWN : Hid _ := hown
  obtain ⟨W0, hW0, kR, d0, z0⟩ := box1 w #[.bool false, .int .i64 0, .slice none 0 0, .int .i64 0, .slice none 0 0, .slice none 0 0, .slice none 0 0, .slice none 0 0, .slice none 0 0] 33
  have HW0 : Hid (W0 = _) := hW0
  have HRD : Hid _ := r
  have r0 := (r.below d0).mono d0.size
  have hns := implNewShelf_any n W0
  rw [hp] at hns
  have hv0 := hv.below d0
  clear hmk hown hW0 hok hp ho hn r
  go_enter Tryz.func35, Tryz.ntmps35
  go_upto_region 1 with fail
  rw [← HW0.out]
  clear HW0
  go_upto_region 2 with (go_at_call 85; refine hns.mono ?_; rintro e w1 ⟨u1, u2, ub, rfl, op, ob, b1⟩; obtain ⟨x1, j1, rfl⟩ := own_slice op.c; obtain ⟨x2, j2, rfl⟩ := own_slice op.p; have ob0 : w1.ownsRow W0.heap.size 133 5 ub 0 [] := ob.row; obtain ⟨x3, j3, rfl⟩ := own_slice ob0)
  obtain ⟨W2, hW2, kS, d2, z2⟩ := box1 w1 #[.slice x1 (newPool n).1.1.length j1, .slice x2 (newPool n).1.2.length j2, .slice x3 0 j3] 28
  have HW2 : Hid (W2 = _) := hW2
  have B02 := bw_call b1 d2
  have r2 := (r0.below B02).mono B02.size
  have kR2 := (B02.block _ (heap_lt kR)).trans kR
  have op2 := op.below d2
  have ob2 := ob.below d2
  have hv2 := hv0.below B02
  have hlg := implLogOk_any _ l W2 hf r2
  rw [hlo] at hlg
  rw [← HW2.out]
  clear HW2 hW2 hns ob0 op ob
  go_upto_region 3 with (go_at_call 86; refine (must_yes _).mono ?_; rintro e X3 ⟨rfl, rfl⟩)
  go_upto_region 4 with (first | (go_at_call 87; refine hlg.mono ?_; rintro e w4 ⟨rfl, b5⟩) | (go_at_call 86; refine (must_yes _).mono ?_; rintro e X5 ⟨rfl, rfl⟩))
  have B05 := bw_call (bw_call d0 B02) b5
  have kS5 := (b5.block _ (heap_lt kS)).trans kS
  have kR5 := (b5.block _ (heap_lt kR2)).trans kR2
  have op5 := op2.below b5
  have ob5 := ob2.below b5
  clear hlg kS kR2 op2 ob2 kR r0 r2 hv0 hv2 hlo hf
  obtain ⟨R, hR0⟩ : ∃ R : Nat → Value → World → Prop, R = fun j v X => match j with
    | 0 => v = .int .i64 n
    | 1 => v = .slice o l.length cap
    | 2 => v = .int .i64 (l.length : Int)
    | 3 => ∃ g : Nat, v = .slice (some ⟨g, 0, none⟩) 0 l.length ∧ X.ownsRow w.heap.size 91 9 (.slice (some ⟨g, 0, none⟩) 0 l.length) 0 []
    | 4 => v = .agg #[.slice x1 (newPool n).1.1.length j1, .slice x2 (newPool n).1.2.length j2, .slice x3 0 j3]
    | 5 => ∃ (a1 : Option Addr) (c1 : Nat) (a2 : Option Addr) (c2 : Nat), v = .agg #[.slice a1 4 c1, .slice a2 4 c2] ∧ OwnM X5.heap.size X (.slice a1 4 c1) (.slice a2 4 c2) [0, 0, 0, 0] [(0, 0), (0, 0), (0, 0), (0, 0)]
    | 6 => ∃ (g : Nat) (a1 : Option Addr) (c1 : Nat) (a2 : Option Addr) (c2 : Nat), v = .agg #[.bool true, .int .i64 n, .slice (some ⟨g, 0, none⟩) 0 l.length, .int .i64 0, .slice x1 (newPool n).1.1.length j1, .slice x2 (newPool n).1.2.length j2, .slice x3 0 j3, .slice a1 4 c1, .slice a2 4 c2] ∧ X.ownsRow w.heap.size 91 9 (.slice (some ⟨g, 0, none⟩) 0 l.length) 0 [] ∧ OwnM X5.heap.size X (.slice a1 4 c1) (.slice a2 4 c2) [0, 0, 0, 0] [(0, 0), (0, 0), (0, 0), (0, 0)]
    | 7 => ∃ g : Nat, v = .pointer (some ⟨g, 0, none⟩) ∧ X5.heap.size ≤ g ∧ X.heap[g]? = some (.cells #[.bool false, .int .i64 0, .slice none 0 0, .int .i64 0, .slice none 0 0, .slice none 0 0, .slice none 0 0, .slice none 0 0, .slice none 0 0] 33 (0, 0))
    | _ => True := ⟨_, rfl⟩
  have hR : Hid _ := hR0
  clear hR0
  have RMO : ∀ X X', Below X.heap.size X X' → ∀ j v, R j v X → R j v X' := fun X X' hb j v => by
    rw [hR.out]
    match j with
    | 0 => exact id
    | 1 => exact id
    | 2 => exact id
    | 3 => exact fun ⟨g, e, ow⟩ => ⟨g, e, owns_below ow hb⟩
    | 4 => exact id
    | 5 => exact fun ⟨a1, c1, a2, c2, e, om⟩ => ⟨a1, c1, a2, c2, e, om.below hb⟩
    | 6 => exact fun ⟨g, a1, c1, a2, c2, e, ow, om⟩ => ⟨g, a1, c1, a2, c2, e, owns_below ow hb, om.below hb⟩
    | 7 => exact fun ⟨g, e, hg, k⟩ => ⟨g, e, hg, (hb.block _ (heap_lt k)).trans k⟩
    | _ + 8 => exact id
  refine wp_region_inv (I := RXs _ 8 7 26 R _ X5) (by kernel_rfl) (RXs.start _ 8 7 26 _ _ X5) ?_ ?_
  · intro L a y i hL hD hi h
    obtain ⟨X, h⟩ := h
    have hin : i < 9 := (ready_mem hi).1
    have hnot := (ready_mem hi).2.1
    have hc : i = 0 ∨ i = 1 ∨ i = 2 ∨ i = 3 ∨ i = 4 ∨ i = 5 ∨ i = 6 ∨ i = 7 ∨ i = 8 := by omega
    have t0 : a.tmps.getD 0 undef = .int .i64 n := h.old 0 (by kernel_rfl)
    have t1 : a.tmps.getD 1 undef = .slice o l.length cap := h.old 1 (by kernel_rfl)
    have t5 : a.tmps.getD 5 undef = .pointer (some ⟨w1.heap.size, 0, none⟩) := h.old 5 (by kernel_rfl)
    rcases hc with rfl | rfl | rfl | rfl | rfl | rfl | rfl | rfl | rfl
    · refine wpOp_of rfl rfl ?_
      unfold Oper.wp
      go_simp
      exact h.put 0 20 _ (by decide) (by kernel_rfl) (of_decide_eq_true (by kernel_rfl)) (by kernel_rfl) (by kernel_rfl) (by decide) (by decide) (by rw [hR.out]; exact rfl)
    · refine wpOp_of rfl rfl ?_
      unfold Oper.wp
      go_simp
      exact h.put 1 21 _ (by decide) (by kernel_rfl) (of_decide_eq_true (by kernel_rfl)) (by kernel_rfl) (by kernel_rfl) (by decide) (by decide) (by rw [hR.out]; exact rfl)
    · have hn' : L.getD 8 false = false := hD.no 8 [6, 3, 2] hnot (by kernel_rfl) rfl
      obtain rfl := h.pre hn'
      have q1 := h.rel 1 21 (ready_dep hi (by kernel_rfl)) (by kernel_rfl)
      rw [hR.out] at q1
      have q1' : a.tmps.getD 21 undef = .slice o l.length cap := q1
      have s21 : a.tmps[21]?.getD undef = .slice o l.length cap := (Array.getD_eq_getD_getElem? ..).symm.trans q1'
      clear q1
      refine wpOp_of rfl rfl ?_
      unfold Oper.wp
      go_simp
      exact h.put 2 22 _ (by decide) (by kernel_rfl) (of_decide_eq_true (by kernel_rfl)) (by kernel_rfl) (by kernel_rfl) (by decide) (by decide) (by rw [hR.out]; exact rfl)
    · have hn' : L.getD 8 false = false := hD.no 8 [6, 3] hnot (by kernel_rfl) rfl
      obtain rfl := h.pre hn'
      have q2 := h.rel 2 22 (ready_dep hi (by kernel_rfl)) (by kernel_rfl)
      rw [hR.out] at q2
      have q2' : a.tmps.getD 22 undef = .int .i64 (l.length : Int) := q2
      have s22 : a.tmps[22]?.getD undef = .int .i64 (l.length : Int) := (Array.getD_eq_getD_getElem? ..).symm.trans q2'
      clear q2
      have hmy := HMK.out y
      have hb : Below y.heap.size y (y.alloc (.cells M 91)) := bw_alloc (Below.refl _ _)
      have hoy := HOWN.out y w.heap.size (by have := h.bel.size; have := B05.size; omega)
      refine wpOp_of rfl rfl ?_
      unfold Oper.wp
      go_simp
      exact h.val 3 23 _ _ (by decide) (by kernel_rfl) (of_decide_eq_true (by kernel_rfl)) (by kernel_rfl) (by kernel_rfl) hn' hb (by rw [hR.out]; exact ⟨_, rfl, hoy⟩) (RMO _ _ hb)
    · have hn' : L.getD 8 false = false := hD.no 8 [6, 4] hnot (by kernel_rfl) rfl
      obtain rfl := h.pre hn'
      have kSy := (h.bel.block _ (heap_lt kS5)).trans kS5
      have c0 := at_cell kSy 0
      have c1 := at_cell kSy 1
      have c2 := at_cell kSy 2
      refine wpOp_of rfl rfl ?_
      unfold Oper.wp
      go_simp
      exact h.put 4 24 _ (by decide) (by kernel_rfl) (of_decide_eq_true (by kernel_rfl)) (by kernel_rfl) (by kernel_rfl) (by decide) (by decide) (by rw [hR.out]; exact rfl)
    · have hn' : L.getD 8 false = false := hD.no 8 [6, 5] hnot (by kernel_rfl) rfl
      obtain rfl := h.pre hn'
      refine wpOp_of rfl rfl ?_
      unfold Oper.wp
      go_simp
      go_at_call 88
      refine (implNewMemo_any _).mono ?_
      rintro e y1 ⟨m1, m2, rfl, om, hb⟩
      obtain ⟨a1, c1, a2, c2, e1, e2⟩ := om.forms
      have e1' : m1 = .slice a1 4 c1 := e1
      have e2' : m2 = .slice a2 4 c2 := e2
      subst e1' e2'
      exact h.val 5 25 _ y1 (by decide) (by kernel_rfl) (of_decide_eq_true (by kernel_rfl)) (by kernel_rfl) (by kernel_rfl) hn' hb (by rw [hR.out]; exact ⟨a1, c1, a2, c2, rfl, om.mono h.bel.size⟩) (RMO _ _ hb)
    · have hn' : L.getD 8 false = false := hD.no 8 [6] hnot (by kernel_rfl) rfl
      obtain rfl := h.pre hn'
      have q0 := h.rel 0 20 (ready_dep hi (by kernel_rfl)) (by kernel_rfl)
      rw [hR.out] at q0
      have q0' : a.tmps.getD 20 undef = .int .i64 n := q0
      have s20 : a.tmps[20]?.getD undef = .int .i64 n := (Array.getD_eq_getD_getElem? ..).symm.trans q0'
      clear q0
      have q3 := h.rel 3 23 (ready_dep hi (by kernel_rfl)) (by kernel_rfl)
      rw [hR.out] at q3
      have q4 := h.rel 4 24 (ready_dep hi (by kernel_rfl)) (by kernel_rfl)
      rw [hR.out] at q4
      have q4' : a.tmps.getD 24 undef = .agg #[.slice x1 (newPool n).1.1.length j1, .slice x2 (newPool n).1.2.length j2, .slice x3 0 j3] := q4
      have s24 : a.tmps[24]?.getD undef = .agg #[.slice x1 (newPool n).1.1.length j1, .slice x2 (newPool n).1.2.length j2, .slice x3 0 j3] := (Array.getD_eq_getD_getElem? ..).symm.trans q4'
      clear q4
      have q5 := h.rel 5 25 (ready_dep hi (by kernel_rfl)) (by kernel_rfl)
      rw [hR.out] at q5
      obtain ⟨g, e23, ow⟩ := q3
      obtain ⟨a1, c1, a2, c2, e25, om⟩ := q5
      have s23 : a.tmps[23]?.getD undef = .slice (some ⟨g, 0, none⟩) 0 l.length := (Array.getD_eq_getD_getElem? ..).symm.trans e23
      have s25 : a.tmps[25]?.getD undef = .agg #[.slice a1 4 c1, .slice a2 4 c2] := (Array.getD_eq_getD_getElem? ..).symm.trans e25
      refine wpOp_of rfl rfl ?_
      unfold Oper.wp
      go_simp
      exact h.val 6 26 _ y (by decide) (by kernel_rfl) (of_decide_eq_true (by kernel_rfl)) (by kernel_rfl) (by kernel_rfl) hn' (Below.refl _ _) (by rw [hR.out]; exact ⟨g, a1, c1, a2, c2, rfl, ow, om⟩) (fun _ _ q => q)
    · have hn' : L.getD 8 false = false := hD.no 8 [7] hnot (by kernel_rfl) rfl
      obtain rfl := h.pre hn'
      have hb : Below y.heap.size y (y.alloc (.cells #[.bool false, .int .i64 0, .slice none 0 0, .int .i64 0, .slice none 0 0, .slice none 0 0, .slice none 0 0, .slice none 0 0, .slice none 0 0] 33)) := bw_alloc (Below.refl _ _)
      refine wpOp_of rfl rfl ?_
      unfold Oper.wp
      go_simp
      exact h.val 7 7 _ _ (by decide) (by kernel_rfl) (of_decide_eq_true (by kernel_rfl)) (by kernel_rfl) (by kernel_rfl) hn' hb (by rw [hR.out]; exact ⟨_, rfl, h.bel.size, heap_alloc_new y _⟩) (RMO _ _ hb)
    · have hn' := not_done hnot
      obtain rfl := h.pre hn'
      have q6 := h.rel 6 26 (ready_dep hi (by kernel_rfl)) (by kernel_rfl)
      rw [hR.out] at q6
      have q7 := h.rel 7 7 (ready_dep hi (by kernel_rfl)) (by kernel_rfl)
      rw [hR.out] at q7
      obtain ⟨g, a1, c1, a2, c2, eV, ow, om⟩ := q6
      obtain ⟨g7, eB, hg7, k7⟩ := q7
      refine wpOp_of rfl rfl (op_store 33 7 26 rfl rfl g7 eB _ eV #[.bool false, .int .i64 0, .slice none 0 0, .int .i64 0, .slice none 0 0, .slice none 0 0, .slice none 0 0, .slice none 0 0, .slice none 0 0] 33 k7 Tryz.infoHouse9n rfl (by simp [Value.oneCell']) ?_)
      exact h.store (by rw [hL]; exact of_decide_eq_true (by kernel_rfl)) hn' (by kernel_rfl) eB eV
  · intro L a y hL hD hr h
    obtain ⟨X, h⟩ := h
    have hall := all_done hL hr (by kernel_rfl)
    obtain ⟨g0, zs, eB, eV, rfl⟩ := h.fin (hall 8 (of_decide_eq_true (by kernel_rfl)))
    have qV := h.rel 6 26 (hall 6 (of_decide_eq_true (by kernel_rfl))) (by kernel_rfl)
    have qB := h.rel 7 7 (hall 7 (of_decide_eq_true (by kernel_rfl))) (by kernel_rfl)
    rw [hR.out] at qV qB
    obtain ⟨g, a1, c1, a2, c2, eV', ow, om0⟩ := qV
    have om := om0.mono B05.size
    have hap0 : (∀ g, ((Value.slice x1 (newPool n).1.1.length j1).ownBlock = some g ∨ (Value.slice x2 (newPool n).1.2.length j2).ownBlock = some g) → (Value.slice a1 4 c1).ownBlock ≠ some g) := fun g h1 h2 => by
      have a := (op5.span g h1).2
      have b := (om0.span g (.inl h2)).1
      omega
    obtain ⟨g7, eB', hg7, k7⟩ := qB
    have en : (Value.pointer (some ⟨g0, 0, none⟩)) = .pointer (some ⟨g7, 0, none⟩) := eB.symm.trans eB'
    have ez : Value.agg zs = .agg #[.bool true, .int .i64 n, .slice (some ⟨g, 0, none⟩) 0 l.length, .int .i64 0, .slice x1 (newPool n).1.1.length j1, .slice x2 (newPool n).1.2.length j2, .slice x3 0 j3, .slice a1 4 c1, .slice a2 4 c2] := eV.symm.trans eV'
    simp only [Value.pointer.injEq, Option.some.injEq, Addr.mk.injEq, and_true] at en
    simp only [Value.agg.injEq] at ez
    subst en ez
    obtain ⟨Y, hY⟩ : ∃ Y, Y = X.setRow g0 #[.bool true, .int .i64 n, .slice (some ⟨g, 0, none⟩) 0 l.length, .int .i64 0, .slice x1 (newPool n).1.1.length j1, .slice x2 (newPool n).1.2.length j2, .slice x3 0 j3, .slice a1 4 c1, .slice a2 4 c2] := ⟨_, rfl⟩
    have uY : Upto g0 X Y := by rw [hY]; exact row_upto
    have dY : Below X5.heap.size X5 Y := h.bel.trans (uY.toBelow h.bel.size hg7)
    have k7Y : Y.heap[g0]? = some (.cells #[.bool true, .int .i64 n, .slice (some ⟨g, 0, none⟩) 0 l.length, .int .i64 0, .slice x1 (newPool n).1.1.length j1, .slice x2 (newPool n).1.2.length j2, .slice x3 0 j3, .slice a1 4 c1, .slice a2 4 c2] 33 (0, 0)) := by rw [hY]; exact setRow_row k7
    have kRY := (dY.block _ (heap_lt kR5)).trans kR5
    have dwY : Below w.heap.size w Y := bw_call B05 dY
    have hneR : w.heap.size ≠ g0 := by have := heap_lt kR5; omega
    have HST : Hid (HsAt n l 0 w.heap.size g0 Y (.slice (some ⟨g, 0, none⟩) 0 l.length) (.slice x1 (newPool n).1.1.length j1) (.slice x2 (newPool n).1.2.length j2) (.slice x3 0 j3) (.slice a1 4 c1) (.slice a2 4 c2) []) :=
      ⟨k7Y, own_only (S := fun j => j = g0) ow (onlyU uY) (fun q hq e => own_not_box ow k7 (by decide) (by rw [hq, e])), ⟨(op5.below dY).mono d0.size, (ob5.below dY).mono d0.size, List.Pairwise.nil⟩, rfl,
        ⟨own_only (S := fun j => j = g0) om.t (onlyU uY) (fun q hq e => own_not_box om.t k7 (by decide) (by rw [hq, e])), own_only (S := fun j => j = g0) om.r (onlyU uY) (fun q hq e => own_not_box om.r k7 (by decide) (by rw [hq, e]))⟩, hap0⟩
    have hfr := h.frame [20, 21, 22, 23, 24, 25, 26, 7] (by kernel_rfl)
    obtain ⟨f, hf⟩ : ∃ f : Nat → Value, (fun s => a.tmps.getD s undef) = f := ⟨_, rfl⟩
    have hB7 : f 7 = .pointer (some ⟨g0, 0, none⟩) := by rw [← hf]; exact eB
    rw [hf] at hfr
    rw [← hY]
    clear hf h hall hr hD hL eB eV eB' eV' ow om om0 hap0 k7 RMO hR R HMK HOWN hY op5 ob5 kR5 kS5
    subst hfr
    simp only [Act.puts, Act.put, List.setIfInBounds_toArray, List.set_cons_succ, List.set_cons_zero]
    rw [hB7]
    generalize f 20 = u20
    generalize f 21 = u21
    generalize f 22 = u22
    generalize f 23 = u23
    generalize f 24 = u24
    generalize f 25 = u25
    generalize f 26 = u26
    clear hB7 f
    show Exit.then _ _ _ _ _
    have HRC : Hid _ := HRD.out
    have hgb : w.heap.size ≤ g0 := by have := heap_lt kRY; have := B05.size; omega
    go_wp2_with fail
    go_loopw [29] (fun i wr => ∃ (k : Nat) (vl v1 v2 vb m1 m2 : Value) (ms : List Bk), k ≤ l.length ∧ i = .int .i64 k ∧ HsAt n l k w.heap.size g0 wr vl v1 v2 vb m1 m2 ms ∧ wr.heap[w.heap.size]? = some (.cells #[.bool false, .int .i64 0, .slice none 0 0, .int .i64 0, .slice none 0 0, .slice none 0 0, .slice none 0 0, .slice none 0 0, .slice none 0 0] 33 (0, 0)) ∧ Below w.heap.size w wr) (fun i _ => l.length - (intOf i).toNat)
    case atStart => exact ⟨0, _, _, _, _, _, _, _, Nat.zero_le _, rfl, HST.out, kRY, dwY⟩
    case round =>
      obtain ⟨k, vl, v1, v2, vb, m1, m2, ms, hk, rfl, hs, kRw, hb⟩ := hrel
      obtain ⟨b1', f1', b2', f2', b3', f3', rfl, rfl, rfl⟩ := hs.sh.forms
      obtain ⟨b4', f4', b5', f5', rfl, rfl⟩ := hs.mm.forms
      obtain ⟨b0', f0', rfl⟩ := own_slice hs.log
      by_cases hlt : k < l.length
      · exact absurd hlt (by rw [HL0.out]; exact Nat.not_lt_zero _)
      · obtain rfl : k = l.length := by omega
        have et : l.take l.length = l := List.take_length
        have hlog := hs.log
        have hsh := hs.sh
        have hbs := hs.bs
        have hmm := hs.mm
        have kbx := hs.box
        have kbn := hs.log_not kRw
        have hap1 := hs.ap
        clear hs
        rw [et] at hlog hsh hbs hmm kbx kbn hap1
        obtain ⟨st, hst⟩ : ∃ st, rpFrom (rpNew n) l = st := ⟨_, rfl⟩
        rw [hst] at hsh hbs hmm kbx hap1
        have HAPE : Hid _ := hap1
        clear hap1
        have HSQ : Hid (rpFrom (rpNew n) l = st) := hst
        clear hst
        obtain ⟨V, hV⟩ : ∃ V : World, V = (((((((((wr.setCell ⟨w.heap.size, 0, none⟩ (.bool true)).setCell ⟨w.heap.size, 1, none⟩ (.int .i64 n)).setCell ⟨w.heap.size, 2, none⟩ (.slice b0' l.length f0')).setCell ⟨w.heap.size, 3, none⟩ (.int .i64 0)).setCell ⟨w.heap.size, 4, none⟩ (.slice b1' st.s.cs.length f1')).setCell ⟨w.heap.size, 5, none⟩ (.slice b2' st.s.ps.length f2')).setCell ⟨w.heap.size, 6, none⟩ (.slice b3' ms.length f3')).setCell ⟨w.heap.size, 7, none⟩ (.slice b4' st.ts.length f4')).setCell ⟨w.heap.size, 8, none⟩ (.slice b5' st.rs.length f5')) := ⟨_, rfl⟩
        have HV : Hid (V = _) := hV
        have HE : Hid _ := grown_ans kRw (.bool true) (.int .i64 n) (.slice b0' l.length f0') (.int .i64 0) (.slice b1' st.s.cs.length f1') (.slice b2' st.s.ps.length f2') (.slice b3' ms.length f3') (.slice b4' st.ts.length f4') (.slice b5' st.rs.length f5') hV
        have uV := HE.out.2
        have HF : Hid _ := And.intro (own_only (S := fun j => j = w.heap.size) hlog (onlyU uV) (fun q hq e => own_not_box hlog kRw (by decide) (by rw [hq, e]))) (And.intro (hsh.box kRw uV (by decide) (by decide) (by decide)) (And.intro hbs (And.intro (And.intro (own_only (S := fun j => j = w.heap.size) hmm.t (onlyU uV) (fun q hq e => own_not_box hmm.t kRw (by decide) (by rw [hq, e]))) (own_only (S := fun j => j = w.heap.size) hmm.r (onlyU uV) (fun q hq e => own_not_box hmm.r kRw (by decide) (by rw [hq, e])))) (hb.trans (uV.toBelow hb.size (Nat.le_refl _))))))
        have c0 := at_cell kbx 0
        have c1 := at_cell kbx 1
        have c2 := at_cell kbx 2
        have c3 := at_cell kbx 3
        have c4 := at_cell kbx 4
        have c5 := at_cell kbx 5
        have c6 := at_cell kbx 6
        have c7 := at_cell kbx 7
        have c8 := at_cell kbx 8
        have p0 := at_cell kRw 0
        have p1 := at_cell kRw 1
        have p2 := at_cell kRw 2
        have p3 := at_cell kRw 3
        have p4 := at_cell kRw 4
        have p5 := at_cell kRw 5
        have p6 := at_cell kRw 6
        have p7 := at_cell kRw 7
        have p8 := at_cell kRw 8
        have f0 := at_open kRw 0
        have f1 := at_open kRw 1
        have f2 := at_open kRw 2
        have f3 := at_open kRw 3
        have f4 := at_open kRw 4
        have f5 := at_open kRw 5
        have f6 := at_open kRw 6
        have f7 := at_open kRw 7
        have f8 := at_open kRw 8
        clear hV uV hlog hsh hmm kbx kbn kRw HRC hbs hb
        go_wp2_with fail
        rw [← HV.out]
        refine bodyPost_ret (v := .agg #[.bool true, .int .i64 n, .slice b0' l.length f0', .int .i64 0, .slice b1' st.s.cs.length f1', .slice b2' st.s.ps.length f2', .slice b3' ms.length f3', .slice b4' st.ts.length f4', .slice b5' st.rs.length f5']) (by simp [results, Tryz.results35, go_sem, at_cell HE.out.1]) rfl ?_
        rw [HSQ.out]
        exact ⟨.slice b0' l.length f0', .slice b1' st.s.cs.length f1', .slice b2' st.s.ps.length f2', .slice b3' ms.length f3', .slice b4' st.ts.length f4', .slice b5' st.rs.length f5', ms, rfl, HF.out.1, HF.out.2.1, HF.out.2.2.1, ⟨HF.out.2.2.2.1.1, HF.out.2.2.2.1.2⟩, HAPE.out, HF.out.2.2.2.2⟩
end Go.Proofs.YtibhepekmihagaaGreatDoor

