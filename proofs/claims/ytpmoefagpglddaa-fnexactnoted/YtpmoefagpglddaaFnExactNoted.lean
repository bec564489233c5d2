/-
  The law FnExactNoted answers true at every input that the row speaks of, and its arguments read afterwards as before; the walk goes over the callees' contracts.
-/
import Derived.Test.YtpmoefagpglddaaRows
import Derived.WalkKit
import Derived.ProofKit
import Derived.OpenShut
import Derived.ChangeOld
import Derived.Below
import Derived.Carry
import Derived.Deep.DeepCutAuto
import Derived.Test.YtpmoefagpglddaaM01
import Derived.Test.YtpmoefagpglddaaM03
import Derived.Test.YtpmoefagpglddaaM04
import Derived.Test.YtpmoefagpglddaaM07
namespace Go.Proofs.Ytpmoefagpglddaa.fnExactNoted
open Go.ChangeShapes Go.WideShapes Go.ChangeAt Go.RowKit
set_option linter.unusedVariables false

theorem own : ownKnob Try.prog.godebug = none := by kernel_rfl
theorem laidOut : laidOutB Try.prog = true := by kernel_rfl

set_option maxRecDepth 100000 in
set_option maxHeartbeats 8000000 in
theorem walk (v0a v0b : Value) (ts0 : List Int) (rs0 : List (Int × Int)) (a1 : Int) (a2 : Int) (rc3 rv3 : Int) (w : World) (w0 : RM w.heap.size w v0a v0b ts0 rs0) (w1 : (Lit.int .i64 a1).wf = true) (w2 : (Lit.int .i64 a2).wf = true) (fc3 : I64 rc3) (fv3 : I64 rv3) :
    Calls Try.prog 7 #[.agg #[v0a, v0b], .int .i64 a1, .int .i64 a2, .agg #[.int .i64 rc3, .int .i64 rv3]] w fun e w' => e = .returned (.bool true) ∧ Below w.heap.size w w' := by
  have r0 := w0
  obtain ⟨WA, hWA, kA, kR, d, zA⟩ := box2 w #[v0a, v0b] #[.int .i64 rc3, .int .i64 rv3] 42 49
  have sA : w.heap.size < WA.heap.size := by omega
  have sR : w.heap.size + 1 < WA.heap.size := by omega
  have y0 := d.size
  replace r0 := r0.below d
  have HWA : Hid (WA = _) := hWA
  clear hWA zA w0 w1 w2 fc3 fv3
  go_enter Try.func7, Try.ntmps7
  go_upto_region 1 with fail
  rw [← HWA.out]
  clear HWA
  have pA0 := at_cell kA 0
  have pA1 := at_cell kA 1
  go_wp2_with fail
  clear pA0 pA1
  refine (szMemo_any v0a v0b ts0 rs0 _ _ (by omega) (by omega) (r0.mono y0)).mono ?_
  rintro e wb ⟨q, rfl, hq, b⟩
  replace d := bw_call d b
  replace kA := (b.block _ sA).trans kA
  replace sA := Nat.lt_of_lt_of_le sA b.size
  replace kR := (b.block _ sR).trans kR
  replace sR := Nat.lt_of_lt_of_le sR b.size
  replace r0 := r0.below (b.mono y0)
  replace y0 := Nat.le_trans y0 b.size
  clear b
  rcases hq with rfl | ⟨hq0, hq1, hbts0, hbrs0⟩
  · go_wp2_with fail
    go_ret
    exact ⟨rfl, d⟩
  have cR0 : w.heap.size + 1 < wb.heap.size := sR
  have hlen := noted_len ts0 rs0 a1 a2 (rc3, rv3)
  obtain ⟨⟨⟨nts, nrs⟩, nv⟩, hfd⟩ : ∃ fd, notedM ts0 rs0 a1 a2 (rc3, rv3) = fd := ⟨_, rfl⟩
  have HFD : Hid (notedM ts0 rs0 a1 a2 (rc3, rv3) = ((nts, nrs), nv)) := hfd
  rw [hfd] at hlen
  simp only at hlen
  have hlnts : nts.length ≤ 1048576 := by omega
  have hlnrs : nrs.length ≤ 1048576 := by omega
  have hnv : (nv != nv) = false := by cases nv <;> rfl
  clear hlen hfd
  go_upto_region 5 with fail
  obtain ⟨R, hR0⟩ : ∃ R : Nat → Value → World → Prop, R = fun j v X => match j with
    | 0 => v = .agg #[v0a, v0b]
    | 1 => ∃ t1 t2, v = .agg #[t1, t2] ∧ RM X.heap.size X t1 t2 ts0 rs0
    | 2 => v = .int .i64 a1
    | 3 => v = .int .i64 a2
    | 4 => v = .agg #[.int .i64 rc3, .int .i64 rv3]
    | 5 => v = .agg #[.int .i64 rc3, .int .i64 rv3]
    | 6 => ∃ o1 c1 o2 c2, v = .tuple #[.agg #[.slice o1 nts.length c1, .slice o2 nrs.length c2], .bool nv] ∧ OwnM wb.heap.size X (.slice o1 nts.length c1) (.slice o2 nrs.length c2) nts nrs
    | 7 => ∃ o1 c1 o2 c2, v = .tuple #[.agg #[.slice o1 nts.length c1, .slice o2 nrs.length c2], .bool nv] ∧ OwnM wb.heap.size X (.slice o1 nts.length c1) (.slice o2 nrs.length c2) nts nrs
    | 8 => ∃ o1 c1 o2 c2, v = .agg #[.slice o1 nts.length c1, .slice o2 nrs.length c2] ∧ OwnM wb.heap.size X (.slice o1 nts.length c1) (.slice o2 nrs.length c2) nts nrs
    | 9 => v = .bool nv
    | 10 => ∃ n, v = .pointer (some ⟨n, 0, none⟩) ∧ wb.heap.size ≤ n ∧ X.heap[n]? = some (.cells #[.slice none 0 0, .slice none 0 0] 27 (0, 0))
    | 12 => v = .bool nv
    | _ => True := ⟨_, rfl⟩
  have hR : Hid _ := hR0
  clear hR0
  have RMO : ∀ x x', Below x.heap.size x x' → ∀ j v, R j v x → R j v x' := fun x x' hb j v => by
    rw [hR.out]
    match j with
    | 0 => exact id
    | 1 => exact fun ⟨t1, t2, e, r⟩ => ⟨t1, t2, e, (r.below hb).mono hb.size⟩
    | 2 => exact id
    | 3 => exact id
    | 4 => exact id
    | 5 => exact id
    | 6 => exact fun ⟨o1, c1, o2, c2, e, ow⟩ => ⟨o1, c1, o2, c2, e, ow.below hb⟩
    | 7 => exact fun ⟨o1, c1, o2, c2, e, ow⟩ => ⟨o1, c1, o2, c2, e, ow.below hb⟩
    | 8 => exact fun ⟨o1, c1, o2, c2, e, ow⟩ => ⟨o1, c1, o2, c2, e, ow.below hb⟩
    | 9 => exact id
    | 10 => exact fun ⟨n, e, hw, kk⟩ => ⟨n, e, hw, (hb.block _ (heap_lt kk)).trans kk⟩
    | 11 => exact id
    | 12 => exact id
    | _ + 13 => exact id
  go_cut [10, 11] (fun v10 v11 wx => ∃ (n : Nat) (o1 : Option Addr) (c1 : Nat) (o2 : Option Addr) (c2 : Nat), v10 = .pointer (some ⟨n, 0, none⟩) ∧ v11 = .bool nv ∧ wx.heap[n]? = some (.cells #[.slice o1 nts.length c1, .slice o2 nrs.length c2] 27 (0, 0)) ∧ OwnM wb.heap.size wx (.slice o1 nts.length c1) (.slice o2 nrs.length c2) nts nrs ∧ Below wb.heap.size wb wx ∧ wb.heap.size ≤ n)
  case first =>
    refine wp_region_inv (I := RXs _ 11 10 33 R _ wb) (by kernel_rfl) (RXs.start _ 11 10 33 _ _ wb) ?_ ?_
    · intro L a x i hL hD hi h
      obtain ⟨X, h⟩ := h
      have hin : i < 13 := (ready_mem hi).1
      have hnot := (ready_mem hi).2.1
      have hc : i = 0 ∨ i = 1 ∨ i = 2 ∨ i = 3 ∨ i = 4 ∨ i = 5 ∨ i = 6 ∨ i = 7 ∨ i = 8 ∨ i = 9 ∨ i = 10 ∨ i = 11 ∨ i = 12 := by omega
      rcases hc with rfl | rfl | rfl | rfl | rfl | rfl | rfl | rfl | rfl | rfl | rfl | rfl | rfl
      · have hn : L.getD 11 false = false := hD.no 11 [8, 7, 6, 1, 0] hnot (by kernel_rfl) rfl
        obtain rfl := h.pre hn
        refine wpOp_of rfl rfl ?_
        refine op_load 42 4 rfl w.heap.size (h.old 4 (by kernel_rfl)) _ 42 (0, 0) ((h.bel.block _ (heap_lt kA)).trans kA) _ Try.underlying42 rfl (by kernel_rfl) ?_
        exact h.val 0 26 _ x (by decide) (by kernel_rfl) (of_decide_eq_true (by kernel_rfl)) (by kernel_rfl) (by kernel_rfl) hn (Below.refl _ _) (by rw [hR.out]; exact rfl) (fun _ _ q => q)
      · have hn : L.getD 11 false = false := hD.no 11 [8, 7, 6, 1] hnot (by kernel_rfl) rfl
        obtain rfl := h.pre hn
        have q := h.rel 0 26 (ready_dep hi (by kernel_rfl)) (by kernel_rfl)
        rw [hR.out] at q
        have q' : a.tmps.getD 26 undef = .agg #[v0a, v0b] := q
        clear q
        refine wpOp_of rfl rfl ?_
        unfold Oper.wp
        go_simp
        go_at_call 20
        refine (toMemo_any _ _ ts0 rs0 _ hbts0 hbrs0 (((r0.mono y0).below h.bel).mono h.bel.size)).mono ?_
        rintro e x1 ⟨t1, t2, rfl, ot, hb⟩
        exact h.val 1 27 _ x1 (by decide) (by kernel_rfl) (of_decide_eq_true (by kernel_rfl)) (by kernel_rfl) (by kernel_rfl) hn hb (by rw [hR.out]; exact ⟨t1, t2, rfl, ot.reads⟩) (RMO _ _ hb)
      · refine wpOp_of rfl rfl (op_move 1 rfl ?_)
        exact h.put 2 28 _ (by decide) (by kernel_rfl) (of_decide_eq_true (by kernel_rfl)) (by kernel_rfl) (by kernel_rfl) (by decide) (by decide) (by rw [hR.out]; exact h.old 1 (by kernel_rfl))
      · refine wpOp_of rfl rfl (op_move 2 rfl ?_)
        exact h.put 3 29 _ (by decide) (by kernel_rfl) (of_decide_eq_true (by kernel_rfl)) (by kernel_rfl) (by kernel_rfl) (by decide) (by decide) (by rw [hR.out]; exact h.old 2 (by kernel_rfl))
      · have hn : L.getD 11 false = false := hD.no 11 [8, 7, 6, 5, 4] hnot (by kernel_rfl) rfl
        obtain rfl := h.pre hn
        refine wpOp_of rfl rfl ?_
        refine op_load 49 7 rfl (w.heap.size + 1) (h.old 7 (by kernel_rfl)) _ 49 (0, 0) ((h.bel.block _ (heap_lt kR)).trans kR) _ Try.underlying49 rfl (by kernel_rfl) ?_
        exact h.val 4 30 _ x (by decide) (by kernel_rfl) (of_decide_eq_true (by kernel_rfl)) (by kernel_rfl) (by kernel_rfl) hn (Below.refl _ _) (by rw [hR.out]; exact rfl) (fun _ _ q => q)
      · have hn : L.getD 11 false = false := hD.no 11 [8, 7, 6, 5] hnot (by kernel_rfl) rfl
        obtain rfl := h.pre hn
        have q := h.rel 4 30 (ready_dep hi (by kernel_rfl)) (by kernel_rfl)
        rw [hR.out] at q
        have q' : a.tmps.getD 30 undef = .agg #[.int .i64 rc3, .int .i64 rv3] := q
        clear q
        refine wpOp_of rfl rfl ?_
        unfold Oper.wp
        go_simp
        go_at_call 25
        refine (toReply_any rc3 rv3 _).mono ?_
        rintro e x1 ⟨rfl, hb⟩
        exact h.val 5 31 _ x1 (by decide) (by kernel_rfl) (of_decide_eq_true (by kernel_rfl)) (by kernel_rfl) (by kernel_rfl) hn hb (by rw [hR.out]; exact rfl) (RMO _ _ hb)
      · have hn : L.getD 11 false = false := hD.no 11 [8, 7, 6] hnot (by kernel_rfl) rfl
        obtain rfl := h.pre hn
        have q := h.rel 1 27 (ready_dep hi (by kernel_rfl)) (by kernel_rfl)
        rw [hR.out] at q
        obtain ⟨t1, t2, e1, rt⟩ := q
        have q2 := h.rel 2 28 (ready_dep hi (by kernel_rfl)) (by kernel_rfl)
        rw [hR.out] at q2
        have q2' : a.tmps.getD 28 undef = .int .i64 a1 := q2
        clear q2
        have q3 := h.rel 3 29 (ready_dep hi (by kernel_rfl)) (by kernel_rfl)
        rw [hR.out] at q3
        have q3' : a.tmps.getD 29 undef = .int .i64 a2 := q3
        clear q3
        have q4 := h.rel 5 31 (ready_dep hi (by kernel_rfl)) (by kernel_rfl)
        rw [hR.out] at q4
        have q4' : a.tmps.getD 31 undef = .agg #[.int .i64 rc3, .int .i64 rv3] := q4
        clear q4
        refine wpOp_of rfl rfl ?_
        unfold Oper.wp
        go_simp
        go_at_call 14
        refine (specNoted_any _ _ ts0 rs0 a1 a2 rc3 rv3 _ rt).mono ?_
        rw [HFD.out]
        simp only
        rintro e x1 ⟨s1, s2, rfl, os, hb⟩
        obtain ⟨o1, c1, o2, c2, rfl, rfl⟩ := os.forms
        exact h.val 6 32 _ x1 (by decide) (by kernel_rfl) (of_decide_eq_true (by kernel_rfl)) (by kernel_rfl) (by kernel_rfl) hn hb (by rw [hR.out]; exact ⟨o1, c1, o2, c2, rfl, os.mono h.bel.size⟩) (RMO _ _ hb)
      · have q := h.rel 6 32 (ready_dep hi (by kernel_rfl)) (by kernel_rfl)
        rw [hR.out] at q
        refine wpOp_of rfl rfl (op_move 32 rfl ?_)
        exact h.put 7 25 _ (by decide) (by kernel_rfl) (of_decide_eq_true (by kernel_rfl)) (by kernel_rfl) (by kernel_rfl) (by decide) (by decide) (by rw [hR.out]; exact q)
      · have hn : L.getD 11 false = false := hD.no 11 [8] hnot (by kernel_rfl) rfl
        obtain rfl := h.pre hn
        have q := h.rel 7 25 (ready_dep hi (by kernel_rfl)) (by kernel_rfl)
        rw [hR.out] at q
        obtain ⟨o1, c1, o2, c2, e25, ow⟩ := q
        refine wpOp_of rfl rfl ?_
        unfold Oper.wp
        go_simp
        exact h.val 8 33 _ x (by decide) (by kernel_rfl) (of_decide_eq_true (by kernel_rfl)) (by kernel_rfl) (by kernel_rfl) hn (Below.refl _ _) (by rw [hR.out]; exact ⟨o1, c1, o2, c2, rfl, ow⟩) (fun _ _ q => q)
      · have q := h.rel 7 25 (ready_dep hi (by kernel_rfl)) (by kernel_rfl)
        rw [hR.out] at q
        obtain ⟨o1, c1, o2, c2, e25, ow⟩ := q
        refine wpOp_of rfl rfl ?_
        unfold Oper.wp
        go_simp
        exact h.put 9 34 _ (by decide) (by kernel_rfl) (of_decide_eq_true (by kernel_rfl)) (by kernel_rfl) (by kernel_rfl) (by decide) (by decide) (by rw [hR.out]; exact rfl)
      · have hn : L.getD 11 false = false := hD.no 11 [10] hnot (by kernel_rfl) rfl
        obtain rfl := h.pre hn
        refine wpOp_of rfl rfl ?_
        unfold Oper.wp
        go_simp
        have hb : Below x.heap.size x (x.alloc (.cells #[.slice none 0 0, .slice none 0 0] 27)) := bw_alloc (Below.refl _ _)
        exact h.val 10 10 _ _ (by decide) (by kernel_rfl) (of_decide_eq_true (by kernel_rfl)) (by kernel_rfl) (by kernel_rfl) hn hb (by rw [hR.out]; exact ⟨_, rfl, h.bel.size, heap_alloc_new _ _⟩) (RMO _ _ hb)
      · have hn := not_done hnot
        obtain rfl := h.pre hn
        have q0 := h.rel 10 10 (ready_dep hi (by kernel_rfl)) (by kernel_rfl)
        rw [hR.out] at q0
        have q1 := h.rel 8 33 (ready_dep hi (by kernel_rfl)) (by kernel_rfl)
        rw [hR.out] at q1
        obtain ⟨n, eB, hwn, kB⟩ := q0
        obtain ⟨o1, c1, o2, c2, eV, ow⟩ := q1
        obtain ⟨zs, hzs⟩ : ∃ zs : Array Value, zs = #[.slice o1 nts.length c1, .slice o2 nrs.length c2] := ⟨_, rfl⟩
        rw [← hzs] at eV
        have hz1 : (Try.prog.info? 27).map (·.size) = some zs.size := by rw [hzs]; kernel_rfl
        have hz2 : (#[.slice none 0 0, .slice none 0 0] : Array Value).size = zs.size := by rw [hzs]; rfl
        have hz3 : zs.all (·.oneCell') = true := by rw [hzs]; simp [Value.oneCell']
        refine wpOp_of rfl rfl (op_store 27 10 33 rfl rfl n eB zs eV #[.slice none 0 0, .slice none 0 0] 27 kB hz1 hz2 hz3 ?_)
        exact h.store (by rw [hL]; exact of_decide_eq_true (by kernel_rfl)) hn (by kernel_rfl) eB eV
      · have q := h.rel 9 34 (ready_dep hi (by kernel_rfl)) (by kernel_rfl)
        rw [hR.out] at q
        refine wpOp_of rfl rfl (op_assign 34 rfl ?_)
        exact h.put 12 11 _ (by decide) (by kernel_rfl) (of_decide_eq_true (by kernel_rfl)) (by kernel_rfl) (by kernel_rfl) (by decide) (by decide) (by rw [hR.out]; exact q)
    · intro L a x hL hD hr h
      obtain ⟨X, h⟩ := h
      have hall := all_done hL hr (by kernel_rfl)
      obtain ⟨n, zs, eB, eV, rfl⟩ := h.fin (hall 11 (of_decide_eq_true (by kernel_rfl)))
      have qB := h.rel 10 10 (hall 10 (of_decide_eq_true (by kernel_rfl))) (by kernel_rfl)
      rw [hR.out] at qB
      have qV := h.rel 8 33 (hall 8 (of_decide_eq_true (by kernel_rfl))) (by kernel_rfl)
      rw [hR.out] at qV
      have qL := h.rel 12 11 (hall 12 (of_decide_eq_true (by kernel_rfl))) (by kernel_rfl)
      rw [hR.out] at qL
      obtain ⟨n', eB', hwn, kB⟩ := qB
      obtain ⟨o1, c1, o2, c2, eV', ow⟩ := qV
      have en : (Value.pointer (some ⟨n, 0, none⟩)) = .pointer (some ⟨n', 0, none⟩) := eB.symm.trans eB'
      have ez : Value.agg zs = .agg #[.slice o1 nts.length c1, .slice o2 nrs.length c2] := eV.symm.trans eV'
      simp only [Value.pointer.injEq, Option.some.injEq, Addr.mk.injEq, and_true] at en
      simp only [Value.agg.injEq] at ez
      subst en ez
      obtain ⟨w10, hw10⟩ : ∃ z, z = Value.pointer (some ⟨n, 0, none⟩) := ⟨_, rfl⟩
      obtain ⟨w11, hw11⟩ : ∃ z, z = Value.bool nv := ⟨_, rfl⟩
      have ew10 : a.tmps.getD 10 undef = w10 := by rw [hw10]; exact eB
      have ew11 : a.tmps.getD 11 undef = w11 := by rw [hw11]; exact qL
      have HEND : Hid (∃ (n0 : Nat) (p1 : Option Addr) (d1 : Nat) (p2 : Option Addr) (d2 : Nat), w10 = .pointer (some ⟨n0, 0, none⟩) ∧ w11 = .bool nv ∧ (X.setRow n #[.slice o1 nts.length c1, .slice o2 nrs.length c2]).heap[n0]? = some (.cells #[.slice p1 nts.length d1, .slice p2 nrs.length d2] 27 (0, 0)) ∧ OwnM wb.heap.size (X.setRow n #[.slice o1 nts.length c1, .slice o2 nrs.length c2]) (.slice p1 nts.length d1) (.slice p2 nrs.length d2) nts nrs ∧ Below wb.heap.size wb (X.setRow n #[.slice o1 nts.length c1, .slice o2 nrs.length c2]) ∧ wb.heap.size ≤ n0) :=
        ⟨n, o1, c1, o2, c2, hw10, hw11, setRow_row kB, ow.box kB row_upto, h.bel.trans (row_upto.toBelow h.bel.size hwn), hwn⟩
      clear qL eB' eV' ow kB hw10 hw11
      have hfr := h.frame [10, 11, 25, 26, 27, 28, 29, 30, 31, 32, 33, 34] (by kernel_rfl)
      obtain ⟨f, hf⟩ : ∃ f : Nat → Value, (fun s => a.tmps.getD s undef) = f := ⟨_, rfl⟩
      rw [hf] at hfr
      have f10 : f 10 = w10 := by rw [← hf]; exact ew10
      have f11 : f 11 = w11 := by rw [← hf]; exact ew11
      clear hf h hall hr hD hL eB eV ew10 ew11
      subst hfr
      simp only [Act.puts, f10, f11, Act.put, List.setIfInBounds_toArray, List.set_cons_succ, List.set_cons_zero]
      generalize f 25 = ux25
      generalize f 26 = ux26
      generalize f 27 = ux27
      generalize f 28 = ux28
      generalize f 29 = ux29
      generalize f 30 = ux30
      generalize f 31 = ux31
      generalize f 32 = ux32
      generalize f 33 = ux33
      generalize f 34 = ux34
      clear f10 f11 f
      show Exit.then _ _ _ _ _
      go_wp2_with fail
      go_meet
      exact HEND.out
  case rest =>
    obtain ⟨nS, os1, cs1, os2, cs2, rfl, rfl, kB, os, b, hnS⟩ := hcut
    rename World => wd
    replace d := bw_call d b
    replace kA := (b.block _ sA).trans kA
    replace sA := Nat.lt_of_lt_of_le sA b.size
    replace kR := (b.block _ sR).trans kR
    replace sR := Nat.lt_of_lt_of_le sR b.size
    replace r0 := r0.below (b.mono y0)
    replace y0 := Nat.le_trans y0 b.size
    clear b
    have sB := heap_lt kB
    have sr := os.reads
    have ys : wd.heap.size ≤ wd.heap.size := Nat.le_refl _
    have hnS' : nS < wd.heap.size := sB
    clear os
    have pkA0 := at_cell kA 0
    have pkA1 := at_cell kA 1
    go_wp2_with fail
    clear pkA0 pkA1
    refine (toMemo_any v0a v0b ts0 rs0 _ hbts0 hbrs0 (r0.mono y0)).mono ?_
    rintro e wf ⟨x1, x2, rfl, ox, b⟩
    have cX3 := b.size
    replace d := bw_call d b
    replace kA := (b.block _ sA).trans kA
    replace sA := Nat.lt_of_lt_of_le sA b.size
    replace kR := (b.block _ sR).trans kR
    replace sR := Nat.lt_of_lt_of_le sR b.size
    replace r0 := r0.below (b.mono y0)
    replace y0 := Nat.le_trans y0 b.size
    replace kB := (b.block _ sB).trans kB
    replace sB := Nat.lt_of_lt_of_le sB b.size
    replace sr := sr.below (b.mono ys)
    replace ys := Nat.le_trans ys b.size
    clear b
    have TX : Hid _ := ox.span
    obtain ⟨ox1, cx1, ox2, cx2, rfl, rfl⟩ := ox.forms
    have b : Below wf.heap.size wf (wf.alloc (.cells #[.slice ox1 ts0.length cx1, .slice ox2 rs0.length cx2] 27)) := bw_alloc (Below.refl _ _)
    have kX := heap_alloc_new wf (.cells #[.slice ox1 ts0.length cx1, .slice ox2 rs0.length cx2] 27)
    have sX : wf.heap.size < (wf.alloc (.cells #[.slice ox1 ts0.length cx1, .slice ox2 rs0.length cx2] 27)).heap.size := by simp
    replace d := bw_call d b
    replace kA := (b.block _ sA).trans kA
    replace sA := Nat.lt_of_lt_of_le sA b.size
    replace kR := (b.block _ sR).trans kR
    replace sR := Nat.lt_of_lt_of_le sR b.size
    replace r0 := r0.below (b.mono y0)
    replace y0 := Nat.le_trans y0 b.size
    replace kB := (b.block _ sB).trans kB
    replace sB := Nat.lt_of_lt_of_le sB b.size
    replace sr := sr.below (b.mono ys)
    replace ys := Nat.le_trans ys b.size
    replace ox := ox.below b
    clear b
    go_upto_region 7 with fail
    generalize wf.alloc (.cells #[.slice ox1 ts0.length cx1, .slice ox2 rs0.length cx2] 27) = Wx at *
    have cX4 : wf.heap.size < Wx.heap.size := sX
    have rx := ox.reads
    obtain ⟨R, hR0⟩ : ∃ R : Nat → Value → World → Prop, R = fun j v X => match j with
      | 0 => v = .agg #[.slice ox1 ts0.length cx1, .slice ox2 rs0.length cx2]
      | 1 => v = .int .i64 a1
      | 2 => v = .int .i64 a2
      | 3 => v = .agg #[.int .i64 rc3, .int .i64 rv3]
      | 4 => v = .agg #[.int .i64 rc3, .int .i64 rv3]
      | 5 => ∃ o1 c1 o2 c2, v = .tuple #[.agg #[.slice o1 nts.length c1, .slice o2 nrs.length c2], .bool nv] ∧ OwnM Wx.heap.size X (.slice o1 nts.length c1) (.slice o2 nrs.length c2) nts nrs
      | 6 => ∃ o1 c1 o2 c2, v = .tuple #[.agg #[.slice o1 nts.length c1, .slice o2 nrs.length c2], .bool nv] ∧ OwnM Wx.heap.size X (.slice o1 nts.length c1) (.slice o2 nrs.length c2) nts nrs
      | 7 => ∃ o1 c1 o2 c2, v = .agg #[.slice o1 nts.length c1, .slice o2 nrs.length c2] ∧ OwnM Wx.heap.size X (.slice o1 nts.length c1) (.slice o2 nrs.length c2) nts nrs
      | 8 => v = .bool nv
      | 9 => ∃ n, v = .pointer (some ⟨n, 0, none⟩) ∧ Wx.heap.size ≤ n ∧ X.heap[n]? = some (.cells #[.slice none 0 0, .slice none 0 0] 27 (0, 0))
      | 11 => v = .bool nv
      | _ => True := ⟨_, rfl⟩
    have hR : Hid _ := hR0
    clear hR0
    have RMO : ∀ x x', Below x.heap.size x x' → ∀ j v, R j v x → R j v x' := fun x x' hb j v => by
      rw [hR.out]
      match j with
      | 0 => exact id
      | 1 => exact id
      | 2 => exact id
      | 3 => exact id
      | 4 => exact id
      | 5 => exact fun ⟨o1, c1, o2, c2, e, ow⟩ => ⟨o1, c1, o2, c2, e, ow.below hb⟩
      | 6 => exact fun ⟨o1, c1, o2, c2, e, ow⟩ => ⟨o1, c1, o2, c2, e, ow.below hb⟩
      | 7 => exact fun ⟨o1, c1, o2, c2, e, ow⟩ => ⟨o1, c1, o2, c2, e, ow.below hb⟩
      | 8 => exact id
      | 9 => exact fun ⟨n, e, hw, kk⟩ => ⟨n, e, hw, (hb.block _ (heap_lt kk)).trans kk⟩
      | 10 => exact id
      | 11 => exact id
      | _ + 12 => exact id
    go_cut [13, 14] (fun v13 v14 wx => ∃ (n : Nat) (o1 : Option Addr) (c1 : Nat) (o2 : Option Addr) (c2 : Nat), v13 = .pointer (some ⟨n, 0, none⟩) ∧ v14 = .bool nv ∧ wx.heap[n]? = some (.cells #[.slice o1 nts.length c1, .slice o2 nrs.length c2] 27 (0, 0)) ∧ OwnM Wx.heap.size wx (.slice o1 nts.length c1) (.slice o2 nrs.length c2) nts nrs ∧ Below Wx.heap.size Wx wx ∧ Wx.heap.size ≤ n)
    case first =>
      refine wp_region_inv (I := RXs _ 10 13 44 R _ Wx) (by kernel_rfl) (RXs.start _ 10 13 44 _ _ Wx) ?_ ?_
      · intro L a x i hL hD hi h
        obtain ⟨X, h⟩ := h
        have hin : i < 12 := (ready_mem hi).1
        have hnot := (ready_mem hi).2.1
        have hc : i = 0 ∨ i = 1 ∨ i = 2 ∨ i = 3 ∨ i = 4 ∨ i = 5 ∨ i = 6 ∨ i = 7 ∨ i = 8 ∨ i = 9 ∨ i = 10 ∨ i = 11 := by omega
        rcases hc with rfl | rfl | rfl | rfl | rfl | rfl | rfl | rfl | rfl | rfl | rfl | rfl
        · have hn : L.getD 10 false = false := hD.no 10 [7, 6, 5, 0] hnot (by kernel_rfl) rfl
          obtain rfl := h.pre hn
          refine wpOp_of rfl rfl ?_
          refine op_load 27 12 rfl wf.heap.size (h.old 12 (by kernel_rfl)) _ 27 (0, 0) ((h.bel.block _ (heap_lt kX)).trans kX) _ Try.underlying27 rfl (by kernel_rfl) ?_
          exact h.val 0 38 _ x (by decide) (by kernel_rfl) (of_decide_eq_true (by kernel_rfl)) (by kernel_rfl) (by kernel_rfl) hn (Below.refl _ _) (by rw [hR.out]; exact rfl) (fun _ _ q => q)
        · refine wpOp_of rfl rfl (op_move 1 rfl ?_)
          exact h.put 1 39 _ (by decide) (by kernel_rfl) (of_decide_eq_true (by kernel_rfl)) (by kernel_rfl) (by kernel_rfl) (by decide) (by decide) (by rw [hR.out]; exact h.old 1 (by kernel_rfl))
        · refine wpOp_of rfl rfl (op_move 2 rfl ?_)
          exact h.put 2 40 _ (by decide) (by kernel_rfl) (of_decide_eq_true (by kernel_rfl)) (by kernel_rfl) (by kernel_rfl) (by decide) (by decide) (by rw [hR.out]; exact h.old 2 (by kernel_rfl))
        · have hn : L.getD 10 false = false := hD.no 10 [7, 6, 5, 4, 3] hnot (by kernel_rfl) rfl
          obtain rfl := h.pre hn
          refine wpOp_of rfl rfl ?_
          refine op_load 49 7 rfl (w.heap.size + 1) (h.old 7 (by kernel_rfl)) _ 49 (0, 0) ((h.bel.block _ (heap_lt kR)).trans kR) _ Try.underlying49 rfl (by kernel_rfl) ?_
          exact h.val 3 41 _ x (by decide) (by kernel_rfl) (of_decide_eq_true (by kernel_rfl)) (by kernel_rfl) (by kernel_rfl) hn (Below.refl _ _) (by rw [hR.out]; exact rfl) (fun _ _ q => q)
        · have hn : L.getD 10 false = false := hD.no 10 [7, 6, 5, 4] hnot (by kernel_rfl) rfl
          obtain rfl := h.pre hn
          have q := h.rel 3 41 (ready_dep hi (by kernel_rfl)) (by kernel_rfl)
          rw [hR.out] at q
          have q' : a.tmps.getD 41 undef = .agg #[.int .i64 rc3, .int .i64 rv3] := q
          clear q
          refine wpOp_of rfl rfl ?_
          unfold Oper.wp
          go_simp
          go_at_call 25
          refine (toReply_any rc3 rv3 _).mono ?_
          rintro e x1 ⟨rfl, hb⟩
          exact h.val 4 42 _ x1 (by decide) (by kernel_rfl) (of_decide_eq_true (by kernel_rfl)) (by kernel_rfl) (by kernel_rfl) hn hb (by rw [hR.out]; exact rfl) (RMO _ _ hb)
        · have hn : L.getD 10 false = false := hD.no 10 [7, 6, 5] hnot (by kernel_rfl) rfl
          obtain rfl := h.pre hn
          have q := h.rel 0 38 (ready_dep hi (by kernel_rfl)) (by kernel_rfl)
          rw [hR.out] at q
          have q' : a.tmps.getD 38 undef = .agg #[.slice ox1 ts0.length cx1, .slice ox2 rs0.length cx2] := q
          clear q
          have q2 := h.rel 1 39 (ready_dep hi (by kernel_rfl)) (by kernel_rfl)
          rw [hR.out] at q2
          have q2' : a.tmps.getD 39 undef = .int .i64 a1 := q2
          clear q2
          have q3 := h.rel 2 40 (ready_dep hi (by kernel_rfl)) (by kernel_rfl)
          rw [hR.out] at q3
          have q3' : a.tmps.getD 40 undef = .int .i64 a2 := q3
          clear q3
          have q4 := h.rel 4 42 (ready_dep hi (by kernel_rfl)) (by kernel_rfl)
          rw [hR.out] at q4
          have q4' : a.tmps.getD 42 undef = .agg #[.int .i64 rc3, .int .i64 rv3] := q4
          clear q4
          refine wpOp_of rfl rfl ?_
          unfold Oper.wp
          go_simp
          go_at_call 10
          refine (implNoted_any _ _ ts0 rs0 a1 a2 rc3 rv3 _ ((rx.below h.bel).mono h.bel.size)).mono ?_
          rw [HFD.out]
          simp only
          rintro e x1 ⟨s1, s2, rfl, os, hb⟩
          obtain ⟨o1, c1, o2, c2, rfl, rfl⟩ := os.forms
          exact h.val 5 43 _ x1 (by decide) (by kernel_rfl) (of_decide_eq_true (by kernel_rfl)) (by kernel_rfl) (by kernel_rfl) hn hb (by rw [hR.out]; exact ⟨o1, c1, o2, c2, rfl, os.mono h.bel.size⟩) (RMO _ _ hb)
        · have q := h.rel 5 43 (ready_dep hi (by kernel_rfl)) (by kernel_rfl)
          rw [hR.out] at q
          refine wpOp_of rfl rfl (op_move 43 rfl ?_)
          exact h.put 6 37 _ (by decide) (by kernel_rfl) (of_decide_eq_true (by kernel_rfl)) (by kernel_rfl) (by kernel_rfl) (by decide) (by decide) (by rw [hR.out]; exact q)
        · have hn : L.getD 10 false = false := hD.no 10 [7] hnot (by kernel_rfl) rfl
          obtain rfl := h.pre hn
          have q := h.rel 6 37 (ready_dep hi (by kernel_rfl)) (by kernel_rfl)
          rw [hR.out] at q
          obtain ⟨o1, c1, o2, c2, e25, ow⟩ := q
          refine wpOp_of rfl rfl ?_
          unfold Oper.wp
          go_simp
          exact h.val 7 44 _ x (by decide) (by kernel_rfl) (of_decide_eq_true (by kernel_rfl)) (by kernel_rfl) (by kernel_rfl) hn (Below.refl _ _) (by rw [hR.out]; exact ⟨o1, c1, o2, c2, rfl, ow⟩) (fun _ _ q => q)
        · have q := h.rel 6 37 (ready_dep hi (by kernel_rfl)) (by kernel_rfl)
          rw [hR.out] at q
          obtain ⟨o1, c1, o2, c2, e25, ow⟩ := q
          refine wpOp_of rfl rfl ?_
          unfold Oper.wp
          go_simp
          exact h.put 8 45 _ (by decide) (by kernel_rfl) (of_decide_eq_true (by kernel_rfl)) (by kernel_rfl) (by kernel_rfl) (by decide) (by decide) (by rw [hR.out]; exact rfl)
        · have hn : L.getD 10 false = false := hD.no 10 [9] hnot (by kernel_rfl) rfl
          obtain rfl := h.pre hn
          refine wpOp_of rfl rfl ?_
          unfold Oper.wp
          go_simp
          have hb : Below x.heap.size x (x.alloc (.cells #[.slice none 0 0, .slice none 0 0] 27)) := bw_alloc (Below.refl _ _)
          exact h.val 9 13 _ _ (by decide) (by kernel_rfl) (of_decide_eq_true (by kernel_rfl)) (by kernel_rfl) (by kernel_rfl) hn hb (by rw [hR.out]; exact ⟨_, rfl, h.bel.size, heap_alloc_new _ _⟩) (RMO _ _ hb)
        · have hn := not_done hnot
          obtain rfl := h.pre hn
          have q0 := h.rel 9 13 (ready_dep hi (by kernel_rfl)) (by kernel_rfl)
          rw [hR.out] at q0
          have q1 := h.rel 7 44 (ready_dep hi (by kernel_rfl)) (by kernel_rfl)
          rw [hR.out] at q1
          obtain ⟨n, eB, hwn, kB⟩ := q0
          obtain ⟨o1, c1, o2, c2, eV, ow⟩ := q1
          obtain ⟨zs, hzs⟩ : ∃ zs : Array Value, zs = #[.slice o1 nts.length c1, .slice o2 nrs.length c2] := ⟨_, rfl⟩
          rw [← hzs] at eV
          have hz1 : (Try.prog.info? 27).map (·.size) = some zs.size := by rw [hzs]; kernel_rfl
          have hz2 : (#[.slice none 0 0, .slice none 0 0] : Array Value).size = zs.size := by rw [hzs]; rfl
          have hz3 : zs.all (·.oneCell') = true := by rw [hzs]; simp [Value.oneCell']
          refine wpOp_of rfl rfl (op_store 27 13 44 rfl rfl n eB zs eV #[.slice none 0 0, .slice none 0 0] 27 kB hz1 hz2 hz3 ?_)
          exact h.store (by rw [hL]; exact of_decide_eq_true (by kernel_rfl)) hn (by kernel_rfl) eB eV
        · have q := h.rel 8 45 (ready_dep hi (by kernel_rfl)) (by kernel_rfl)
          rw [hR.out] at q
          refine wpOp_of rfl rfl (op_assign 45 rfl ?_)
          exact h.put 11 14 _ (by decide) (by kernel_rfl) (of_decide_eq_true (by kernel_rfl)) (by kernel_rfl) (by kernel_rfl) (by decide) (by decide) (by rw [hR.out]; exact q)
      · intro L a x hL hD hr h
        obtain ⟨X, h⟩ := h
        have hall := all_done hL hr (by kernel_rfl)
        obtain ⟨n, zs, eB, eV, rfl⟩ := h.fin (hall 10 (of_decide_eq_true (by kernel_rfl)))
        have qB := h.rel 9 13 (hall 9 (of_decide_eq_true (by kernel_rfl))) (by kernel_rfl)
        rw [hR.out] at qB
        have qV := h.rel 7 44 (hall 7 (of_decide_eq_true (by kernel_rfl))) (by kernel_rfl)
        rw [hR.out] at qV
        have qL := h.rel 11 14 (hall 11 (of_decide_eq_true (by kernel_rfl))) (by kernel_rfl)
        rw [hR.out] at qL
        obtain ⟨n', eB', hwn, kB⟩ := qB
        obtain ⟨o1, c1, o2, c2, eV', ow⟩ := qV
        have en : (Value.pointer (some ⟨n, 0, none⟩)) = .pointer (some ⟨n', 0, none⟩) := eB.symm.trans eB'
        have ez : Value.agg zs = .agg #[.slice o1 nts.length c1, .slice o2 nrs.length c2] := eV.symm.trans eV'
        simp only [Value.pointer.injEq, Option.some.injEq, Addr.mk.injEq, and_true] at en
        simp only [Value.agg.injEq] at ez
        subst en ez
        obtain ⟨w13, hw13⟩ : ∃ z, z = Value.pointer (some ⟨n, 0, none⟩) := ⟨_, rfl⟩
        obtain ⟨w14, hw14⟩ : ∃ z, z = Value.bool nv := ⟨_, rfl⟩
        have ew13 : a.tmps.getD 13 undef = w13 := by rw [hw13]; exact eB
        have ew14 : a.tmps.getD 14 undef = w14 := by rw [hw14]; exact qL
        have HEND : Hid (∃ (n0 : Nat) (p1 : Option Addr) (d1 : Nat) (p2 : Option Addr) (d2 : Nat), w13 = .pointer (some ⟨n0, 0, none⟩) ∧ w14 = .bool nv ∧ (X.setRow n #[.slice o1 nts.length c1, .slice o2 nrs.length c2]).heap[n0]? = some (.cells #[.slice p1 nts.length d1, .slice p2 nrs.length d2] 27 (0, 0)) ∧ OwnM Wx.heap.size (X.setRow n #[.slice o1 nts.length c1, .slice o2 nrs.length c2]) (.slice p1 nts.length d1) (.slice p2 nrs.length d2) nts nrs ∧ Below Wx.heap.size Wx (X.setRow n #[.slice o1 nts.length c1, .slice o2 nrs.length c2]) ∧ Wx.heap.size ≤ n0) :=
          ⟨n, o1, c1, o2, c2, hw13, hw14, setRow_row kB, ow.box kB row_upto, h.bel.trans (row_upto.toBelow h.bel.size hwn), hwn⟩
        clear qL eB' eV' ow kB hw13 hw14
        have hfr := h.frame [13, 14, 37, 38, 39, 40, 41, 42, 43, 44, 45] (by kernel_rfl)
        obtain ⟨f, hf⟩ : ∃ f : Nat → Value, (fun s => a.tmps.getD s undef) = f := ⟨_, rfl⟩
        rw [hf] at hfr
        have f13 : f 13 = w13 := by rw [← hf]; exact ew13
        have f14 : f 14 = w14 := by rw [← hf]; exact ew14
        clear hf h hall hr hD hL eB eV ew13 ew14
        subst hfr
        simp only [Act.puts, f13, f14, Act.put, List.setIfInBounds_toArray, List.set_cons_succ, List.set_cons_zero]
        generalize f 37 = ux37
        generalize f 38 = ux38
        generalize f 39 = ux39
        generalize f 40 = ux40
        generalize f 41 = ux41
        generalize f 42 = ux42
        generalize f 43 = ux43
        generalize f 44 = ux44
        generalize f 45 = ux45
        clear f13 f14 f
        show Exit.then _ _ _ _ _
        go_wp2_with fail
        go_meet
        exact HEND.out
    case rest =>
      obtain ⟨nG, og1, cg1, og2, cg2, rfl, rfl, kG, og, b, hnG⟩ := hcut
      clear rx
      rename World => wg
      replace d := bw_call d b
      replace kA := (b.block _ sA).trans kA
      replace sA := Nat.lt_of_lt_of_le sA b.size
      replace kR := (b.block _ sR).trans kR
      replace sR := Nat.lt_of_lt_of_le sR b.size
      replace r0 := r0.below (b.mono y0)
      replace y0 := Nat.le_trans y0 b.size
      replace kB := (b.block _ sB).trans kB
      replace sB := Nat.lt_of_lt_of_le sB b.size
      replace sr := sr.below (b.mono ys)
      replace ys := Nat.le_trans ys b.size
      replace ox := ox.below b
      replace kX := (b.block _ sX).trans kX
      replace sX := Nat.lt_of_lt_of_le sX b.size
      clear b
      have sG := heap_lt kG
      have TG : Hid _ := og.span
      have kGb : Wx.heap.size ≤ nG := hnG
      have cG0 : nG < wg.heap.size := sG
      have cG1 : Wx.heap.size ≤ wg.heap.size := by omega
      have pkG0 := at_cell kG 0
      have pkG1 := at_cell kG 1
      have pkB0 := at_cell kB 0
      have pkB1 := at_cell kB 1
      go_wp2_with fail
      clear pkG0 pkG1
      clear pkB0 pkB1
      refine (eqMemo_any (.slice og1 nts.length cg1) (.slice og2 nrs.length cg2) (.slice os1 nts.length cs1) (.slice os2 nrs.length cs2) nts nrs nts nrs _ og.reads (sr.mono ys)).mono ?_
      rintro e wh ⟨rfl, b⟩
      rw [show (decide (nts = nts) && decide (nrs = nrs)) = true by simp]
      replace d := bw_call d b
      replace kA := (b.block _ sA).trans kA
      replace sA := Nat.lt_of_lt_of_le sA b.size
      replace kR := (b.block _ sR).trans kR
      replace sR := Nat.lt_of_lt_of_le sR b.size
      replace r0 := r0.below (b.mono y0)
      replace y0 := Nat.le_trans y0 b.size
      replace kB := (b.block _ sB).trans kB
      replace sB := Nat.lt_of_lt_of_le sB b.size
      replace sr := sr.below (b.mono ys)
      replace ys := Nat.le_trans ys b.size
      replace ox := ox.below b
      replace kX := (b.block _ sX).trans kX
      replace sX := Nat.lt_of_lt_of_le sX b.size
      replace kG := (b.block _ sG).trans kG
      replace sG := Nat.lt_of_lt_of_le sG b.size
      replace og := og.below b
      clear b
      go_upto_region 10 with fail
      have S0 : wh.drew.cell? ⟨wf.heap.size, 0, none⟩ = some (.slice ox1 ts0.length cx1) ∧ wh.drew.cell? ⟨wf.heap.size, 1, none⟩ = some (.slice ox2 rs0.length cx2) ∧ wh.drew.cell? ⟨w.heap.size, 0, none⟩ = some v0a ∧ wh.drew.cell? ⟨w.heap.size, 1, none⟩ = some v0b := ⟨at_cell kX 0, at_cell kX 1, at_cell kA 0, at_cell kA 1⟩
      have RA : RM wh.drew.heap.size wh.drew v0a v0b ts0 rs0 := (r0.mono y0).below ((Below.refl _ _).drew)
      have OX := ox.below (w' := wh.drew) ((Below.refl _ _).drew)
      go_region_held3 (fun w' => w'.cell? ⟨wf.heap.size, 0, none⟩ = some (.slice ox1 ts0.length cx1) ∧ w'.cell? ⟨wf.heap.size, 1, none⟩ = some (.slice ox2 rs0.length cx2) ∧ w'.cell? ⟨w.heap.size, 0, none⟩ = some v0a ∧ w'.cell? ⟨w.heap.size, 1, none⟩ = some v0b)
        ((first | exact S0 | exact S1 | exact S2))
        ((first | (go_at_call 20; refine (toMemo_any v0a v0b ts0 rs0 _ hbts0 hbrs0 RA).mono ?_; rintro e wi ⟨t1, t2, rfl, ot, bi⟩; have kXi := (bi.block _ (show _ < wh.heap.size from sX)).trans kX; have kAi := (bi.block _ (show _ < wh.heap.size from sA)).trans kA; have S1 := And.intro (at_cell kXi 0) (And.intro (at_cell kXi 1) (And.intro (at_cell kAi 0) (at_cell kAi 1))); have OXi := OX.below bi) | (go_at_call 21; refine (eqMemo_any (.slice ox1 ts0.length cx1) (.slice ox2 rs0.length cx2) t1 t2 ts0 rs0 ts0 rs0 _ OXi.reads ot.reads).mono ?_; rintro e wj ⟨rfl, bj⟩; have kXj := (bj.block _ (heap_lt kXi)).trans kXi; have kAj := (bj.block _ (heap_lt kAi)).trans kAi; have S2 := And.intro (at_cell kXj 0) (And.intro (at_cell kXj 1) (And.intro (at_cell kAj 0) (at_cell kAj 1))))))
      have b : Below wh.heap.size wh wj := bw_call (bw_call (bw_drew (Below.refl _ _)) bi) bj
      clear S0 S1 S2 RA OX OXi kXi kAi kXj kAj ot bi bj
      replace d := bw_call d b
      replace kA := (b.block _ sA).trans kA
      replace sA := Nat.lt_of_lt_of_le sA b.size
      replace kR := (b.block _ sR).trans kR
      replace sR := Nat.lt_of_lt_of_le sR b.size
      replace r0 := r0.below (b.mono y0)
      replace y0 := Nat.le_trans y0 b.size
      replace kB := (b.block _ sB).trans kB
      replace sB := Nat.lt_of_lt_of_le sB b.size
      replace sr := sr.below (b.mono ys)
      replace ys := Nat.le_trans ys b.size
      replace ox := ox.below b
      replace kX := (b.block _ sX).trans kX
      replace sX := Nat.lt_of_lt_of_le sX b.size
      replace kG := (b.block _ sG).trans kG
      replace sG := Nat.lt_of_lt_of_le sG b.size
      replace og := og.below b
      clear b
      have pkX0 := at_cell kX 0
      have pkX1 := at_cell kX 1
      go_wp2_with fail
      clear pkX0 pkX1
      refine (markMemo_any (.slice ox1 ts0.length cx1) (.slice ox2 rs0.length cx2) ts0 rs0 wd.heap.size wf.heap.size 1 _ (by omega) hbts0 hbrs0 (by omega) ox TX.out (by omega) (by omega)).mono ?_
      rintro e wk ⟨rfl, _, b⟩
      clear ox kX sX
      replace d := d.trans (b.toBelow (by omega) (by omega))
      replace kA := (b.block _ sA (by omega)).trans kA
      replace sA := Nat.lt_of_lt_of_le sA b.size
      replace kR := (b.block _ sR (by omega)).trans kR
      replace sR := Nat.lt_of_lt_of_le sR b.size
      replace r0 := r0.below (b.toBelow y0 (by omega))
      replace y0 := Nat.le_trans y0 b.size
      replace kB := (b.block _ sB (by omega)).trans kB
      replace sB := Nat.lt_of_lt_of_le sB b.size
      replace sr := sr.below (b.toBelow ys (by omega))
      replace ys := Nat.le_trans ys b.size
      replace kG := (b.block _ sG (by omega)).trans kG
      replace sG := Nat.lt_of_lt_of_le sG b.size
      replace og := og.rng b (by omega)
      clear b
      have hpos : 0 ≤ 1 + (ts0.length : Int) + 2 * (rs0.length : Int) := by omega
      have hposb : ¬ 1 + (ts0.length : Int) + 2 * (rs0.length : Int) < 0 := by omega
      have pkG0 := at_cell kG 0
      have pkG1 := at_cell kG 1
      have pkB0 := at_cell kB 0
      have pkB1 := at_cell kB 1
      go_wp2_with fail
      clear pkG0 pkG1
      clear pkB0 pkB1
      refine (eqMemo_any (.slice og1 nts.length cg1) (.slice og2 nrs.length cg2) (.slice os1 nts.length cs1) (.slice os2 nrs.length cs2) nts nrs nts nrs _ og.reads (sr.mono ys)).mono ?_
      rintro e wl ⟨rfl, b⟩
      rw [show (decide (nts = nts) && decide (nrs = nrs)) = true by simp]
      replace d := bw_call d b
      replace kA := (b.block _ sA).trans kA
      replace sA := Nat.lt_of_lt_of_le sA b.size
      replace kR := (b.block _ sR).trans kR
      replace sR := Nat.lt_of_lt_of_le sR b.size
      replace r0 := r0.below (b.mono y0)
      replace y0 := Nat.le_trans y0 b.size
      replace kB := (b.block _ sB).trans kB
      replace sB := Nat.lt_of_lt_of_le sB b.size
      replace sr := sr.below (b.mono ys)
      replace ys := Nat.le_trans ys b.size
      replace kG := (b.block _ sG).trans kG
      replace sG := Nat.lt_of_lt_of_le sG b.size
      replace og := og.below b
      clear b
      have pkG0 := at_cell kG 0
      have pkG1 := at_cell kG 1
      go_wp2_with fail
      clear pkG0 pkG1
      have kGn1 : nG ≠ nG ∨ True := .inr trivial
      clear kGn1
      refine (markMemoO_any (.slice og1 nts.length cg1) (.slice og2 nrs.length cg2) nts nrs Wx.heap.size 1 _ (by omega) hlnts hlnrs (by omega) og (by omega)).mono ?_
      rintro e wm ⟨rfl, ogm, u⟩
      have kG2 := (u.block _ sG (fun h => h.elim (own_not_box og.t kG (by decide)) (own_not_box og.r kG (by decide)))).trans kG
      have b : Rng Wx.heap.size wl.heap.size wl wm := only_rngM u og.span
      clear u
      clear og
      clear kG sG
      replace d := d.trans (b.toBelow (by omega) (by omega))
      replace kA := (b.block _ sA (by omega)).trans kA
      replace sA := Nat.lt_of_lt_of_le sA b.size
      replace kR := (b.block _ sR (by omega)).trans kR
      replace sR := Nat.lt_of_lt_of_le sR b.size
      replace r0 := r0.below (b.toBelow y0 (by omega))
      replace y0 := Nat.le_trans y0 b.size
      replace kB := (b.block _ sB (by omega)).trans kB
      replace sB := Nat.lt_of_lt_of_le sB b.size
      replace sr := sr.below (b.toBelow ys (by omega))
      replace ys := Nat.le_trans ys b.size
      clear b
      have sG2 := heap_lt kG2
      have hposn : 0 ≤ 1 + (nts.length : Int) + 2 * (nrs.length : Int) := by omega
      have hposm : ¬ 1 + (nts.length : Int) + 2 * (nrs.length : Int) < 0 := by omega
      have pkG20 := at_cell kG2 0
      have pkG21 := at_cell kG2 1
      go_wp2_with fail
      clear pkG20 pkG21
      refine (heldMemo_any (.slice og1 nts.length cg1) (.slice og2 nrs.length cg2) nts.length nrs.length 1 _ (by omega) (by omega) hlnts hlnrs ogm.reads).mono ?_
      rintro e wn ⟨rfl, b⟩
      replace d := bw_call d b
      replace kA := (b.block _ sA).trans kA
      replace sA := Nat.lt_of_lt_of_le sA b.size
      replace kR := (b.block _ sR).trans kR
      replace sR := Nat.lt_of_lt_of_le sR b.size
      replace r0 := r0.below (b.mono y0)
      replace y0 := Nat.le_trans y0 b.size
      replace kB := (b.block _ sB).trans kB
      replace sB := Nat.lt_of_lt_of_le sB b.size
      replace sr := sr.below (b.mono ys)
      replace ys := Nat.le_trans ys b.size
      replace kG2 := (b.block _ sG2).trans kG2
      replace sG2 := Nat.lt_of_lt_of_le sG2 b.size
      replace ogm := ogm.below b
      clear b
      go_upto_region 24 with fail
      obtain ⟨R, hR0⟩ : ∃ R : Nat → Value → World → Prop, R = fun j v X => match j with
        | 0 => v = .agg #[v0a, v0b]
        | 1 => ∃ t1 t2, v = .agg #[t1, t2] ∧ RM X.heap.size X t1 t2 ts0 rs0
        | 2 => v = .int .i64 a1
        | 3 => v = .int .i64 a2
        | 4 => v = .agg #[.int .i64 rc3, .int .i64 rv3]
        | 5 => v = .agg #[.int .i64 rc3, .int .i64 rv3]
        | 6 => ∃ o1 c1 o2 c2, v = .tuple #[.agg #[.slice o1 nts.length c1, .slice o2 nrs.length c2], .bool nv] ∧ OwnM wn.heap.size X (.slice o1 nts.length c1) (.slice o2 nrs.length c2) nts nrs
        | 7 => ∃ o1 c1 o2 c2, v = .tuple #[.agg #[.slice o1 nts.length c1, .slice o2 nrs.length c2], .bool nv] ∧ OwnM wn.heap.size X (.slice o1 nts.length c1) (.slice o2 nrs.length c2) nts nrs
        | 8 => ∃ o1 c1 o2 c2, v = .agg #[.slice o1 nts.length c1, .slice o2 nrs.length c2] ∧ OwnM wn.heap.size X (.slice o1 nts.length c1) (.slice o2 nrs.length c2) nts nrs
        | 9 => v = .bool nv
        | 10 => ∃ n, v = .pointer (some ⟨n, 0, none⟩) ∧ wn.heap.size ≤ n ∧ X.heap[n]? = some (.cells #[.slice none 0 0, .slice none 0 0] 27 (0, 0))
        | 12 => v = .bool nv
        | _ => True := ⟨_, rfl⟩
      have hR : Hid _ := hR0
      clear hR0
      have RMO : ∀ x x', Below x.heap.size x x' → ∀ j v, R j v x → R j v x' := fun x x' hb j v => by
        rw [hR.out]
        match j with
        | 0 => exact id
        | 1 => exact fun ⟨t1, t2, e, r⟩ => ⟨t1, t2, e, (r.below hb).mono hb.size⟩
        | 2 => exact id
        | 3 => exact id
        | 4 => exact id
        | 5 => exact id
        | 6 => exact fun ⟨o1, c1, o2, c2, e, ow⟩ => ⟨o1, c1, o2, c2, e, ow.below hb⟩
        | 7 => exact fun ⟨o1, c1, o2, c2, e, ow⟩ => ⟨o1, c1, o2, c2, e, ow.below hb⟩
        | 8 => exact fun ⟨o1, c1, o2, c2, e, ow⟩ => ⟨o1, c1, o2, c2, e, ow.below hb⟩
        | 9 => exact id
        | 10 => exact fun ⟨n, e, hw, kk⟩ => ⟨n, e, hw, (hb.block _ (heap_lt kk)).trans kk⟩
        | 11 => exact id
        | 12 => exact id
        | _ + 13 => exact id
      go_cut [18, 19] (fun v18 v19 wx => ∃ (n : Nat) (o1 : Option Addr) (c1 : Nat) (o2 : Option Addr) (c2 : Nat), v18 = .pointer (some ⟨n, 0, none⟩) ∧ v19 = .bool nv ∧ wx.heap[n]? = some (.cells #[.slice o1 nts.length c1, .slice o2 nrs.length c2] 27 (0, 0)) ∧ OwnM wn.heap.size wx (.slice o1 nts.length c1) (.slice o2 nrs.length c2) nts nrs ∧ Below wn.heap.size wn wx ∧ wn.heap.size ≤ n)
      case first =>
        refine wp_region_inv (I := RXs _ 11 18 95 R _ wn) (by kernel_rfl) (RXs.start _ 11 18 95 _ _ wn) ?_ ?_
        · intro L a x i hL hD hi h
          obtain ⟨X, h⟩ := h
          have hin : i < 13 := (ready_mem hi).1
          have hnot := (ready_mem hi).2.1
          have hc : i = 0 ∨ i = 1 ∨ i = 2 ∨ i = 3 ∨ i = 4 ∨ i = 5 ∨ i = 6 ∨ i = 7 ∨ i = 8 ∨ i = 9 ∨ i = 10 ∨ i = 11 ∨ i = 12 := by omega
          rcases hc with rfl | rfl | rfl | rfl | rfl | rfl | rfl | rfl | rfl | rfl | rfl | rfl | rfl
          · have hn : L.getD 11 false = false := hD.no 11 [8, 7, 6, 1, 0] hnot (by kernel_rfl) rfl
            obtain rfl := h.pre hn
            refine wpOp_of rfl rfl ?_
            refine op_load 42 4 rfl w.heap.size (h.old 4 (by kernel_rfl)) _ 42 (0, 0) ((h.bel.block _ (heap_lt kA)).trans kA) _ Try.underlying42 rfl (by kernel_rfl) ?_
            exact h.val 0 88 _ x (by decide) (by kernel_rfl) (of_decide_eq_true (by kernel_rfl)) (by kernel_rfl) (by kernel_rfl) hn (Below.refl _ _) (by rw [hR.out]; exact rfl) (fun _ _ q => q)
          · have hn : L.getD 11 false = false := hD.no 11 [8, 7, 6, 1] hnot (by kernel_rfl) rfl
            obtain rfl := h.pre hn
            have q := h.rel 0 88 (ready_dep hi (by kernel_rfl)) (by kernel_rfl)
            rw [hR.out] at q
            have q' : a.tmps.getD 88 undef = .agg #[v0a, v0b] := q
            clear q
            refine wpOp_of rfl rfl ?_
            unfold Oper.wp
            go_simp
            go_at_call 20
            refine (toMemo_any _ _ ts0 rs0 _ hbts0 hbrs0 (((r0.mono y0).below h.bel).mono h.bel.size)).mono ?_
            rintro e x1 ⟨t1, t2, rfl, ot, hb⟩
            exact h.val 1 89 _ x1 (by decide) (by kernel_rfl) (of_decide_eq_true (by kernel_rfl)) (by kernel_rfl) (by kernel_rfl) hn hb (by rw [hR.out]; exact ⟨t1, t2, rfl, ot.reads⟩) (RMO _ _ hb)
          · refine wpOp_of rfl rfl (op_move 1 rfl ?_)
            exact h.put 2 90 _ (by decide) (by kernel_rfl) (of_decide_eq_true (by kernel_rfl)) (by kernel_rfl) (by kernel_rfl) (by decide) (by decide) (by rw [hR.out]; exact h.old 1 (by kernel_rfl))
          · refine wpOp_of rfl rfl (op_move 2 rfl ?_)
            exact h.put 3 91 _ (by decide) (by kernel_rfl) (of_decide_eq_true (by kernel_rfl)) (by kernel_rfl) (by kernel_rfl) (by decide) (by decide) (by rw [hR.out]; exact h.old 2 (by kernel_rfl))
          · have hn : L.getD 11 false = false := hD.no 11 [8, 7, 6, 5, 4] hnot (by kernel_rfl) rfl
            obtain rfl := h.pre hn
            refine wpOp_of rfl rfl ?_
            refine op_load 49 7 rfl (w.heap.size + 1) (h.old 7 (by kernel_rfl)) _ 49 (0, 0) ((h.bel.block _ (heap_lt kR)).trans kR) _ Try.underlying49 rfl (by kernel_rfl) ?_
            exact h.val 4 92 _ x (by decide) (by kernel_rfl) (of_decide_eq_true (by kernel_rfl)) (by kernel_rfl) (by kernel_rfl) hn (Below.refl _ _) (by rw [hR.out]; exact rfl) (fun _ _ q => q)
          · have hn : L.getD 11 false = false := hD.no 11 [8, 7, 6, 5] hnot (by kernel_rfl) rfl
            obtain rfl := h.pre hn
            have q := h.rel 4 92 (ready_dep hi (by kernel_rfl)) (by kernel_rfl)
            rw [hR.out] at q
            have q' : a.tmps.getD 92 undef = .agg #[.int .i64 rc3, .int .i64 rv3] := q
            clear q
            refine wpOp_of rfl rfl ?_
            unfold Oper.wp
            go_simp
            go_at_call 25
            refine (toReply_any rc3 rv3 _).mono ?_
            rintro e x1 ⟨rfl, hb⟩
            exact h.val 5 93 _ x1 (by decide) (by kernel_rfl) (of_decide_eq_true (by kernel_rfl)) (by kernel_rfl) (by kernel_rfl) hn hb (by rw [hR.out]; exact rfl) (RMO _ _ hb)
          · have hn : L.getD 11 false = false := hD.no 11 [8, 7, 6] hnot (by kernel_rfl) rfl
            obtain rfl := h.pre hn
            have q := h.rel 1 89 (ready_dep hi (by kernel_rfl)) (by kernel_rfl)
            rw [hR.out] at q
            obtain ⟨t1, t2, e1, rt⟩ := q
            have q2 := h.rel 2 90 (ready_dep hi (by kernel_rfl)) (by kernel_rfl)
            rw [hR.out] at q2
            have q2' : a.tmps.getD 90 undef = .int .i64 a1 := q2
            clear q2
            have q3 := h.rel 3 91 (ready_dep hi (by kernel_rfl)) (by kernel_rfl)
            rw [hR.out] at q3
            have q3' : a.tmps.getD 91 undef = .int .i64 a2 := q3
            clear q3
            have q4 := h.rel 5 93 (ready_dep hi (by kernel_rfl)) (by kernel_rfl)
            rw [hR.out] at q4
            have q4' : a.tmps.getD 93 undef = .agg #[.int .i64 rc3, .int .i64 rv3] := q4
            clear q4
            refine wpOp_of rfl rfl ?_
            unfold Oper.wp
            go_simp
            go_at_call 10
            refine (implNoted_any _ _ ts0 rs0 a1 a2 rc3 rv3 _ rt).mono ?_
            rw [HFD.out]
            simp only
            rintro e x1 ⟨s1, s2, rfl, os, hb⟩
            obtain ⟨o1, c1, o2, c2, rfl, rfl⟩ := os.forms
            exact h.val 6 94 _ x1 (by decide) (by kernel_rfl) (of_decide_eq_true (by kernel_rfl)) (by kernel_rfl) (by kernel_rfl) hn hb (by rw [hR.out]; exact ⟨o1, c1, o2, c2, rfl, os.mono h.bel.size⟩) (RMO _ _ hb)
          · have q := h.rel 6 94 (ready_dep hi (by kernel_rfl)) (by kernel_rfl)
            rw [hR.out] at q
            refine wpOp_of rfl rfl (op_move 94 rfl ?_)
            exact h.put 7 87 _ (by decide) (by kernel_rfl) (of_decide_eq_true (by kernel_rfl)) (by kernel_rfl) (by kernel_rfl) (by decide) (by decide) (by rw [hR.out]; exact q)
          · have hn : L.getD 11 false = false := hD.no 11 [8] hnot (by kernel_rfl) rfl
            obtain rfl := h.pre hn
            have q := h.rel 7 87 (ready_dep hi (by kernel_rfl)) (by kernel_rfl)
            rw [hR.out] at q
            obtain ⟨o1, c1, o2, c2, e25, ow⟩ := q
            refine wpOp_of rfl rfl ?_
            unfold Oper.wp
            go_simp
            exact h.val 8 95 _ x (by decide) (by kernel_rfl) (of_decide_eq_true (by kernel_rfl)) (by kernel_rfl) (by kernel_rfl) hn (Below.refl _ _) (by rw [hR.out]; exact ⟨o1, c1, o2, c2, rfl, ow⟩) (fun _ _ q => q)
          · have q := h.rel 7 87 (ready_dep hi (by kernel_rfl)) (by kernel_rfl)
            rw [hR.out] at q
            obtain ⟨o1, c1, o2, c2, e25, ow⟩ := q
            refine wpOp_of rfl rfl ?_
            unfold Oper.wp
            go_simp
            exact h.put 9 96 _ (by decide) (by kernel_rfl) (of_decide_eq_true (by kernel_rfl)) (by kernel_rfl) (by kernel_rfl) (by decide) (by decide) (by rw [hR.out]; exact rfl)
          · have hn : L.getD 11 false = false := hD.no 11 [10] hnot (by kernel_rfl) rfl
            obtain rfl := h.pre hn
            refine wpOp_of rfl rfl ?_
            unfold Oper.wp
            go_simp
            have hb : Below x.heap.size x (x.alloc (.cells #[.slice none 0 0, .slice none 0 0] 27)) := bw_alloc (Below.refl _ _)
            exact h.val 10 18 _ _ (by decide) (by kernel_rfl) (of_decide_eq_true (by kernel_rfl)) (by kernel_rfl) (by kernel_rfl) hn hb (by rw [hR.out]; exact ⟨_, rfl, h.bel.size, heap_alloc_new _ _⟩) (RMO _ _ hb)
          · have hn := not_done hnot
            obtain rfl := h.pre hn
            have q0 := h.rel 10 18 (ready_dep hi (by kernel_rfl)) (by kernel_rfl)
            rw [hR.out] at q0
            have q1 := h.rel 8 95 (ready_dep hi (by kernel_rfl)) (by kernel_rfl)
            rw [hR.out] at q1
            obtain ⟨n, eB, hwn, kB⟩ := q0
            obtain ⟨o1, c1, o2, c2, eV, ow⟩ := q1
            obtain ⟨zs, hzs⟩ : ∃ zs : Array Value, zs = #[.slice o1 nts.length c1, .slice o2 nrs.length c2] := ⟨_, rfl⟩
            rw [← hzs] at eV
            have hz1 : (Try.prog.info? 27).map (·.size) = some zs.size := by rw [hzs]; kernel_rfl
            have hz2 : (#[.slice none 0 0, .slice none 0 0] : Array Value).size = zs.size := by rw [hzs]; rfl
            have hz3 : zs.all (·.oneCell') = true := by rw [hzs]; simp [Value.oneCell']
            refine wpOp_of rfl rfl (op_store 27 18 95 rfl rfl n eB zs eV #[.slice none 0 0, .slice none 0 0] 27 kB hz1 hz2 hz3 ?_)
            exact h.store (by rw [hL]; exact of_decide_eq_true (by kernel_rfl)) hn (by kernel_rfl) eB eV
          · have q := h.rel 9 96 (ready_dep hi (by kernel_rfl)) (by kernel_rfl)
            rw [hR.out] at q
            refine wpOp_of rfl rfl (op_assign 96 rfl ?_)
            exact h.put 12 19 _ (by decide) (by kernel_rfl) (of_decide_eq_true (by kernel_rfl)) (by kernel_rfl) (by kernel_rfl) (by decide) (by decide) (by rw [hR.out]; exact q)
        · intro L a x hL hD hr h
          obtain ⟨X, h⟩ := h
          have hall := all_done hL hr (by kernel_rfl)
          obtain ⟨n, zs, eB, eV, rfl⟩ := h.fin (hall 11 (of_decide_eq_true (by kernel_rfl)))
          have qB := h.rel 10 18 (hall 10 (of_decide_eq_true (by kernel_rfl))) (by kernel_rfl)
          rw [hR.out] at qB
          have qV := h.rel 8 95 (hall 8 (of_decide_eq_true (by kernel_rfl))) (by kernel_rfl)
          rw [hR.out] at qV
          have qL := h.rel 12 19 (hall 12 (of_decide_eq_true (by kernel_rfl))) (by kernel_rfl)
          rw [hR.out] at qL
          obtain ⟨n', eB', hwn, kB⟩ := qB
          obtain ⟨o1, c1, o2, c2, eV', ow⟩ := qV
          have en : (Value.pointer (some ⟨n, 0, none⟩)) = .pointer (some ⟨n', 0, none⟩) := eB.symm.trans eB'
          have ez : Value.agg zs = .agg #[.slice o1 nts.length c1, .slice o2 nrs.length c2] := eV.symm.trans eV'
          simp only [Value.pointer.injEq, Option.some.injEq, Addr.mk.injEq, and_true] at en
          simp only [Value.agg.injEq] at ez
          subst en ez
          obtain ⟨w18, hw18⟩ : ∃ z, z = Value.pointer (some ⟨n, 0, none⟩) := ⟨_, rfl⟩
          obtain ⟨w19, hw19⟩ : ∃ z, z = Value.bool nv := ⟨_, rfl⟩
          have ew18 : a.tmps.getD 18 undef = w18 := by rw [hw18]; exact eB
          have ew19 : a.tmps.getD 19 undef = w19 := by rw [hw19]; exact qL
          have HEND : Hid (∃ (n0 : Nat) (p1 : Option Addr) (d1 : Nat) (p2 : Option Addr) (d2 : Nat), w18 = .pointer (some ⟨n0, 0, none⟩) ∧ w19 = .bool nv ∧ (X.setRow n #[.slice o1 nts.length c1, .slice o2 nrs.length c2]).heap[n0]? = some (.cells #[.slice p1 nts.length d1, .slice p2 nrs.length d2] 27 (0, 0)) ∧ OwnM wn.heap.size (X.setRow n #[.slice o1 nts.length c1, .slice o2 nrs.length c2]) (.slice p1 nts.length d1) (.slice p2 nrs.length d2) nts nrs ∧ Below wn.heap.size wn (X.setRow n #[.slice o1 nts.length c1, .slice o2 nrs.length c2]) ∧ wn.heap.size ≤ n0) :=
            ⟨n, o1, c1, o2, c2, hw18, hw19, setRow_row kB, ow.box kB row_upto, h.bel.trans (row_upto.toBelow h.bel.size hwn), hwn⟩
          clear qL eB' eV' ow kB hw18 hw19
          have hfr := h.frame [18, 19, 87, 88, 89, 90, 91, 92, 93, 94, 95, 96] (by kernel_rfl)
          obtain ⟨f, hf⟩ : ∃ f : Nat → Value, (fun s => a.tmps.getD s undef) = f := ⟨_, rfl⟩
          rw [hf] at hfr
          have f18 : f 18 = w18 := by rw [← hf]; exact ew18
          have f19 : f 19 = w19 := by rw [← hf]; exact ew19
          clear hf h hall hr hD hL eB eV ew18 ew19
          subst hfr
          simp only [Act.puts, f18, f19, Act.put, List.setIfInBounds_toArray, List.set_cons_succ, List.set_cons_zero]
          generalize f 87 = ux87
          generalize f 88 = ux88
          generalize f 89 = ux89
          generalize f 90 = ux90
          generalize f 91 = ux91
          generalize f 92 = ux92
          generalize f 93 = ux93
          generalize f 94 = ux94
          generalize f 95 = ux95
          generalize f 96 = ux96
          clear f18 f19 f
          show Exit.then _ _ _ _ _
          go_wp2_with fail
          go_meet
          exact HEND.out
      case rest =>
        obtain ⟨nH, oh1, ch1, oh2, ch2, rfl, rfl, kH, oh, b, hnH⟩ := hcut
        rename World => wp
        replace d := bw_call d b
        replace kA := (b.block _ sA).trans kA
        replace sA := Nat.lt_of_lt_of_le sA b.size
        replace kR := (b.block _ sR).trans kR
        replace sR := Nat.lt_of_lt_of_le sR b.size
        replace r0 := r0.below (b.mono y0)
        replace y0 := Nat.le_trans y0 b.size
        replace kB := (b.block _ sB).trans kB
        replace sB := Nat.lt_of_lt_of_le sB b.size
        replace sr := sr.below (b.mono ys)
        replace ys := Nat.le_trans ys b.size
        replace kG2 := (b.block _ sG2).trans kG2
        replace sG2 := Nat.lt_of_lt_of_le sG2 b.size
        replace ogm := ogm.below b
        clear b
        have sH := heap_lt kH
        have pkH0 := at_cell kH 0
        have pkH1 := at_cell kH 1
        have pkB0 := at_cell kB 0
        have pkB1 := at_cell kB 1
        go_wp2_with fail
        clear pkH0 pkH1
        clear pkB0 pkB1
        refine (eqMemo_any (.slice oh1 nts.length ch1) (.slice oh2 nrs.length ch2) (.slice os1 nts.length cs1) (.slice os2 nrs.length cs2) nts nrs nts nrs _ oh.reads (sr.mono ys)).mono ?_
        rintro e wq ⟨rfl, b⟩
        rw [show (decide (nts = nts) && decide (nrs = nrs)) = true by simp]
        replace d := bw_call d b
        replace kA := (b.block _ sA).trans kA
        replace sA := Nat.lt_of_lt_of_le sA b.size
        replace kR := (b.block _ sR).trans kR
        replace sR := Nat.lt_of_lt_of_le sR b.size
        replace r0 := r0.below (b.mono y0)
        replace y0 := Nat.le_trans y0 b.size
        replace kB := (b.block _ sB).trans kB
        replace sB := Nat.lt_of_lt_of_le sB b.size
        replace sr := sr.below (b.mono ys)
        replace ys := Nat.le_trans ys b.size
        replace kG2 := (b.block _ sG2).trans kG2
        replace sG2 := Nat.lt_of_lt_of_le sG2 b.size
        replace ogm := ogm.below b
        replace kH := (b.block _ sH).trans kH
        replace sH := Nat.lt_of_lt_of_le sH b.size
        replace oh := oh.below b
        clear b
        have pkG20 := at_cell kG2 0
        have pkG21 := at_cell kG2 1
        go_wp2_with fail
        clear pkG20 pkG21
        refine (heldMemo_any (.slice og1 nts.length cg1) (.slice og2 nrs.length cg2) nts.length nrs.length 1 _ (by omega) (by omega) hlnts hlnrs ogm.reads).mono ?_
        rintro e wr ⟨rfl, b⟩
        replace d := bw_call d b
        replace kA := (b.block _ sA).trans kA
        replace sA := Nat.lt_of_lt_of_le sA b.size
        replace kR := (b.block _ sR).trans kR
        replace sR := Nat.lt_of_lt_of_le sR b.size
        replace r0 := r0.below (b.mono y0)
        replace y0 := Nat.le_trans y0 b.size
        replace kB := (b.block _ sB).trans kB
        replace sB := Nat.lt_of_lt_of_le sB b.size
        replace sr := sr.below (b.mono ys)
        replace ys := Nat.le_trans ys b.size
        replace kG2 := (b.block _ sG2).trans kG2
        replace sG2 := Nat.lt_of_lt_of_le sG2 b.size
        replace ogm := ogm.below b
        replace kH := (b.block _ sH).trans kH
        replace sH := Nat.lt_of_lt_of_le sH b.size
        replace oh := oh.below b
        clear b
        go_wp2_with fail
        go_ret
        exact ⟨rfl, d⟩

set_option maxRecDepth 100000 in
theorem lifted (os : Os) (started : os.Started) (H : Type) (enc : TypeId × Value → H) :
    ReturnsInHanded {} Try.checked os 7 .any (Rows.fnExactNotedSpec.pre6 enc Try.prog Try.f7 Rows.fnExactNotedRow.domain false) (Rows.fnExactNotedSpec.post enc Try.prog Try.f7 false true false false) := by
  refine returnsInHanded_of_change (C := Try.checked) own started (by kernel_rfl) Try.func7
    (ChangeSpec.witness6 (enc := enc) (C := Try.checked) false ⟨#[], #[.agg #[.slice none 0 0, .slice none 0 0], .int .i64 0, .int .i64 0, .agg #[.int .i64 0, .int .i64 0]], []⟩ 8 (by kernel_rfl) (by kernel_rfl) (by kernel_rfl) (by kernel_rfl)) ?_
  intro W base args ds gs before hval0 hW hcnd _
  have hval : ∀ (j : Nat) t v, Try.f7.params[j]? = some t → args[j]? = some v → Value.okWide Try.prog W .any base t v := hval0
  have hW' := hW
  obtain ⟨p, q, hA0, hV, rfl, hfz, hnd⟩ := hW
  have hA : DataW.TrodAll enc Try.prog W 0 (fun _ => true) true Try.f7.params.toList args.toList ds p := hA0
  rw [Try.params7] at hA hval
  obtain ⟨v0, vs0, d0, ds0, p0, q0, hargs, rfl, rfl, h0, rr0⟩ := trodAll_cons hA
  obtain ⟨v1, vs1, d1, ds1, p1, q1, rfl, rfl, rfl, h1, rr1⟩ := trodAll_cons rr0
  obtain ⟨v2, vs2, d2, ds2, p2, q2, rfl, rfl, rfl, h2, rr2⟩ := trodAll_cons rr1
  obtain ⟨v3, vs3, d3, ds3, p3, q3, rfl, rfl, rfl, h3, rr3⟩ := trodAll_cons rr2
  obtain ⟨rfl, rfl, rfl⟩ := trodAll_nil rr3
  obtain rfl : args = #[v0, v1, v2, v3] := by cases args; simp_all
  obtain ⟨rfl, rfl⟩ := trodVars_none hV
  have kk0 := h0
  have lt0 : ∀ x ∈ p0, x.block < W.heap.size := by obtain ⟨fuel, hfuel⟩ := kk0; exact DataW.trod_lt fuel _ _ _ hfuel
  obtain ⟨v0a, v0b, ts0, rs0, rfl, w0⟩ := open_memo (hval 0 42 v0 rfl rfl) h0
  have kk1 := h1
  have lt1 : ∀ x ∈ p1, x.block < W.heap.size := by obtain ⟨fuel, hfuel⟩ := kk1; exact DataW.trod_lt fuel _ _ _ hfuel
  obtain ⟨a1, rfl, w1⟩ := open_i64 (hval 1 2 v1 rfl rfl) h1
  have kk2 := h2
  have lt2 : ∀ x ∈ p2, x.block < W.heap.size := by obtain ⟨fuel, hfuel⟩ := kk2; exact DataW.trod_lt fuel _ _ _ hfuel
  obtain ⟨a2, rfl, w2⟩ := open_i64 (hval 2 2 v2 rfl rfl) h2
  have kk3 := h3
  have lt3 : ∀ x ∈ p3, x.block < W.heap.size := by obtain ⟨fuel, hfuel⟩ := kk3; exact DataW.trod_lt fuel _ _ _ hfuel
  obtain ⟨rc3, rv3, rfl, fc3, fv3⟩ := open_reply (hval 3 49 v3 rfl rfl) h3
  clear hA0 hval0
  refine (walk v0a v0b ts0 rs0 a1 a2 rc3 rv3 W w0 w1 w2 fc3 fv3).mono fun e W' ⟨he, bel⟩ => ?_
  subst he
  exact ⟨_, rfl, _, _, _, [], _, [], hW', trodAll_mk1 (shut_bool Try.underlying4 _), (trodAll_cons_mk (Below.trod laidOut (by kernel_rfl) (of_decide_eq_true (by kernel_rfl)) kk0 bel lt0) (trodAll_cons_mk (Below.trod laidOut (by kernel_rfl) (of_decide_eq_true (by kernel_rfl)) kk1 bel lt1) (trodAll_cons_mk (Below.trod laidOut (by kernel_rfl) (of_decide_eq_true (by kernel_rfl)) kk2 bel lt2) (trodAll_cons_mk (Below.trod laidOut (by kernel_rfl) (of_decide_eq_true (by kernel_rfl)) kk3 bel lt3) trodAll_mk0)))), rfl, bel.frame _, fun h => by cases h⟩

theorem over : Rows.fnExactNotedRow.holds Try.pinned (OpenSpec.ofChange Rows.fnExactNotedSpec) :=
  OpenClaim.holds_of_wide 7 Try.f7 rfl rfl rfl rfl rfl rfl rfl ⟨rfl, rfl, rfl, rfl, rfl⟩ rfl rfl rfl rfl rfl (by kernel_rfl) Try.func7 (by kernel_rfl)
    (of_decide_eq_true (by kernel_rfl)) (by unfold Func.isWrapper; first | (rw [if_pos (by decide +kernel)]; kernel_rfl) | (rw [if_neg (by decide +kernel)]; exact ⟨rfl, rfl⟩))
    (fun os started H enc _ => lifted os started H enc)

theorem proved : Rows.FnExactNotedSaid :=
  over
#print axioms proved
end Go.Proofs.Ytpmoefagpglddaa.fnExactNoted
