/-
  The law FnExactDidPlain answers true at every input that the row speaks of, its arguments and the named variables read afterwards as before; the listed variables are tied to the program's text; the walk goes over the callees' contracts.
-/
import Derived.Test.YtcefcglonooelaaGreatDoorRows
import Derived.Test.YtcefcglonooelaaGreatDoorTie
import Derived.Test.YtcefcglonooelaaGreatDoorCards
import Derived.SevenTiedAt
import Derived.JoinedOf
import Derived.OpenVars
import Derived.WalkKit
import Derived.ProofKit
import Derived.OpenShut
import Derived.ChangeOld
import Derived.Below
import Derived.Carry
import Derived.Test.YtcefcglonooelaaGreatDoorM04
import Derived.Test.YtcefcglonooelaaGreatDoorM05
import Derived.Test.YtcefcglonooelaaGreatDoorM06
import Derived.Test.YtcefcglonooelaaGreatDoorM11
import Derived.Test.YtcefcglonooelaaGreatDoorM12
import Derived.Test.YtcefcglonooelaaGreatDoorM19
import Derived.Test.YtcefcglonooelaaGreatDoorM29
namespace Go.Proofs.YtcefcglonooelaaGreatDoor.fnExactDidPlain
open Go Go.ChangeShapes Go.WideShapes Go.ChangeAt Go.RowKit
set_option linter.unusedVariables false

theorem own : ownKnob Tryz.prog.godebug = none := by kernel_rfl
theorem laidOut : laidOutB Tryz.prog = true := by kernel_rfl
theorem vars_length {H : Type} {enc : TypeId × Value → H} {P : Program} {w : World} {sp : Nat → Bool} : ∀ {ns : List String} {gs : List (DataW H)} {ps : List MemPlace}, DataW.TrodVars enc P w sp ns gs ps → gs.length = ns.length
  | [], [], _, _ => rfl
  | [], _ :: _, _, h => h.elim
  | _ :: _, [], _, h => h.elim
  | n :: ns, d :: ds, _, h => by
    obtain ⟨_, _, _, _, _, _, _, _, _, _, h', _⟩ := h
    simp [vars_length h']

set_option maxRecDepth 100000 in
set_option maxHeartbeats 8000000 in
theorem walk (v0 : Value) (bs0 : List Pk) (ok1 : Int) (on1 oo1 : ByteArray) (oa1 ov1 oe1 : Int) (a2 : Int) (w : World) (w0 : ReadsK w.heap.size w v0 bs0) (z0 : ∀ b ∈ bs0, b.nm.size ≤ maxLen) (u1 : on1.size ≤ maxLen) (x1 : oo1.size ≤ maxLen) (fk1 : I64 ok1) (fa1 : I64 oa1) (fv1 : I64 ov1) (fe1 : I64 oe1) (w2 : (Lit.int .i64 a2).wf = true) (ad : Nat → Addr) (hvs : Vars w ad) :
    Calls Tryz.prog 6 #[v0, .agg #[.int .i64 ok1, .string on1, .string oo1, .int .i64 oa1, .int .i64 ov1, .int .i64 oe1], .int .i64 a2] w fun e w' => e = .returned (.bool true) ∧ Below w.heap.size w w' := by
  have r0 := w0
  obtain ⟨o0, c0, rfl⟩ := w0.row.form
  obtain ⟨WA, hWA, kO, d, zA⟩ := box1 w #[.int .i64 ok1, .string on1, .string oo1, .int .i64 oa1, .int .i64 ov1, .int .i64 oe1] 54
  have sO : w.heap.size < WA.heap.size := by omega
  have y0 := d.size
  replace r0 := r0.below d
  have HWA : Hid (WA = _) := hWA
  have HN0 : Hid (∀ b ∈ bs0, b.nm.size ≤ maxLen) := fun b hb => z0 b hb
  have HV : Hid (Vars w ad) := by first | exact hvs | exact hvs.v
  clear hWA zA w0 z0 w2 hvs
  obtain ⟨⟨D1, rc, rv⟩, hD⟩ : ∃ x, didPlain (bs0.map Pk.pv) ⟨ok1, on1, oo1, oa1, ov1, oe1⟩ a2 = x := ⟨_, rfl⟩
  have HD : Hid (didPlain (bs0.map Pk.pv) ⟨ok1, on1, oo1, oa1, ov1, oe1⟩ a2 = (D1, (rc, rv))) := hD
  clear hD
  go_enter Tryz.func6, Tryz.ntmps6
  go_wp2_with fail
  rw [← HWA.out]
  clear HWA
  refine (szPlains2_any _ bs0 1048576 _ (by omega) (by omega) HN0.out (r0.mono y0)).mono ?_
  rintro e wb ⟨q, rfl, hq, b⟩
  replace d := bw_call d b
  replace kO := (b.block _ sO).trans kO
  replace sO := Nat.lt_of_lt_of_le sO b.size
  replace r0 := r0.below (b.mono y0)
  replace y0 := Nat.le_trans y0 b.size
  clear b
  rcases hq with rfl | ⟨hq0, hq1, hl0, hall, htot⟩
  · go_wp2_with fail
    go_ret
    exact ⟨rfl, d⟩
  have HR0 : Hid (∀ b ∈ bs0, b.rs.length ≤ 1048576) := fun b hb => (hall b hb).2
  have HTOT : Hid (totK bs0 ≤ 1048576) := by rw [Hid]; omega
  clear hall htot
  have pkO0 := at_cell kO 0
  have pkO1 := at_cell kO 1
  have pkO2 := at_cell kO 2
  have pkO3 := at_cell kO 3
  have pkO4 := at_cell kO 4
  have pkO5 := at_cell kO 5
  go_wp2_with fail
  clear pkO0 pkO1 pkO2 pkO3 pkO4 pkO5
  refine (szOp_any ok1 on1 oo1 oa1 ov1 oe1 q _ u1 x1 hq0 (by omega)).mono ?_
  rintro e wd ⟨q2, rfl, hq2, b⟩
  replace d := bw_call d b
  replace kO := (b.block _ sO).trans kO
  replace sO := Nat.lt_of_lt_of_le sO b.size
  replace r0 := r0.below (b.mono y0)
  replace y0 := Nat.le_trans y0 b.size
  clear b
  rcases hq2 with rfl | ⟨hq3, hq4, hb1, hb2⟩
  · go_wp2_with fail
    go_ret
    exact ⟨rfl, d⟩
  have HFX0 : Hid (I64 ok1 ∧ I64 oa1 ∧ I64 ov1 ∧ I64 oe1) := ⟨fk1, fa1, fv1, fe1⟩
  go_upto_region 8 with fail
  obtain ⟨R, hR0⟩ : ∃ R : Nat → Value → World → Prop, R = fun j v X => match j with
    | 0 => v = .slice o0 bs0.length c0
    | 1 => ∃ (g : Nat) (ts : List Pk), v = .slice (some ⟨g, 0, none⟩) bs0.length bs0.length ∧ ts.map bareK = bs0.map bareK ∧ ReadsK X.heap.size X (.slice (some ⟨g, 0, none⟩) bs0.length bs0.length) ts
    | 2 => v = .agg #[.int .i64 ok1, .string on1, .string oo1, .int .i64 oa1, .int .i64 ov1, .int .i64 oe1]
    | 3 => v = .agg #[.int .i64 ok1, .string on1, .string oo1, .int .i64 oa1, .int .i64 ov1, .int .i64 oe1]
    | 4 => v = .int .i64 a2
    | 5 => ∃ ov cv ms, v = .tuple #[.slice ov (List.length ms) cv, .agg #[.int .i64 rc, .int .i64 rv]] ∧ ms.map Pk.pv = D1 ∧ OwnK wd.heap.size X (.slice ov ms.length cv) ms ∧ ApartK ms
    | 6 => ∃ ov cv ms, v = .tuple #[.slice ov (List.length ms) cv, .agg #[.int .i64 rc, .int .i64 rv]] ∧ ms.map Pk.pv = D1 ∧ OwnK wd.heap.size X (.slice ov ms.length cv) ms ∧ ApartK ms
    | 7 => ∃ ov cv ms, v = .slice ov (List.length ms) cv ∧ ms.map Pk.pv = D1 ∧ OwnK wd.heap.size X (.slice ov ms.length cv) ms ∧ ApartK ms
    | 8 => v = .agg #[.int .i64 rc, .int .i64 rv]
    | 9 => ∃ n, v = .pointer (some ⟨n, 0, none⟩) ∧ wd.heap.size ≤ n ∧ X.heap[n]? = some (.cells #[.int .i64 0, .int .i64 0] 30 (0, 0))
    | 10 => ∃ ov cv ms, v = .slice ov (List.length ms) cv ∧ ms.map Pk.pv = D1 ∧ OwnK wd.heap.size X (.slice ov ms.length cv) ms ∧ ApartK ms
    | _ => True := ⟨_, rfl⟩
  have hR : Hid _ := hR0
  clear hR0
  have RMO : ∀ x x', Below x.heap.size x x' → ∀ j v, R j v x → R j v x' := fun x x' hb j v => by
    rw [hR.out]
    match j with
    | 0 => exact id
    | 1 => exact fun ⟨g, ts, e, hp, r⟩ => ⟨g, ts, e, hp, (r.below hb).mono hb.size⟩
    | 2 => exact id
    | 3 => exact id
    | 4 => exact id
    | 5 => exact fun ⟨ov, cv, ms, e, hm, ow, ap⟩ => ⟨ov, cv, ms, e, hm, ow.below hb, ap⟩
    | 6 => exact fun ⟨ov, cv, ms, e, hm, ow, ap⟩ => ⟨ov, cv, ms, e, hm, ow.below hb, ap⟩
    | 7 => exact fun ⟨ov, cv, ms, e, hm, ow, ap⟩ => ⟨ov, cv, ms, e, hm, ow.below hb, ap⟩
    | 8 => exact id
    | 9 => exact fun ⟨n, e, hw, kk⟩ => ⟨n, e, hw, (hb.block _ (heap_lt kk)).trans kk⟩
    | 10 => exact fun ⟨ov, cv, ms, e, hm, ow, ap⟩ => ⟨ov, cv, ms, e, hm, ow.below hb, ap⟩
    | 11 => exact id
    | _ + 12 => exact id
  go_cut [8, 9] (fun v8 v9 wx => ∃ (n : Nat) (ov : Option Addr) (cv : Nat) (ms : List Pk), v8 = .slice ov ms.length cv ∧ v9 = .pointer (some ⟨n, 0, none⟩) ∧ wx.heap[n]? = some (.cells #[.int .i64 rc, .int .i64 rv] 30 (0, 0)) ∧ ms.map Pk.pv = D1 ∧ OwnK wd.heap.size wx (.slice ov ms.length cv) ms ∧ ApartK ms ∧ Below wd.heap.size wd wx ∧ wd.heap.size ≤ n)
  case first =>
    refine wp_region_inv (I := RXs _ 11 9 36 R _ wd) (by kernel_rfl) (RXs.start _ 11 9 36 _ _ wd) ?_ ?_
    · intro L a x i hL hD hi h
      obtain ⟨X, h⟩ := h
      have hin : i < 12 := (ready_mem hi).1
      have hnot := (ready_mem hi).2.1
      have hc : i = 0 ∨ i = 1 ∨ i = 2 ∨ i = 3 ∨ i = 4 ∨ i = 5 ∨ i = 6 ∨ i = 7 ∨ i = 8 ∨ i = 9 ∨ i = 10 ∨ i = 11 := by omega
      rcases hc with rfl | rfl | rfl | rfl | rfl | rfl | rfl | rfl | rfl | rfl | rfl | rfl
      · refine wpOp_of rfl rfl (op_move 0 rfl ?_)
        exact h.put 0 29 _ (by decide) (by kernel_rfl) (of_decide_eq_true (by kernel_rfl)) (by kernel_rfl) (by kernel_rfl) (by decide) (by decide) (by rw [hR.out]; exact h.old 0 (by kernel_rfl))
      · have hn : L.getD 11 false = false := hD.no 11 [8, 6, 5, 1] hnot (by kernel_rfl) rfl
        obtain rfl := h.pre hn
        have q := h.rel 0 29 (ready_dep hi (by kernel_rfl)) (by kernel_rfl)
        rw [hR.out] at q
        have q' : a.tmps.getD 29 undef = .slice o0 bs0.length c0 := q
        clear q
        refine wpOp_of rfl rfl ?_
        unfold Oper.wp
        go_simp
        go_at_call 26
        refine (toPlains_any _ bs0 _ hl0 HR0.out (((r0.mono y0).below h.bel).mono h.bel.size)).mono ?_
        rintro e x1 ⟨ts, rfl, hpt, ot, hb⟩
        obtain ⟨g, hg⟩ : ∃ g : Nat, x.heap.size = g := ⟨_, rfl⟩
        have HPT : Hid _ := hpt
        clear hpt
        exact h.val 1 30 _ x1 (by decide) (by kernel_rfl) (of_decide_eq_true (by kernel_rfl)) (by kernel_rfl) (by kernel_rfl) hn hb (by rw [hR.out]; exact ⟨x.heap.size, ts, rfl, HPT.out, ot.reads⟩) (RMO _ _ hb)
      · have hn : L.getD 11 false = false := hD.no 11 [8, 6, 5, 3, 2] hnot (by kernel_rfl) rfl
        obtain rfl := h.pre hn
        refine wpOp_of rfl rfl ?_
        refine op_load 54 4 rfl w.heap.size (h.old 4 (by kernel_rfl)) _ 54 (0, 0) ((h.bel.block _ (heap_lt kO)).trans kO) _ Tryz.underlying54 rfl (by kernel_rfl) ?_
        exact h.val 2 31 _ x (by decide) (by kernel_rfl) (of_decide_eq_true (by kernel_rfl)) (by kernel_rfl) (by kernel_rfl) hn (Below.refl _ _) (by rw [hR.out]; exact rfl) (fun _ _ q => q)
      · have hn : L.getD 11 false = false := hD.no 11 [8, 6, 5, 3] hnot (by kernel_rfl) rfl
        obtain rfl := h.pre hn
        have q := h.rel 2 31 (ready_dep hi (by kernel_rfl)) (by kernel_rfl)
        rw [hR.out] at q
        have q' : a.tmps.getD 31 undef = .agg #[.int .i64 ok1, .string on1, .string oo1, .int .i64 oa1, .int .i64 ov1, .int .i64 oe1] := q
        clear q
        refine wpOp_of rfl rfl ?_
        unfold Oper.wp
        go_simp
        go_at_call 27
        refine (toOp_any ok1 on1 oo1 oa1 ov1 oe1 _).mono ?_
        rintro e x1 ⟨rfl, hb⟩
        exact h.val 3 32 _ x1 (by decide) (by kernel_rfl) (of_decide_eq_true (by kernel_rfl)) (by kernel_rfl) (by kernel_rfl) hn hb (by rw [hR.out]; exact rfl) (RMO _ _ hb)
      · refine wpOp_of rfl rfl (op_move 2 rfl ?_)
        exact h.put 4 33 _ (by decide) (by kernel_rfl) (of_decide_eq_true (by kernel_rfl)) (by kernel_rfl) (by kernel_rfl) (by decide) (by decide) (by rw [hR.out]; exact h.old 2 (by kernel_rfl))
      · have hn : L.getD 11 false = false := hD.no 11 [8, 6, 5] hnot (by kernel_rfl) rfl
        obtain rfl := h.pre hn
        have q := h.rel 1 30 (ready_dep hi (by kernel_rfl)) (by kernel_rfl)
        rw [hR.out] at q
        obtain ⟨g, ts, e1, hpt, rt⟩ := q
        have HPT : Hid _ := hpt
        clear hpt
        have q3 := h.rel 3 32 (ready_dep hi (by kernel_rfl)) (by kernel_rfl)
        rw [hR.out] at q3
        have q3' : a.tmps.getD 32 undef = .agg #[.int .i64 ok1, .string on1, .string oo1, .int .i64 oa1, .int .i64 ov1, .int .i64 oe1] := q3
        clear q3
        have q4 := h.rel 4 33 (ready_dep hi (by kernel_rfl)) (by kernel_rfl)
        rw [hR.out] at q4
        have q4' : a.tmps.getD 33 undef = .int .i64 a2 := q4
        clear q4
        refine wpOp_of rfl rfl ?_
        unfold Oper.wp
        go_simp
        go_at_call 11
        refine (specDidPlain_any _ ts ok1 on1 oo1 oa1 ov1 oe1 a2 _ (bare_all (fun nm _ => nm.size ≤ maxLen) HPT.out HN0.out) u1 x1 rt).mono ?_
        unfold DidKP
        rw [pv_of_bare HPT.out, HD.out]
        rintro e x1 ⟨vd, md, rfl, hmd, od, apd, hb⟩
        obtain ⟨ov, cv, rfl⟩ := own_slice od.row
        have HMD : Hid _ := hmd
        clear hmd
        exact h.val 5 34 _ x1 (by decide) (by kernel_rfl) (of_decide_eq_true (by kernel_rfl)) (by kernel_rfl) (by kernel_rfl) hn hb (by rw [hR.out]; exact ⟨ov, cv, md, rfl, HMD.out, od.mono h.bel.size, apd⟩) (RMO _ _ hb)
      · have q := h.rel 5 34 (ready_dep hi (by kernel_rfl)) (by kernel_rfl)
        rw [hR.out] at q
        refine wpOp_of rfl rfl (op_move 34 rfl ?_)
        exact h.put 6 28 _ (by decide) (by kernel_rfl) (of_decide_eq_true (by kernel_rfl)) (by kernel_rfl) (by kernel_rfl) (by decide) (by decide) (by rw [hR.out]; exact q)
      · have q := h.rel 6 28 (ready_dep hi (by kernel_rfl)) (by kernel_rfl)
        rw [hR.out] at q
        obtain ⟨ov, cv, ms, e28, hmm, ow, ap⟩ := q
        have HMM : Hid _ := And.intro hmm (And.intro ow ap)
        clear hmm ow ap
        refine wpOp_of rfl rfl ?_
        unfold Oper.wp
        go_simp
        exact h.put 7 35 _ (by decide) (by kernel_rfl) (of_decide_eq_true (by kernel_rfl)) (by kernel_rfl) (by kernel_rfl) (by decide) (by decide) (by rw [hR.out]; exact ⟨ov, cv, ms, rfl, HMM.out⟩)
      · have hn : L.getD 11 false = false := hD.no 11 [8] hnot (by kernel_rfl) rfl
        obtain rfl := h.pre hn
        have q := h.rel 6 28 (ready_dep hi (by kernel_rfl)) (by kernel_rfl)
        rw [hR.out] at q
        obtain ⟨ov, cv, ms, e28, hmm, ow, ap⟩ := q
        clear hmm ow ap
        refine wpOp_of rfl rfl ?_
        unfold Oper.wp
        go_simp
        exact h.val 8 36 _ x (by decide) (by kernel_rfl) (of_decide_eq_true (by kernel_rfl)) (by kernel_rfl) (by kernel_rfl) hn (Below.refl _ _) (by rw [hR.out]; exact rfl) (fun _ _ q => q)
      · have hn : L.getD 11 false = false := hD.no 11 [9] hnot (by kernel_rfl) rfl
        obtain rfl := h.pre hn
        refine wpOp_of rfl rfl ?_
        unfold Oper.wp
        go_simp
        have hb : Below x.heap.size x (x.alloc (.cells #[.int .i64 0, .int .i64 0] 30)) := bw_alloc (Below.refl _ _)
        exact h.val 9 9 _ _ (by decide) (by kernel_rfl) (of_decide_eq_true (by kernel_rfl)) (by kernel_rfl) (by kernel_rfl) hn hb (by rw [hR.out]; exact ⟨_, rfl, h.bel.size, heap_alloc_new _ _⟩) (RMO _ _ hb)
      · have q := h.rel 7 35 (ready_dep hi (by kernel_rfl)) (by kernel_rfl)
        rw [hR.out] at q
        refine wpOp_of rfl rfl (op_assign 35 rfl ?_)
        exact h.put 10 8 _ (by decide) (by kernel_rfl) (of_decide_eq_true (by kernel_rfl)) (by kernel_rfl) (by kernel_rfl) (by decide) (by decide) (by rw [hR.out]; exact q)
      · have hn := not_done hnot
        obtain rfl := h.pre hn
        have q0 := h.rel 9 9 (ready_dep hi (by kernel_rfl)) (by kernel_rfl)
        rw [hR.out] at q0
        have q1 := h.rel 8 36 (ready_dep hi (by kernel_rfl)) (by kernel_rfl)
        rw [hR.out] at q1
        obtain ⟨n, eB, hwn, kB⟩ := q0
        obtain ⟨zs, hzs⟩ : ∃ zs : Array Value, zs = #[.int .i64 rc, .int .i64 rv] := ⟨_, rfl⟩
        rw [← hzs] at q1
        have eV : a.tmps.getD 36 undef = .agg zs := q1
        have hz1 : (Tryz.prog.info? 30).map (·.size) = some zs.size := by rw [hzs]; kernel_rfl
        have hz2 : (#[.int .i64 0, .int .i64 0] : Array Value).size = zs.size := by rw [hzs]; rfl
        have hz3 : zs.all (·.oneCell') = true := by rw [hzs]; simp [Value.oneCell']
        refine wpOp_of rfl rfl (op_store 30 9 36 rfl rfl n eB zs eV #[.int .i64 0, .int .i64 0] 30 kB hz1 hz2 hz3 ?_)
        exact h.store (by rw [hL]; exact of_decide_eq_true (by kernel_rfl)) hn (by kernel_rfl) eB eV
    · intro L a x hL hD hr h
      obtain ⟨X, h⟩ := h
      have hall := all_done hL hr (by kernel_rfl)
      obtain ⟨n, zs, eB, eV, rfl⟩ := h.fin (hall 11 (of_decide_eq_true (by kernel_rfl)))
      have qB := h.rel 9 9 (hall 9 (of_decide_eq_true (by kernel_rfl))) (by kernel_rfl)
      rw [hR.out] at qB
      have qV := h.rel 8 36 (hall 8 (of_decide_eq_true (by kernel_rfl))) (by kernel_rfl)
      rw [hR.out] at qV
      have qL := h.rel 10 8 (hall 10 (of_decide_eq_true (by kernel_rfl))) (by kernel_rfl)
      rw [hR.out] at qL
      obtain ⟨n', eB', hwn, kB⟩ := qB
      obtain ⟨ov, cv, ms, eL, hmm, ow, ap⟩ := qL
      have en : (Value.pointer (some ⟨n, 0, none⟩)) = .pointer (some ⟨n', 0, none⟩) := eB.symm.trans eB'
      have ez : Value.agg zs = .agg #[.int .i64 rc, .int .i64 rv] := eV.symm.trans qV
      simp only [Value.pointer.injEq, Option.some.injEq, Addr.mk.injEq, and_true] at en
      simp only [Value.agg.injEq] at ez
      subst en ez
      obtain ⟨w8, hw8⟩ : ∃ z, z = Value.slice ov ms.length cv := ⟨_, rfl⟩
      obtain ⟨w9, hw9⟩ : ∃ z, z = Value.pointer (some ⟨n, 0, none⟩) := ⟨_, rfl⟩
      have ew8 : a.tmps.getD 8 undef = w8 := by rw [hw8]; exact eL
      have ew9 : a.tmps.getD 9 undef = w9 := by rw [hw9]; exact eB
      have HEND : Hid (∃ (n0 : Nat) (ov : Option Addr) (cv : Nat) (ms : List Pk), w8 = .slice ov ms.length cv ∧ w9 = .pointer (some ⟨n0, 0, none⟩) ∧ (X.setRow n #[.int .i64 rc, .int .i64 rv]).heap[n0]? = some (.cells #[.int .i64 rc, .int .i64 rv] 30 (0, 0)) ∧ ms.map Pk.pv = D1 ∧ OwnK wd.heap.size (X.setRow n #[.int .i64 rc, .int .i64 rv]) (.slice ov ms.length cv) ms ∧ ApartK ms ∧ Below wd.heap.size wd (X.setRow n #[.int .i64 rc, .int .i64 rv]) ∧ wd.heap.size ≤ n0) :=
        ⟨n, ov, cv, ms, hw8, hw9, setRow_row kB, hmm, ow.box kB (by decide) (by decide) row_upto, ap, h.bel.trans (row_upto.toBelow h.bel.size hwn), hwn⟩
      clear qV eL eB' hmm ow ap kB hw8 hw9
      have hfr := h.frame [8, 9, 28, 29, 30, 31, 32, 33, 34, 35, 36] (by kernel_rfl)
      obtain ⟨f, hf⟩ : ∃ f : Nat → Value, (fun s => a.tmps.getD s undef) = f := ⟨_, rfl⟩
      rw [hf] at hfr
      have f8 : f 8 = w8 := by rw [← hf]; exact ew8
      have f9 : f 9 = w9 := by rw [← hf]; exact ew9
      clear hf h hall hr hD hL eB eV ew8 ew9
      subst hfr
      simp only [Act.puts, f8, f9, Act.put, List.setIfInBounds_toArray, List.set_cons_succ, List.set_cons_zero]
      generalize f 28 = ux28
      generalize f 29 = ux29
      generalize f 30 = ux30
      generalize f 31 = ux31
      generalize f 32 = ux32
      generalize f 33 = ux33
      generalize f 34 = ux34
      generalize f 35 = ux35
      generalize f 36 = ux36
      clear f8 f9 f
      show Exit.then _ _ _ _ _
      go_wp2_with fail
      go_meet
      exact HEND.out
  case rest =>
    obtain ⟨nV, owo, owc, msw, rfl, rfl, kV, hmw, oww, apw, b, hnV⟩ := hcut
    rename World => W8
    have HMW : Hid (msw.map Pk.pv = D1) := hmw
    replace d := bw_call d b
    replace kO := (b.block _ sO).trans kO
    replace sO := Nat.lt_of_lt_of_le sO b.size
    replace r0 := r0.below (b.mono y0)
    replace y0 := Nat.le_trans y0 b.size
    clear b
    have lV := heap_lt kV
    have rww := oww.reads
    have yww : W8.heap.size ≤ W8.heap.size := Nat.le_refl _
    clear oww apw hmw
    have nV8 : nV < W8.heap.size := lV
    have cO0 : w.heap.size < W8.heap.size := sO
    go_wp2_with fail
    refine (toPlainsA_any _ bs0 _ hl0 HR0.out (r0.mono y0)).mono ?_
    rintro e wf ⟨xs, rfl, hpx, ox, apx, b⟩
    have HPX : Hid _ := And.intro hpx apx
    have c8 := b.size
    replace d := bw_call d b
    replace kO := (b.block _ sO).trans kO
    replace sO := Nat.lt_of_lt_of_le sO b.size
    replace r0 := r0.below (b.mono y0)
    replace y0 := Nat.le_trans y0 b.size
    replace kV := (b.block _ lV).trans kV
    replace lV := Nat.lt_of_lt_of_le lV b.size
    replace rww := rww.below (b.mono yww)
    replace yww := Nat.le_trans yww b.size
    clear b
    have SX : Hid _ := ox.span
    clear hpx apx
    have pkO0 := at_cell kO 0
    have pkO1 := at_cell kO 1
    have pkO2 := at_cell kO 2
    have pkO3 := at_cell kO 3
    have pkO4 := at_cell kO 4
    have pkO5 := at_cell kO 5
    go_wp2_with fail
    clear pkO0 pkO1 pkO2 pkO3 pkO4 pkO5
    refine (toOp_any ok1 on1 oo1 oa1 ov1 oe1 _).mono ?_
    rintro e wf2 ⟨rfl, b⟩
    have c9 := b.size
    replace d := bw_call d b
    replace kO := (b.block _ sO).trans kO
    replace sO := Nat.lt_of_lt_of_le sO b.size
    replace r0 := r0.below (b.mono y0)
    replace y0 := Nat.le_trans y0 b.size
    replace kV := (b.block _ lV).trans kV
    replace lV := Nat.lt_of_lt_of_le lV b.size
    replace rww := rww.below (b.mono yww)
    replace yww := Nat.le_trans yww b.size
    replace ox := ox.below b
    clear b
    go_wp2_with fail
    refine (implDidPlain_any _ xs ok1 on1 oo1 oa1 ov1 oe1 a2 _ ad (HV.out.below d) (bare_all (fun nm _ => nm.size ≤ maxLen) HPX.out.1 HN0.out) u1 x1 HFX0.out.1 HFX0.out.2.1 HFX0.out.2.2.1 HFX0.out.2.2.2 ox.reads).mono ?_
    unfold DidKP
    rw [pv_of_bare HPX.out.1, HD.out]
    rintro e wg ⟨vg, msg, rfl, hmg, og, apg, b⟩
    have cG1 := b.size
    have cG2 := b.size
    replace d := bw_call d b
    replace kO := (b.block _ sO).trans kO
    replace sO := Nat.lt_of_lt_of_le sO b.size
    replace r0 := r0.below (b.mono y0)
    replace y0 := Nat.le_trans y0 b.size
    replace kV := (b.block _ lV).trans kV
    replace lV := Nat.lt_of_lt_of_le lV b.size
    replace rww := rww.below (b.mono yww)
    replace yww := Nat.le_trans yww b.size
    replace ox := ox.below b
    clear b
    have HMG : Hid (msg.map Pk.pv = D1) := hmg
    have HAP : Hid (ApartK msg) := apg
    obtain ⟨og1, cg1, rfl⟩ := own_slice og.row
    clear hmg apg
    have b : Below wg.heap.size wg (wg.alloc (.cells #[.int .i64 rc, .int .i64 rv] 30)) := bw_alloc (Below.refl _ _)
    have kT := heap_alloc_new wg (.cells #[.int .i64 rc, .int .i64 rv] 30)
    have sT : wg.heap.size < (wg.alloc (.cells #[.int .i64 rc, .int .i64 rv] 30)).heap.size := by simp
    replace d := bw_call d b
    replace kO := (b.block _ sO).trans kO
    replace sO := Nat.lt_of_lt_of_le sO b.size
    replace r0 := r0.below (b.mono y0)
    replace y0 := Nat.le_trans y0 b.size
    replace kV := (b.block _ lV).trans kV
    replace lV := Nat.lt_of_lt_of_le lV b.size
    replace rww := rww.below (b.mono yww)
    replace yww := Nat.le_trans yww b.size
    replace ox := ox.below b
    replace cG1 := Nat.le_trans cG1 b.size
    replace og := og.below b
    clear b
    have HGW : Hid (msw.map bareK = msg.map bareK) := bare_of_pv (HMW.out.trans HMG.out.symm)
    go_wp2_with fail
    generalize wg.alloc (.cells #[.int .i64 rc, .int .i64 rv] 30) = Wy at *
    have cT0 : wg.heap.size < Wy.heap.size := sT
    refine (eqPlains_same _ _ msg msw _ HGW.out og.reads (rww.mono yww)).mono ?_
    rintro e wh1 ⟨rfl, b⟩
    replace d := bw_call d b
    replace kO := (b.block _ sO).trans kO
    replace sO := Nat.lt_of_lt_of_le sO b.size
    replace r0 := r0.below (b.mono y0)
    replace y0 := Nat.le_trans y0 b.size
    replace kV := (b.block _ lV).trans kV
    replace lV := Nat.lt_of_lt_of_le lV b.size
    replace rww := rww.below (b.mono yww)
    replace yww := Nat.le_trans yww b.size
    replace ox := ox.below b
    replace cG1 := Nat.le_trans cG1 b.size
    replace og := og.below b
    replace kT := (b.block _ sT).trans kT
    replace sT := Nat.lt_of_lt_of_le sT b.size
    clear b
    have pkT0 := at_cell kT 0
    have pkT1 := at_cell kT 1
    have pkV0 := at_cell kV 0
    have pkV1 := at_cell kV 1
    go_wp2_with fail
    clear pkT0 pkT1
    clear pkV0 pkV1
    refine (eqReply_same rc rv _).mono ?_
    rintro e wh2 ⟨rfl, b⟩
    replace d := bw_call d b
    replace kO := (b.block _ sO).trans kO
    replace sO := Nat.lt_of_lt_of_le sO b.size
    replace r0 := r0.below (b.mono y0)
    replace y0 := Nat.le_trans y0 b.size
    replace kV := (b.block _ lV).trans kV
    replace lV := Nat.lt_of_lt_of_le lV b.size
    replace rww := rww.below (b.mono yww)
    replace yww := Nat.le_trans yww b.size
    replace ox := ox.below b
    replace cG1 := Nat.le_trans cG1 b.size
    replace og := og.below b
    replace kT := (b.block _ sT).trans kT
    replace sT := Nat.lt_of_lt_of_le sT b.size
    clear b
    go_wp2_with fail
    refine (toPlains_any _ bs0 _ hl0 HR0.out (r0.mono y0)).mono ?_
    rintro e wi ⟨ys, rfl, hpy, oy, b⟩
    have HPY : Hid (ys.map bareK = xs.map bareK) := hpy.trans HPX.out.1.symm
    clear hpy
    replace d := bw_call d b
    replace kO := (b.block _ sO).trans kO
    replace sO := Nat.lt_of_lt_of_le sO b.size
    replace r0 := r0.below (b.mono y0)
    replace y0 := Nat.le_trans y0 b.size
    replace kV := (b.block _ lV).trans kV
    replace lV := Nat.lt_of_lt_of_le lV b.size
    replace rww := rww.below (b.mono yww)
    replace yww := Nat.le_trans yww b.size
    replace ox := ox.below b
    replace cG1 := Nat.le_trans cG1 b.size
    replace og := og.below b
    replace kT := (b.block _ sT).trans kT
    replace sT := Nat.lt_of_lt_of_le sT b.size
    clear b
    go_wp2_with fail
    refine (eqPlains_same _ _ xs ys _ HPY.out ox.reads oy.reads).mono ?_
    rintro e wj ⟨rfl, b⟩
    clear oy
    replace d := bw_call d b
    replace kO := (b.block _ sO).trans kO
    replace sO := Nat.lt_of_lt_of_le sO b.size
    replace r0 := r0.below (b.mono y0)
    replace y0 := Nat.le_trans y0 b.size
    replace kV := (b.block _ lV).trans kV
    replace lV := Nat.lt_of_lt_of_le lV b.size
    replace rww := rww.below (b.mono yww)
    replace yww := Nat.le_trans yww b.size
    replace ox := ox.below b
    replace cG1 := Nat.le_trans cG1 b.size
    replace og := og.below b
    replace kT := (b.block _ sT).trans kT
    replace sT := Nat.lt_of_lt_of_le sT b.size
    clear b
    have hEx : marksEK 1 xs ≤ 1073741824 := by
      have h1 : totK xs = totK bs0 := tot_bare HPX.out.1
      have h2 : xs.length = bs0.length := bare_len HPX.out.1
      have h3 := HTOT.out
      rw [marksEK_tot]
      omega
    have hEx0 : 0 ≤ marksEK 1 xs := Int.le_trans (by omega) (marksEK_ge xs 1)
    go_wp2_with fail
    refine (markPlainsO_any _ xs W8.heap.size 1 _ (by omega) hEx (bare_all (fun _ rs => rs.length ≤ 1048576) HPX.out.1 HR0.out) ox HPX.out.2 (by omega)).mono ?_
    rintro e wm ⟨rfl, oxm, hm1, hm2, hm3, hm4, hm5⟩
    have b := marked_rng ox SX.out ⟨hm1, hm2, hm3, hm4, hm5⟩
    clear hm1 hm2 hm3 hm4 hm5 oxm
    clear ox
    replace d := d.trans (b.toBelow (by omega) (by omega))
    replace kO := (b.block _ sO (by omega)).trans kO
    replace sO := Nat.lt_of_lt_of_le sO b.size
    replace r0 := r0.below (b.toBelow y0 (by omega))
    replace y0 := Nat.le_trans y0 b.size
    replace kV := (b.block _ lV (by omega)).trans kV
    replace lV := Nat.lt_of_lt_of_le lV b.size
    replace rww := rww.below (b.toBelow yww (by omega))
    replace yww := Nat.le_trans yww b.size
    replace cG1 := Nat.le_trans cG1 b.size
    replace og := og.rng b (by omega)
    replace kT := (b.block _ sT (by omega)).trans kT
    replace sT := Nat.lt_of_lt_of_le sT b.size
    clear b
    generalize marksEK 1 xs = kE at *
    have hkE : ¬ kE < 0 := by omega
    go_wp2_with fail
    refine (eqPlains_same _ _ msg msw _ HGW.out og.reads (rww.mono yww)).mono ?_
    rintro e wn1 ⟨rfl, b⟩
    replace d := bw_call d b
    replace kO := (b.block _ sO).trans kO
    replace sO := Nat.lt_of_lt_of_le sO b.size
    replace r0 := r0.below (b.mono y0)
    replace y0 := Nat.le_trans y0 b.size
    replace kV := (b.block _ lV).trans kV
    replace lV := Nat.lt_of_lt_of_le lV b.size
    replace rww := rww.below (b.mono yww)
    replace yww := Nat.le_trans yww b.size
    replace cG1 := Nat.le_trans cG1 b.size
    replace og := og.below b
    replace kT := (b.block _ sT).trans kT
    replace sT := Nat.lt_of_lt_of_le sT b.size
    clear b
    have pkT0 := at_cell kT 0
    have pkT1 := at_cell kT 1
    have pkV0 := at_cell kV 0
    have pkV1 := at_cell kV 1
    go_wp2_with fail
    clear pkT0 pkT1
    clear pkV0 pkV1
    refine (eqReply_same rc rv _).mono ?_
    rintro e wn2 ⟨rfl, b⟩
    replace d := bw_call d b
    replace kO := (b.block _ sO).trans kO
    replace sO := Nat.lt_of_lt_of_le sO b.size
    replace r0 := r0.below (b.mono y0)
    replace y0 := Nat.le_trans y0 b.size
    replace kV := (b.block _ lV).trans kV
    replace lV := Nat.lt_of_lt_of_le lV b.size
    replace rww := rww.below (b.mono yww)
    replace yww := Nat.le_trans yww b.size
    replace cG1 := Nat.le_trans cG1 b.size
    replace og := og.below b
    replace kT := (b.block _ sT).trans kT
    replace sT := Nat.lt_of_lt_of_le sT b.size
    clear b
    have hdb := did_bounds (l := bs0.map Pk.pv) (o := ⟨ok1, on1, oo1, oa1, ov1, oe1⟩) (told := a2) (ms := msg) (by rw [HD.out]; exact HMG.out)
    have HBN : Hid (∀ b ∈ msg, b.rs.length ≤ 1048576) := hdb.1
    have hM2 : marksEK 1 msg ≤ 1073741824 := hdb.2
    have hposM : 0 ≤ marksEK 1 msg := Int.le_trans (by omega) (marksEK_ge msg 1)
    clear hdb
    go_wp2_with fail
    refine (markPlainsO_any _ msg wf2.heap.size 1 _ (by omega) hM2 HBN.out og HAP.out (by omega)).mono ?_
    rintro e wp ⟨rfl, ogm, hm1, hm2, hm3, hm4, hm5⟩
    have b := marked_base og (by omega) ⟨hm1, hm2, hm3, hm4, hm5⟩
    clear hm1 hm2 hm3 hm4 hm5
    clear og
    clear kT sT
    replace d := d.trans (b.mono (by omega))
    replace kO := (b.block _ (by omega)).trans kO
    replace sO := Nat.lt_of_lt_of_le sO b.size
    replace r0 := r0.below (b.mono (by omega))
    replace y0 := Nat.le_trans y0 b.size
    replace kV := (b.block _ (by omega)).trans kV
    replace lV := Nat.lt_of_lt_of_le lV b.size
    replace rww := rww.below (b.mono (by omega))
    replace yww := Nat.le_trans yww b.size
    replace cG1 := Nat.le_trans cG1 b.size
    clear b
    generalize hmE : marksEK 1 msg = mE at *
    have HME : Hid (marksEK 1 msg = mE) := hmE
    clear hmE
    have hselfm : (mE != mE) = false := by simp
    have hmn : ¬ mE < 0 := by omega
    go_wp2_with fail
    refine (heldPlains_any _ msg 1 _ (by omega) (by rw [HME.out]; exact hM2) HBN.out ogm.reads).mono ?_
    rw [HME.out]
    rintro e wq ⟨rfl, b⟩
    replace d := bw_call d b
    replace kO := (b.block _ sO).trans kO
    replace sO := Nat.lt_of_lt_of_le sO b.size
    replace r0 := r0.below (b.mono y0)
    replace y0 := Nat.le_trans y0 b.size
    replace kV := (b.block _ lV).trans kV
    replace lV := Nat.lt_of_lt_of_le lV b.size
    replace rww := rww.below (b.mono yww)
    replace yww := Nat.le_trans yww b.size
    replace cG1 := Nat.le_trans cG1 b.size
    replace ogm := ogm.below b
    clear b
    go_upto_region 27 with fail
    obtain ⟨R, hR0⟩ : ∃ R : Nat → Value → World → Prop, R = fun j v X => match j with
      | 0 => v = .slice o0 bs0.length c0
      | 1 => ∃ (g : Nat) (ts : List Pk), v = .slice (some ⟨g, 0, none⟩) bs0.length bs0.length ∧ ts.map bareK = bs0.map bareK ∧ ReadsK X.heap.size X (.slice (some ⟨g, 0, none⟩) bs0.length bs0.length) ts
      | 2 => v = .agg #[.int .i64 ok1, .string on1, .string oo1, .int .i64 oa1, .int .i64 ov1, .int .i64 oe1]
      | 3 => v = .agg #[.int .i64 ok1, .string on1, .string oo1, .int .i64 oa1, .int .i64 ov1, .int .i64 oe1]
      | 4 => v = .int .i64 a2
      | 5 => ∃ ov cv ms, v = .tuple #[.slice ov (List.length ms) cv, .agg #[.int .i64 rc, .int .i64 rv]] ∧ ms.map Pk.pv = D1 ∧ OwnK wq.heap.size X (.slice ov ms.length cv) ms ∧ ApartK ms
      | 6 => ∃ ov cv ms, v = .tuple #[.slice ov (List.length ms) cv, .agg #[.int .i64 rc, .int .i64 rv]] ∧ ms.map Pk.pv = D1 ∧ OwnK wq.heap.size X (.slice ov ms.length cv) ms ∧ ApartK ms
      | 7 => ∃ ov cv ms, v = .slice ov (List.length ms) cv ∧ ms.map Pk.pv = D1 ∧ OwnK wq.heap.size X (.slice ov ms.length cv) ms ∧ ApartK ms
      | 8 => v = .agg #[.int .i64 rc, .int .i64 rv]
      | 9 => ∃ n, v = .pointer (some ⟨n, 0, none⟩) ∧ wq.heap.size ≤ n ∧ X.heap[n]? = some (.cells #[.int .i64 0, .int .i64 0] 30 (0, 0))
      | 10 => ∃ ov cv ms, v = .slice ov (List.length ms) cv ∧ ms.map Pk.pv = D1 ∧ OwnK wq.heap.size X (.slice ov ms.length cv) ms ∧ ApartK ms
      | _ => True := ⟨_, rfl⟩
    have hR : Hid _ := hR0
    clear hR0
    have RMO : ∀ x x', Below x.heap.size x x' → ∀ j v, R j v x → R j v x' := fun x x' hb j v => by
      rw [hR.out]
      match j with
      | 0 => exact id
      | 1 => exact fun ⟨g, ts, e, hp, r⟩ => ⟨g, ts, e, hp, (r.below hb).mono hb.size⟩
      | 2 => exact id
      | 3 => exact id
      | 4 => exact id
      | 5 => exact fun ⟨ov, cv, ms, e, hm, ow, ap⟩ => ⟨ov, cv, ms, e, hm, ow.below hb, ap⟩
      | 6 => exact fun ⟨ov, cv, ms, e, hm, ow, ap⟩ => ⟨ov, cv, ms, e, hm, ow.below hb, ap⟩
      | 7 => exact fun ⟨ov, cv, ms, e, hm, ow, ap⟩ => ⟨ov, cv, ms, e, hm, ow.below hb, ap⟩
      | 8 => exact id
      | 9 => exact fun ⟨n, e, hw, kk⟩ => ⟨n, e, hw, (hb.block _ (heap_lt kk)).trans kk⟩
      | 10 => exact fun ⟨ov, cv, ms, e, hm, ow, ap⟩ => ⟨ov, cv, ms, e, hm, ow.below hb, ap⟩
      | 11 => exact id
      | _ + 12 => exact id
    go_cut [16, 17] (fun v16 v17 wx => ∃ (n : Nat) (ov : Option Addr) (cv : Nat) (ms : List Pk), v16 = .slice ov ms.length cv ∧ v17 = .pointer (some ⟨n, 0, none⟩) ∧ wx.heap[n]? = some (.cells #[.int .i64 rc, .int .i64 rv] 30 (0, 0)) ∧ ms.map Pk.pv = D1 ∧ OwnK wq.heap.size wx (.slice ov ms.length cv) ms ∧ ApartK ms ∧ Below wq.heap.size wq wx ∧ wq.heap.size ≤ n)
    case first =>
      refine wp_region_inv (I := RXs _ 11 17 98 R _ wq) (by kernel_rfl) (RXs.start _ 11 17 98 _ _ wq) ?_ ?_
      · intro L a x i hL hD hi h
        obtain ⟨X, h⟩ := h
        have hin : i < 12 := (ready_mem hi).1
        have hnot := (ready_mem hi).2.1
        have hc : i = 0 ∨ i = 1 ∨ i = 2 ∨ i = 3 ∨ i = 4 ∨ i = 5 ∨ i = 6 ∨ i = 7 ∨ i = 8 ∨ i = 9 ∨ i = 10 ∨ i = 11 := by omega
        rcases hc with rfl | rfl | rfl | rfl | rfl | rfl | rfl | rfl | rfl | rfl | rfl | rfl
        · refine wpOp_of rfl rfl (op_move 0 rfl ?_)
          exact h.put 0 91 _ (by decide) (by kernel_rfl) (of_decide_eq_true (by kernel_rfl)) (by kernel_rfl) (by kernel_rfl) (by decide) (by decide) (by rw [hR.out]; exact h.old 0 (by kernel_rfl))
        · have hn : L.getD 11 false = false := hD.no 11 [8, 6, 5, 1] hnot (by kernel_rfl) rfl
          obtain rfl := h.pre hn
          have q := h.rel 0 91 (ready_dep hi (by kernel_rfl)) (by kernel_rfl)
          rw [hR.out] at q
          have q' : a.tmps.getD 91 undef = .slice o0 bs0.length c0 := q
          clear q
          refine wpOp_of rfl rfl ?_
          unfold Oper.wp
          go_simp
          go_at_call 26
          refine (toPlains_any _ bs0 _ hl0 HR0.out (((r0.mono y0).below h.bel).mono h.bel.size)).mono ?_
          rintro e x1 ⟨ts, rfl, hpt, ot, hb⟩
          obtain ⟨g, hg⟩ : ∃ g : Nat, x.heap.size = g := ⟨_, rfl⟩
          have HPT : Hid _ := hpt
          clear hpt
          exact h.val 1 92 _ x1 (by decide) (by kernel_rfl) (of_decide_eq_true (by kernel_rfl)) (by kernel_rfl) (by kernel_rfl) hn hb (by rw [hR.out]; exact ⟨x.heap.size, ts, rfl, HPT.out, ot.reads⟩) (RMO _ _ hb)
        · have hn : L.getD 11 false = false := hD.no 11 [8, 6, 5, 3, 2] hnot (by kernel_rfl) rfl
          obtain rfl := h.pre hn
          refine wpOp_of rfl rfl ?_
          refine op_load 54 4 rfl w.heap.size (h.old 4 (by kernel_rfl)) _ 54 (0, 0) ((h.bel.block _ (heap_lt kO)).trans kO) _ Tryz.underlying54 rfl (by kernel_rfl) ?_
          exact h.val 2 93 _ x (by decide) (by kernel_rfl) (of_decide_eq_true (by kernel_rfl)) (by kernel_rfl) (by kernel_rfl) hn (Below.refl _ _) (by rw [hR.out]; exact rfl) (fun _ _ q => q)
        · have hn : L.getD 11 false = false := hD.no 11 [8, 6, 5, 3] hnot (by kernel_rfl) rfl
          obtain rfl := h.pre hn
          have q := h.rel 2 93 (ready_dep hi (by kernel_rfl)) (by kernel_rfl)
          rw [hR.out] at q
          have q' : a.tmps.getD 93 undef = .agg #[.int .i64 ok1, .string on1, .string oo1, .int .i64 oa1, .int .i64 ov1, .int .i64 oe1] := q
          clear q
          refine wpOp_of rfl rfl ?_
          unfold Oper.wp
          go_simp
          go_at_call 27
          refine (toOp_any ok1 on1 oo1 oa1 ov1 oe1 _).mono ?_
          rintro e x1 ⟨rfl, hb⟩
          exact h.val 3 94 _ x1 (by decide) (by kernel_rfl) (of_decide_eq_true (by kernel_rfl)) (by kernel_rfl) (by kernel_rfl) hn hb (by rw [hR.out]; exact rfl) (RMO _ _ hb)
        · refine wpOp_of rfl rfl (op_move 2 rfl ?_)
          exact h.put 4 95 _ (by decide) (by kernel_rfl) (of_decide_eq_true (by kernel_rfl)) (by kernel_rfl) (by kernel_rfl) (by decide) (by decide) (by rw [hR.out]; exact h.old 2 (by kernel_rfl))
        · have hn : L.getD 11 false = false := hD.no 11 [8, 6, 5] hnot (by kernel_rfl) rfl
          obtain rfl := h.pre hn
          have q := h.rel 1 92 (ready_dep hi (by kernel_rfl)) (by kernel_rfl)
          rw [hR.out] at q
          obtain ⟨g, ts, e1, hpt, rt⟩ := q
          have HPT : Hid _ := hpt
          clear hpt
          have q3 := h.rel 3 94 (ready_dep hi (by kernel_rfl)) (by kernel_rfl)
          rw [hR.out] at q3
          have q3' : a.tmps.getD 94 undef = .agg #[.int .i64 ok1, .string on1, .string oo1, .int .i64 oa1, .int .i64 ov1, .int .i64 oe1] := q3
          clear q3
          have q4 := h.rel 4 95 (ready_dep hi (by kernel_rfl)) (by kernel_rfl)
          rw [hR.out] at q4
          have q4' : a.tmps.getD 95 undef = .int .i64 a2 := q4
          clear q4
          refine wpOp_of rfl rfl ?_
          unfold Oper.wp
          go_simp
          go_at_call 9
          refine (implDidPlain_any _ ts ok1 on1 oo1 oa1 ov1 oe1 a2 _ ad (HV.out.below (bw_call d h.bel)) (bare_all (fun nm _ => nm.size ≤ maxLen) HPT.out HN0.out) u1 x1 HFX0.out.1 HFX0.out.2.1 HFX0.out.2.2.1 HFX0.out.2.2.2 rt).mono ?_
          unfold DidKP
          rw [pv_of_bare HPT.out, HD.out]
          rintro e x1 ⟨vd, md, rfl, hmd, od, apd, hb⟩
          obtain ⟨ov, cv, rfl⟩ := own_slice od.row
          have HMD : Hid _ := hmd
          clear hmd
          exact h.val 5 96 _ x1 (by decide) (by kernel_rfl) (of_decide_eq_true (by kernel_rfl)) (by kernel_rfl) (by kernel_rfl) hn hb (by rw [hR.out]; exact ⟨ov, cv, md, rfl, HMD.out, od.mono h.bel.size, apd⟩) (RMO _ _ hb)
        · have q := h.rel 5 96 (ready_dep hi (by kernel_rfl)) (by kernel_rfl)
          rw [hR.out] at q
          refine wpOp_of rfl rfl (op_move 96 rfl ?_)
          exact h.put 6 90 _ (by decide) (by kernel_rfl) (of_decide_eq_true (by kernel_rfl)) (by kernel_rfl) (by kernel_rfl) (by decide) (by decide) (by rw [hR.out]; exact q)
        · have q := h.rel 6 90 (ready_dep hi (by kernel_rfl)) (by kernel_rfl)
          rw [hR.out] at q
          obtain ⟨ov, cv, ms, e28, hmm, ow, ap⟩ := q
          have HMM : Hid _ := And.intro hmm (And.intro ow ap)
          clear hmm ow ap
          refine wpOp_of rfl rfl ?_
          unfold Oper.wp
          go_simp
          exact h.put 7 97 _ (by decide) (by kernel_rfl) (of_decide_eq_true (by kernel_rfl)) (by kernel_rfl) (by kernel_rfl) (by decide) (by decide) (by rw [hR.out]; exact ⟨ov, cv, ms, rfl, HMM.out⟩)
        · have hn : L.getD 11 false = false := hD.no 11 [8] hnot (by kernel_rfl) rfl
          obtain rfl := h.pre hn
          have q := h.rel 6 90 (ready_dep hi (by kernel_rfl)) (by kernel_rfl)
          rw [hR.out] at q
          obtain ⟨ov, cv, ms, e28, hmm, ow, ap⟩ := q
          clear hmm ow ap
          refine wpOp_of rfl rfl ?_
          unfold Oper.wp
          go_simp
          exact h.val 8 98 _ x (by decide) (by kernel_rfl) (of_decide_eq_true (by kernel_rfl)) (by kernel_rfl) (by kernel_rfl) hn (Below.refl _ _) (by rw [hR.out]; exact rfl) (fun _ _ q => q)
        · have hn : L.getD 11 false = false := hD.no 11 [9] hnot (by kernel_rfl) rfl
          obtain rfl := h.pre hn
          refine wpOp_of rfl rfl ?_
          unfold Oper.wp
          go_simp
          have hb : Below x.heap.size x (x.alloc (.cells #[.int .i64 0, .int .i64 0] 30)) := bw_alloc (Below.refl _ _)
          exact h.val 9 17 _ _ (by decide) (by kernel_rfl) (of_decide_eq_true (by kernel_rfl)) (by kernel_rfl) (by kernel_rfl) hn hb (by rw [hR.out]; exact ⟨_, rfl, h.bel.size, heap_alloc_new _ _⟩) (RMO _ _ hb)
        · have q := h.rel 7 97 (ready_dep hi (by kernel_rfl)) (by kernel_rfl)
          rw [hR.out] at q
          refine wpOp_of rfl rfl (op_assign 97 rfl ?_)
          exact h.put 10 16 _ (by decide) (by kernel_rfl) (of_decide_eq_true (by kernel_rfl)) (by kernel_rfl) (by kernel_rfl) (by decide) (by decide) (by rw [hR.out]; exact q)
        · have hn := not_done hnot
          obtain rfl := h.pre hn
          have q0 := h.rel 9 17 (ready_dep hi (by kernel_rfl)) (by kernel_rfl)
          rw [hR.out] at q0
          have q1 := h.rel 8 98 (ready_dep hi (by kernel_rfl)) (by kernel_rfl)
          rw [hR.out] at q1
          obtain ⟨n, eB, hwn, kB⟩ := q0
          obtain ⟨zs, hzs⟩ : ∃ zs : Array Value, zs = #[.int .i64 rc, .int .i64 rv] := ⟨_, rfl⟩
          rw [← hzs] at q1
          have eV : a.tmps.getD 98 undef = .agg zs := q1
          have hz1 : (Tryz.prog.info? 30).map (·.size) = some zs.size := by rw [hzs]; kernel_rfl
          have hz2 : (#[.int .i64 0, .int .i64 0] : Array Value).size = zs.size := by rw [hzs]; rfl
          have hz3 : zs.all (·.oneCell') = true := by rw [hzs]; simp [Value.oneCell']
          refine wpOp_of rfl rfl (op_store 30 17 98 rfl rfl n eB zs eV #[.int .i64 0, .int .i64 0] 30 kB hz1 hz2 hz3 ?_)
          exact h.store (by rw [hL]; exact of_decide_eq_true (by kernel_rfl)) hn (by kernel_rfl) eB eV
      · intro L a x hL hD hr h
        obtain ⟨X, h⟩ := h
        have hall := all_done hL hr (by kernel_rfl)
        obtain ⟨n, zs, eB, eV, rfl⟩ := h.fin (hall 11 (of_decide_eq_true (by kernel_rfl)))
        have qB := h.rel 9 17 (hall 9 (of_decide_eq_true (by kernel_rfl))) (by kernel_rfl)
        rw [hR.out] at qB
        have qV := h.rel 8 98 (hall 8 (of_decide_eq_true (by kernel_rfl))) (by kernel_rfl)
        rw [hR.out] at qV
        have qL := h.rel 10 16 (hall 10 (of_decide_eq_true (by kernel_rfl))) (by kernel_rfl)
        rw [hR.out] at qL
        obtain ⟨n', eB', hwn, kB⟩ := qB
        obtain ⟨ov, cv, ms, eL, hmm, ow, ap⟩ := qL
        have en : (Value.pointer (some ⟨n, 0, none⟩)) = .pointer (some ⟨n', 0, none⟩) := eB.symm.trans eB'
        have ez : Value.agg zs = .agg #[.int .i64 rc, .int .i64 rv] := eV.symm.trans qV
        simp only [Value.pointer.injEq, Option.some.injEq, Addr.mk.injEq, and_true] at en
        simp only [Value.agg.injEq] at ez
        subst en ez
        obtain ⟨w16, hw16⟩ : ∃ z, z = Value.slice ov ms.length cv := ⟨_, rfl⟩
        obtain ⟨w17, hw17⟩ : ∃ z, z = Value.pointer (some ⟨n, 0, none⟩) := ⟨_, rfl⟩
        have ew16 : a.tmps.getD 16 undef = w16 := by rw [hw16]; exact eL
        have ew17 : a.tmps.getD 17 undef = w17 := by rw [hw17]; exact eB
        have HEND : Hid (∃ (n0 : Nat) (ov : Option Addr) (cv : Nat) (ms : List Pk), w16 = .slice ov ms.length cv ∧ w17 = .pointer (some ⟨n0, 0, none⟩) ∧ (X.setRow n #[.int .i64 rc, .int .i64 rv]).heap[n0]? = some (.cells #[.int .i64 rc, .int .i64 rv] 30 (0, 0)) ∧ ms.map Pk.pv = D1 ∧ OwnK wq.heap.size (X.setRow n #[.int .i64 rc, .int .i64 rv]) (.slice ov ms.length cv) ms ∧ ApartK ms ∧ Below wq.heap.size wq (X.setRow n #[.int .i64 rc, .int .i64 rv]) ∧ wq.heap.size ≤ n0) :=
          ⟨n, ov, cv, ms, hw16, hw17, setRow_row kB, hmm, ow.box kB (by decide) (by decide) row_upto, ap, h.bel.trans (row_upto.toBelow h.bel.size hwn), hwn⟩
        clear qV eL eB' hmm ow ap kB hw16 hw17
        have hfr := h.frame [16, 17, 90, 91, 92, 93, 94, 95, 96, 97, 98] (by kernel_rfl)
        obtain ⟨f, hf⟩ : ∃ f : Nat → Value, (fun s => a.tmps.getD s undef) = f := ⟨_, rfl⟩
        rw [hf] at hfr
        have f16 : f 16 = w16 := by rw [← hf]; exact ew16
        have f17 : f 17 = w17 := by rw [← hf]; exact ew17
        clear hf h hall hr hD hL eB eV ew16 ew17
        subst hfr
        simp only [Act.puts, f16, f17, Act.put, List.setIfInBounds_toArray, List.set_cons_succ, List.set_cons_zero]
        generalize f 90 = ux90
        generalize f 91 = ux91
        generalize f 92 = ux92
        generalize f 93 = ux93
        generalize f 94 = ux94
        generalize f 95 = ux95
        generalize f 96 = ux96
        generalize f 97 = ux97
        generalize f 98 = ux98
        clear f16 f17 f
        show Exit.then _ _ _ _ _
        go_wp2_with fail
        go_meet
        exact HEND.out
    case rest =>
      obtain ⟨nI, oho, ohc, msh, rfl, rfl, kI, hmh, oh, aph, b, hnI⟩ := hcut
      rename World => W11
      have HHW : Hid (msw.map bareK = msh.map bareK) := bare_of_pv (HMW.out.trans hmh.symm)
      replace d := bw_call d b
      replace kO := (b.block _ sO).trans kO
      replace sO := Nat.lt_of_lt_of_le sO b.size
      replace r0 := r0.below (b.mono y0)
      replace y0 := Nat.le_trans y0 b.size
      replace kV := (b.block _ lV).trans kV
      replace lV := Nat.lt_of_lt_of_le lV b.size
      replace rww := rww.below (b.mono yww)
      replace yww := Nat.le_trans yww b.size
      replace cG1 := Nat.le_trans cG1 b.size
      replace ogm := ogm.below b
      clear b
      have lI := heap_lt kI
      clear hmh aph
      go_wp2_with fail
      refine (eqPlains_same _ _ msh msw _ HHW.out oh.reads (rww.mono yww)).mono ?_
      rintro e ws ⟨rfl, b⟩
      replace d := bw_call d b
      replace kO := (b.block _ sO).trans kO
      replace sO := Nat.lt_of_lt_of_le sO b.size
      replace r0 := r0.below (b.mono y0)
      replace y0 := Nat.le_trans y0 b.size
      replace kV := (b.block _ lV).trans kV
      replace lV := Nat.lt_of_lt_of_le lV b.size
      replace rww := rww.below (b.mono yww)
      replace yww := Nat.le_trans yww b.size
      replace cG1 := Nat.le_trans cG1 b.size
      replace ogm := ogm.below b
      replace kI := (b.block _ lI).trans kI
      replace lI := Nat.lt_of_lt_of_le lI b.size
      replace oh := oh.below b
      clear b
      have pkI0 := at_cell kI 0
      have pkI1 := at_cell kI 1
      have pkV0 := at_cell kV 0
      have pkV1 := at_cell kV 1
      go_wp2_with fail
      clear pkI0 pkI1
      clear pkV0 pkV1
      refine (eqReply_same rc rv _).mono ?_
      rintro e wt ⟨rfl, b⟩
      replace d := bw_call d b
      replace kO := (b.block _ sO).trans kO
      replace sO := Nat.lt_of_lt_of_le sO b.size
      replace r0 := r0.below (b.mono y0)
      replace y0 := Nat.le_trans y0 b.size
      replace kV := (b.block _ lV).trans kV
      replace lV := Nat.lt_of_lt_of_le lV b.size
      replace rww := rww.below (b.mono yww)
      replace yww := Nat.le_trans yww b.size
      replace cG1 := Nat.le_trans cG1 b.size
      replace ogm := ogm.below b
      replace kI := (b.block _ lI).trans kI
      replace lI := Nat.lt_of_lt_of_le lI b.size
      replace oh := oh.below b
      clear b
      go_wp2_with fail
      refine (heldPlains_any _ msg 1 _ (by omega) (by rw [HME.out]; exact hM2) HBN.out ogm.reads).mono ?_
      rw [HME.out]
      rintro e wu ⟨rfl, b⟩
      replace d := bw_call d b
      replace kO := (b.block _ sO).trans kO
      replace sO := Nat.lt_of_lt_of_le sO b.size
      replace r0 := r0.below (b.mono y0)
      replace y0 := Nat.le_trans y0 b.size
      replace kV := (b.block _ lV).trans kV
      replace lV := Nat.lt_of_lt_of_le lV b.size
      replace rww := rww.below (b.mono yww)
      replace yww := Nat.le_trans yww b.size
      replace cG1 := Nat.le_trans cG1 b.size
      replace ogm := ogm.below b
      replace kI := (b.block _ lI).trans kI
      replace lI := Nat.lt_of_lt_of_le lI b.size
      replace oh := oh.below b
      clear b
      go_wp2_with fail
      go_ret
      exact ⟨rfl, d⟩

set_option maxRecDepth 100000 in
theorem lifted (os : Os) (started : os.Started) (H : Type) (enc : TypeId × Value → H) :
    ReturnsInHanded {} Tryz.checked os 6 .any (fun w args => (Rows.fnExactDidPlainSpec.pre enc Tryz.prog Tryz.f6 Rows.fnExactDidPlainRow.domain false w args ∧ laidMetH Tryz.prog Rows.fnExactDidPlainRow.laid w) ∧ sizedMet enc Tryz.prog Tryz.f6 (OpenSpec.ofChange Rows.fnExactDidPlainSpec) false w args) (Rows.fnExactDidPlainSpec.post enc Tryz.prog Tryz.f6 false true false false) := by
  refine returnsInHanded_of_change_and (C := Tryz.checked) (X := fun w _ => laidMetH Tryz.prog Rows.fnExactDidPlainRow.laid w) (fun _ _ _ hh h => h.of_heap hh) own started (by kernel_rfl) Tryz.func6
    (ChangeSpec.witness_at (enc := enc) (C := Tryz.checked) (os := os) (X := fun w _ => laidMetH Tryz.prog Rows.fnExactDidPlainRow.laid w) false (laidWorld os) #[.slice none 0 0, .agg #[.int .i64 0, .string ByteArray.empty, .string ByteArray.empty, .int .i64 0, .int .i64 0, .int .i64 0], .int .i64 0] 8 rfl (by kernel_rfl) (by kernel_rfl) (by kernel_rfl) (by kernel_rfl) (by kernel_rfl) (show laidMetH Tryz.prog laidLess _ from laid_nine os _)) ?_
  intro W base args ds gs before hval0 hW _ _ hL _
  have hval : ∀ (j : Nat) t v, Tryz.f6.params[j]? = some t → args[j]? = some v → Value.okWide Tryz.prog W .any base t v := hval0
  have hW' := hW
  obtain ⟨p, q, hA0, hV, rfl, hfz, hnd⟩ := hW
  have hA : DataW.TrodAll enc Tryz.prog W 0 (fun _ => true) true Tryz.f6.params.toList args.toList ds p := hA0
  have hVN : DataW.TrodVars enc Tryz.prog W (fun _ => true) ["loop.example/g00372/impl.errNoPage", "loop.example/g00372/impl.errWrongOp", "loop.example/g00372/impl.errNoBook", "loop.example/g00372/impl.errBookThere", "loop.example/g00372/impl.errFenced", "loop.example/g00372/impl.errFixed", "loop.example/g00372/impl.errRange", "loop.example/g00372/impl.errManyBooks", "loop.example/g00372/impl.errWorn"] gs q := hV
  have hvl := vars_length hVN
  rw [Tryz.params6] at hA hval
  obtain ⟨v0, vs0, d0, ds0, p0, q0, hargs, rfl, rfl, h0, rr0⟩ := trodAll_cons hA
  obtain ⟨v1, vs1, d1, ds1, p1, q1, rfl, rfl, rfl, h1, rr1⟩ := trodAll_cons rr0
  obtain ⟨v2, vs2, d2, ds2, p2, q2, rfl, rfl, rfl, h2, rr2⟩ := trodAll_cons rr1
  obtain ⟨rfl, rfl, rfl⟩ := trodAll_nil rr2
  obtain rfl : args = #[v0, v1, v2] := by cases args; simp_all
  have kk0 := h0
  have lt0 : ∀ x ∈ p0, x.block < W.heap.size := by obtain ⟨fuel, hfuel⟩ := kk0; exact DataW.trod_lt fuel _ _ _ hfuel
  obtain ⟨bs0, w0, z0⟩ := open_plains (hval 0 53 v0 rfl rfl) h0
  have kk1 := h1
  have lt1 : ∀ x ∈ p1, x.block < W.heap.size := by obtain ⟨fuel, hfuel⟩ := kk1; exact DataW.trod_lt fuel _ _ _ hfuel
  obtain ⟨ok1, on1, oo1, oa1, ov1, oe1, rfl, u1, x1, fk1, fa1, fv1, fe1⟩ := open_op (hval 1 54 v1 rfl rfl) h1
  have kk2 := h2
  have lt2 : ∀ x ∈ p2, x.block < W.heap.size := by obtain ⟨fuel, hfuel⟩ := kk2; exact DataW.trod_lt fuel _ _ _ hfuel
  obtain ⟨a2, rfl, w2⟩ := open_i64 (hval 2 2 v2 rfl rfl) h2
  clear hA0 hval0
  refine (walk v0 bs0 ok1 on1 oo1 oa1 ov1 oe1 a2 W w0 z0 u1 x1 fk1 fa1 fv1 fe1 w2 (adOf W) (vars_nine (show laidMetH Tryz.prog laidLess W from hL))).mono fun e W' ⟨he, bel⟩ => ?_
  subst he
  match gs, hvl, hVN with
  | [g1, g2, g3, g4, g5, g6, g7, g8, g9], _, hVN =>
    exact ⟨_, rfl, _, _, _, [], _, q, hW', trodAll_mk1 (shut_bool Tryz.underlying4 _), (trodAll_cons_mk (Below.trod laidOut (by kernel_rfl) (of_decide_eq_true (by kernel_rfl)) kk0 bel lt0) (trodAll_cons_mk (Below.trod laidOut (by kernel_rfl) (of_decide_eq_true (by kernel_rfl)) kk1 bel lt1) (trodAll_cons_mk (Below.trod laidOut (by kernel_rfl) (of_decide_eq_true (by kernel_rfl)) kk2 bel lt2) trodAll_mk0))), Below.trodVars laidOut bel (by kernel_rfl) hVN, bel.frame _, fun h => by cases h⟩

theorem over : Rows.fnExactDidPlainRow.holds Tryz.pinned (OpenSpec.ofChange Rows.fnExactDidPlainSpec) :=
  OpenClaim.holds_of_wide 6 Tryz.f6 rfl rfl rfl rfl rfl rfl rfl ⟨rfl, rfl, rfl, rfl, rfl⟩ rfl rfl rfl rfl rfl hfn Tryz.func6 closed hinst hwrap
    (fun os started H enc _ => lifted os started H enc)

theorem proved : Rows.FnExactDidPlainCardSaid :=
  Claim7.holds_tied_plain_at .later [] [.handle, .sentinel, .sentinel, .sentinel, .sentinel, .sentinel, .sentinel, .sentinel, .sentinel, .sentinel] true (true, "c1202ad587a82d4a6b2824aa68a774fbcede363e1cfa9649eab5822d3dd22308") true over (fun _ h => by cases h) byText (fun _ h => by cases h) fnExactDidPlain_row_tie rfl ⟨rfl, rfl⟩ mainIs rfl
    (fun f fn hf hfn' => by
      obtain rfl : f = 6 := (Option.some.inj (hfn.symm.trans hf)).symm
      obtain rfl : fn = Tryz.f6 := (Option.some.inj (Tryz.func6.symm.trans hfn')).symm
      exact ⟨looks, fun j t ht => by
        rw [Tryz.params6] at ht
        have hm : t ∈ [53, 54, 2] := by have h := Array.mem_of_getElem? ht; simpa using h
        simp only [List.mem_cons, List.mem_nil_iff, or_false] at hm
        rcases hm with rfl | rfl | rfl
        · exact stand53
        · exact stand54
        · exact stand2⟩)
    goes
#print axioms proved
end Go.Proofs.YtcefcglonooelaaGreatDoor.fnExactDidPlain
