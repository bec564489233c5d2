/-
  Contracts and plain laws, one chapter behind the other.
-/
import Derived.Test.YtgabhnhfomekfaaM46
import Derived.Test.YtgabhnhfomekfaaM47
namespace Go.Proofs.Ytgabhnhfomekfaa
open Go.RowKit

set_option linter.unusedVariables false

set_option maxRecDepth 100000


section
variable {P : Program} {Q : Exit → Act → World → Prop} {o : Oper} {K : Act → World → Prop} {a : Act} {x : World}

theorem op_lookup (t : TypeId) (m y : Tmp) (ho : o.op = .lookup t (.tmp m) (.tmp y) false) (vm vy : Value) (hm : a.tmps.getD m undef = vm) (hy : a.tmps.getD y undef = vy) (v : Value) (hr : (Instr.lookup t vm vy false).run P x = .ok v x) (h : K (a.put o.dst v) x) : o.wp P a x K Q := by
  have hm' : a.eval (.tmp m) = vm := hm
  have hy' : a.eval (.tmp y) = vy := hy
  unfold Oper.wp execOp
  simp only [ho, hm', hy', Sem.run_bind, Sem.run_pure, Result.andThen_ok, hr]
  exact h

theorem op_entry (t : TypeId) (m y : Tmp) (ho : o.op = .mapEntry t (.tmp m) (.tmp y)) (vm vy : Value) (hm : a.tmps.getD m undef = vm) (hy : a.tmps.getD y undef = vy) (v : Value) (x' : World) (hr : (Instr.mapEntry t vm vy).run P x = .ok v x') (h : K (a.put o.dst v) x') : o.wp P a x K Q := by
  have hm' : a.eval (.tmp m) = vm := hm
  have hy' : a.eval (.tmp y) = vy := hy
  unfold Oper.wp execOp
  simp only [ho, hm', hy', Sem.run_bind, Sem.run_pure, Result.andThen_ok, hr]
  exact h

theorem op_estore (t : TypeId) (m s y : Tmp) (ho : o.op = .entryStore t (.tmp m) (.tmp s) (.tmp y)) (hdst : o.dst = none) (vm vs vy : Value) (hm : a.tmps.getD m undef = vm) (hs : a.tmps.getD s undef = vs) (hy : a.tmps.getD y undef = vy) (x' : World) (hr : (Instr.entryStore t vm vs vy).run P x = .ok () x') (h : K a x') : o.wp P a x K Q := by
  have hm' : a.eval (.tmp m) = vm := hm
  have hs' : a.eval (.tmp s) = vs := hs
  have hy' : a.eval (.tmp y) = vy := hy
  unfold Oper.wp execOp
  simp only [ho, hm', hs', hy', Sem.run_bind, Sem.run_pure, Result.andThen_ok, hr]
  show K (a.put o.dst undef) x'
  rw [hdst]
  exact h

end
section
variable {Q : Exit → Act → World → Prop} {o : Oper} {K : Act → World → Prop} {a : Act} {x : World}

theorem op_bits {op : BinOp} (hop : op = .or ∨ op = .andNot) (m y : Tmp) (tt : TypeId) (ho : o.op = .binOp op 72 (.tmp m) (.tmp y) tt) (c z d : Int) (hm : a.tmps.getD m undef = .int .u64 c) (hy : a.tmps.getD y undef = .int .u64 z) (hd : bits op .u64 c z = d) (h : K (a.put o.dst (.int .u64 d)) x) : o.wp Try.prog a x K Q := by
  have hm' : a.eval (.tmp m) = .int .u64 c := hm
  have hy' : a.eval (.tmp y) = .int .u64 z := hy
  have hb : (do eqGuard op 72 (.tmp m) (.tmp y) (.int .u64 c) (.int .u64 z); binOp op 72 (.int .u64 c) (.int .u64 z) : Sem Value).run Try.prog x = .ok (.int .u64 d) x := by
    rw [← hd]
    rcases hop with rfl | rfl <;> simp [eqGuard, binOp, Op.intBits, bits]
  unfold Oper.wp execOp
  simp only [ho, hm', hy', Sem.run_bind, Sem.run_pure, Result.andThen_ok, hb]
  exact h

theorem op_andNot {m y : Tmp} {tt : TypeId} (ho : o.op = .binOp .andNot 72 (.tmp m) (.tmp y) tt := by rfl) (c q : Nat) (hc : c < 2 ^ 64) (hq : q < 64) (hm : a.tmps.getD m undef = .int .u64 (c : Int)) (hy : a.tmps.getD y undef = .int .u64 ((2 ^ q : Nat) : Int)) (h : K (a.put o.dst (.int .u64 ((clr c q : Nat) : Int))) x) : o.wp Try.prog a x K Q :=
  op_bits (.inr rfl) m y tt ho _ _ _ hm hy (andNot15 c q) h

theorem op_or {m y : Tmp} {tt : TypeId} (ho : o.op = .binOp .or 72 (.tmp m) (.tmp y) tt := by rfl) (c q : Nat) (hc : c < 2 ^ 64) (hq : q < 64) (hm : a.tmps.getD m undef = .int .u64 (c : Int)) (hy : a.tmps.getD y undef = .int .u64 ((2 ^ q : Nat) : Int)) (h : K (a.put o.dst (.int .u64 ((c ||| 2 ^ q : Nat) : Int))) x) : o.wp Try.prog a x K Q :=
  op_bits (.inl rfl) m y tt ho _ _ _ hm hy (or15 hc hq) h

end

set_option maxHeartbeats 3200000 in
theorem takeOut_any (b n : Nat) (f : Nat → Option Mg) (kd ds vw sq cl tg k : Int) (nm ot : ByteArray) (at_ va ep s rc rv : Int) (q : Nat) (w : World) (TB : BagW w b n f) (hn : n < maxLen) (hf : FitMsg ⟨kd, ds, vw, ⟨sq, cl, tg, ⟨k, nm, ot, at_, va, ep⟩⟩, s, rc, rv⟩) (hq : q < 60) (hfq : f q = some ⟨kd, ds, vw, ⟨sq, cl, tg, ⟨k, nm, ot, at_, va, ep⟩⟩, s, rc, rv⟩) :
    Calls Try.prog 24 #[.map (some b), .agg #[.int .i64 kd, .int .i64 ds, .int .i64 vw, .int .i64 sq, .int .i64 cl, .int .i64 tg, .int .i64 k, .string nm, .string ot, .int .i64 at_, .int .i64 va, .int .i64 ep, .int .i64 s, .int .i64 rc, .int .i64 rv], .int .i64 (q : Int)] w fun e w' => e = .returned (.tuple #[]) ∧ BagW w' b (n + 1) (upd f q none) ∧ w.grownBy w' (some b) := by
  obtain ⟨kl, hkm⟩ := key_of hf
  have hbw := TB.lt
  obtain ⟨D0, own0, hB⟩ := TB.ex
  clear TB
  obtain ⟨c, hc, hmask⟩ := hB.at_ _ kl hkm
  have hc64 := hmask.1
  obtain ⟨W, hW⟩ : ∃ W, w.alloc (.cells #[.int .i64 kd, .int .i64 ds, .int .i64 vw, .int .i64 sq, .int .i64 cl, .int .i64 tg, .int .i64 k, .string nm, .string ot, .int .i64 at_, .int .i64 va, .int .i64 ep, .int .i64 s, .int .i64 rc, .int .i64 rv] 38) = W := ⟨_, rfl⟩
  have HW : Hid (w.alloc (.cells #[.int .i64 kd, .int .i64 ds, .int .i64 vw, .int .i64 sq, .int .i64 cl, .int .i64 tg, .int .i64 k, .string nm, .string ot, .int .i64 at_, .int .i64 va, .int .i64 ep, .int .i64 s, .int .i64 rc, .int .i64 rv] 38) = W) := hW
  have dW : Below w.heap.size w W := by rw [← hW]; exact bw_alloc (Below.refl _ _)
  have kC : W.heap[w.heap.size]? = some (.cells #[.int .i64 kd, .int .i64 ds, .int .i64 vw, .int .i64 sq, .int .i64 cl, .int .i64 tg, .int .i64 k, .string nm, .string ot, .int .i64 at_, .int .i64 va, .int .i64 ep, .int .i64 s, .int .i64 rc, .int .i64 rv] 38 (0, 0)) := by rw [← hW]; exact heap_alloc_new w _
  have own := map_of_block own0 (dW.block b hbw)
  have hnb : w.heap.size ≠ b := by omega
  clear hW own0
  obtain ⟨st, wE, u, hE, uE, hlE, hS0⟩ := bag_entry (w := W.drew) (show W.drew.ownsMap Try.prog 38 bagR b n D0 from own) hn hkm hc
  obtain ⟨wS, hSt, oS, uS⟩ := hS0 (clr c q) (clr_lt c q)
  obtain ⟨c', hl0, hat, -⟩ := World.ownsMap.lookup_int (w := W.drew) (show W.drew.ownsMap Try.prog 38 bagR b n D0 from own) bagKeys Try.underlying49 Try.underlying72 (bagZero _) hkm
  have hcc : c' = (c : Int) := by
    have e := hat.symm.trans hc
    simpa [setD] using e
  subst hcc
  simp only [mgV] at hE hlE hl0
  clear hS0 hat
  have HI : Hid ((Try.prog.info? 38).map (·.size) = some (#[.int .i64 kd, .int .i64 ds, .int .i64 vw, .int .i64 sq, .int .i64 cl, .int .i64 tg, .int .i64 k, .string nm, .string ot, .int .i64 at_, .int .i64 va, .int .i64 ep, .int .i64 s, .int .i64 rc, .int .i64 rv] : Array Value).size) := sizeMsg15
  obtain ⟨X, hX0⟩ : ∃ X : Bool → Bool → World, X = fun b1 b2 => if b2 = true then wS else if b1 = true then wE else W.drew := ⟨_, rfl⟩
  have hXs : X false false = W.drew := by rw [hX0]; rfl
  have hXC : ∀ b1 b2, (X b1 b2).heap[w.heap.size]? = some (.cells #[.int .i64 kd, .int .i64 ds, .int .i64 vw, .int .i64 sq, .int .i64 cl, .int .i64 tg, .int .i64 k, .string nm, .string ot, .int .i64 at_, .int .i64 va, .int .i64 ep, .int .i64 s, .int .i64 rc, .int .i64 rv] 38 (0, 0)) := fun b1 b2 => by
    rw [hX0]
    cases b2
    · cases b1
      · exact kC
      · exact (uE.block w.heap.size (heap_lt kC) hnb).trans kC
    · exact (uS.block w.heap.size (heap_lt kC) hnb).trans kC
  have hXl : ∀ b1, (Instr.lookup 49 (.map (some (b))) (.agg #[.int .i64 kd, .int .i64 ds, .int .i64 vw, .int .i64 sq, .int .i64 cl, .int .i64 tg, .int .i64 k, .string nm, .string ot, .int .i64 at_, .int .i64 va, .int .i64 ep, .int .i64 s, .int .i64 rc, .int .i64 rv]) false).run Try.prog (X b1 false) = .ok (.int .u64 (c : Int)) (X b1 false) := fun b1 => by
    rw [hX0]
    cases b1
    · exact hl0
    · exact hlE
  have hX : Hid _ := hX0
  have HE : Hid _ := hE
  have HST : Hid _ := hSt
  have HXL : Hid _ := hXl
  have HXC : Hid _ := hXC
  clear hX0 hE hSt hXl hXC hlE hl0
  have HO : Hid (BagW wS b (n + 1) (upd f q none)) := ⟨_, oS, hB.drop hq hf hfq hkm hc⟩
  have HG : Hid (w.grownBy wS (some b)) := ⟨uS.os.trans dW.os, uS.tape.trans dW.tape, uS.output.trans dW.output, Nat.le_trans dW.size uS.size, fun i hi hne => (uS.block i (Nat.lt_of_lt_of_le hi dW.size) (fun e => hne (by rw [e]))).trans (dW.block i hi)⟩
  clear oS uS uE own hB
  go_enter Try.func24, Try.ntmps24
  go_upto_region 1 with fail
  rw [HW.out]
  obtain ⟨R, hR0⟩ : ∃ R : Nat → Value → Prop, R = fun j v => match j with
    | 0 => v = .map (some (b))
    | 1 => v = .agg #[.int .i64 kd, .int .i64 ds, .int .i64 vw, .int .i64 sq, .int .i64 cl, .int .i64 tg, .int .i64 k, .string nm, .string ot, .int .i64 at_, .int .i64 va, .int .i64 ep, .int .i64 s, .int .i64 rc, .int .i64 rv]
    | 2 => v = .int .u64 (c : Int)
    | 3 => v = .int .i64 (q : Int)
    | 4 => v = .int .u64 ((2 ^ q : Nat) : Int)
    | 5 => v = .int .u64 ((clr c q : Nat) : Int)
    | 6 => v = .tuple #[u, goInt st]
    | 7 => v = goInt st
    | 8 => True
    | _ => True := ⟨_, rfl⟩
  have hR : Hid _ := hR0
  clear hR0
  refine wp_region_inv (I := RB _ 6 8 R _ X) (by kernel_rfl) (by rw [← hXs]; exact RB.start _ 6 8 R _ X) ?_ ?_
  · intro L a x i hL hD hi h
    have hin : i < 9 := (ready_mem hi).1
    have hnot := (ready_mem hi).2.1
    have hc : i = 0 ∨ i = 1 ∨ i = 2 ∨ i = 3 ∨ i = 4 ∨ i = 5 ∨ i = 6 ∨ i = 7 ∨ i = 8 := by omega
    rcases hc with rfl | rfl | rfl | rfl | rfl | rfl | rfl | rfl | rfl
    · have r : a.tmps.getD 0 undef = .map (some (b)) := h.old 0 (by kernel_rfl)
      refine wpOp_of rfl rfl (op_move 0 rfl ?_)
      exact h.val 0 6 _ (by decide) (by decide) (by kernel_rfl) (of_decide_eq_true (by kernel_rfl)) (by kernel_rfl) (by kernel_rfl) (by rw [hR.out]; exact r)
    · have r : a.tmps.getD 4 undef = .pointer (some ⟨w.heap.size, 0, none⟩) := h.old 4 (by kernel_rfl)
      refine wpOp_of rfl rfl (op_load 38 4 rfl w.heap.size r #[.int .i64 kd, .int .i64 ds, .int .i64 vw, .int .i64 sq, .int .i64 cl, .int .i64 tg, .int .i64 k, .string nm, .string ot, .int .i64 at_, .int .i64 va, .int .i64 ep, .int .i64 s, .int .i64 rc, .int .i64 rv] 38 (0, 0) (by rw [h.wld]; exact HXC.out _ _) _ Try.underlying38 rfl HI.out ?_)
      exact h.val 1 7 _ (by decide) (by decide) (by kernel_rfl) (of_decide_eq_true (by kernel_rfl)) (by kernel_rfl) (by kernel_rfl) (by rw [hR.out]; exact rfl)
    · have r0_ := h.rel 0 6 (ready_dep hi (by kernel_rfl)) (by kernel_rfl)
      rw [hR.out] at r0_
      have r0 : a.tmps.getD 6 undef = .map (some (b)) := r0_
      clear r0_
      have r1_ := h.rel 1 7 (ready_dep hi (by kernel_rfl)) (by kernel_rfl)
      rw [hR.out] at r1_
      have r1 : a.tmps.getD 7 undef = .agg #[.int .i64 kd, .int .i64 ds, .int .i64 vw, .int .i64 sq, .int .i64 cl, .int .i64 tg, .int .i64 k, .string nm, .string ot, .int .i64 at_, .int .i64 va, .int .i64 ep, .int .i64 s, .int .i64 rc, .int .i64 rv] := r1_
      clear r1_
      have hn' : L.getD 8 false = false := hD.no 8 [5, 2] hnot (by kernel_rfl) rfl
      have hx := h.wld
      rw [hn'] at hx
      refine wpOp_of rfl rfl (op_lookup 49 6 7 rfl _ _ r0 r1 (.int .u64 (c : Int)) (by rw [hx]; exact HXL.out _) ?_)
      exact h.val 2 8 _ (by decide) (by decide) (by kernel_rfl) (of_decide_eq_true (by kernel_rfl)) (by kernel_rfl) (by kernel_rfl) (by rw [hR.out]; exact rfl)
    · have r : a.tmps.getD 2 undef = .int .i64 (q : Int) := h.old 2 (by kernel_rfl)
      refine wpOp_of rfl rfl (op_move 2 rfl ?_)
      exact h.val 3 9 _ (by decide) (by decide) (by kernel_rfl) (of_decide_eq_true (by kernel_rfl)) (by kernel_rfl) (by kernel_rfl) (by rw [hR.out]; exact r)
    · have r_ := h.rel 3 9 (ready_dep hi (by kernel_rfl)) (by kernel_rfl)
      rw [hR.out] at r_
      have r : a.tmps.getD 9 undef = .int .i64 (q : Int) := r_
      clear r_
      have r' : a.tmps[9]?.getD undef = .int .i64 (q : Int) := by rw [← Array.getD_eq_getD_getElem?]; exact r
      refine wpOp_of rfl rfl ?_
      unfold Oper.wp
      go_simp
      go_at_call 43
      refine (onlyPlace_any q (by omega) _).mono ?_
      rintro e w' ⟨rfl, rfl⟩
      exact h.val 4 10 _ (by decide) (by decide) (by kernel_rfl) (of_decide_eq_true (by kernel_rfl)) (by kernel_rfl) (by kernel_rfl) (by rw [hR.out]; exact rfl)
    · have r2_ := h.rel 2 8 (ready_dep hi (by kernel_rfl)) (by kernel_rfl)
      rw [hR.out] at r2_
      have r2 : a.tmps.getD 8 undef = .int .u64 (c : Int) := r2_
      clear r2_
      have r4_ := h.rel 4 10 (ready_dep hi (by kernel_rfl)) (by kernel_rfl)
      rw [hR.out] at r4_
      have r4 : a.tmps.getD 10 undef = .int .u64 ((2 ^ q : Nat) : Int) := r4_
      clear r4_
      refine wpOp_of rfl rfl (op_andNot rfl c q (by omega) (by omega) r2 r4 ?_)
      exact h.val 5 11 _ (by decide) (by decide) (by kernel_rfl) (of_decide_eq_true (by kernel_rfl)) (by kernel_rfl) (by kernel_rfl) (by rw [hR.out]; exact rfl)
    · have r0_ := h.rel 0 6 (ready_dep hi (by kernel_rfl)) (by kernel_rfl)
      rw [hR.out] at r0_
      have r0 : a.tmps.getD 6 undef = .map (some (b)) := r0_
      clear r0_
      have r1_ := h.rel 1 7 (ready_dep hi (by kernel_rfl)) (by kernel_rfl)
      rw [hR.out] at r1_
      have r1 : a.tmps.getD 7 undef = .agg #[.int .i64 kd, .int .i64 ds, .int .i64 vw, .int .i64 sq, .int .i64 cl, .int .i64 tg, .int .i64 k, .string nm, .string ot, .int .i64 at_, .int .i64 va, .int .i64 ep, .int .i64 s, .int .i64 rc, .int .i64 rv] := r1_
      clear r1_
      have hn' : L.getD 6 false = false := not_done hnot
      have hn2 : L.getD 8 false = false := hD.no 8 [7, 6] hnot (by kernel_rfl) rfl
      have hx := h.wld
      rw [hn', hn2] at hx
      refine wpOp_of rfl rfl (op_entry 49 6 7 rfl _ _ r0 r1 (.tuple #[u, goInt st]) wE (by rw [hx, hXs]; exact HE.out) ?_)
      exact h.ent (by decide) 12 _ _ (by rw [hL]; exact of_decide_eq_true (by kernel_rfl)) (by kernel_rfl) (of_decide_eq_true (by kernel_rfl)) (by kernel_rfl) (by kernel_rfl) (by rw [hn2, hX.out]; rfl) (by rw [hR.out]; exact rfl)
    · have r_ := h.rel 6 12 (ready_dep hi (by kernel_rfl)) (by kernel_rfl)
      rw [hR.out] at r_
      have r : a.tmps.getD 12 undef = .tuple #[u, goInt st] := r_
      clear r_
      have r' : a.tmps[12]?.getD undef = .tuple #[u, goInt st] := by rw [← Array.getD_eq_getD_getElem?]; exact r
      refine wpOp_of rfl rfl ?_
      unfold Oper.wp
      go_simp
      exact h.val 7 13 _ (by decide) (by decide) (by kernel_rfl) (of_decide_eq_true (by kernel_rfl)) (by kernel_rfl) (by kernel_rfl) (by rw [hR.out]; exact rfl)
    · have r0_ := h.rel 0 6 (ready_dep hi (by kernel_rfl)) (by kernel_rfl)
      rw [hR.out] at r0_
      have r0 : a.tmps.getD 6 undef = .map (some (b)) := r0_
      clear r0_
      have r7_ := h.rel 7 13 (ready_dep hi (by kernel_rfl)) (by kernel_rfl)
      rw [hR.out] at r7_
      have r7 : a.tmps.getD 13 undef = goInt st := r7_
      clear r7_
      have r5_ := h.rel 5 11 (ready_dep hi (by kernel_rfl)) (by kernel_rfl)
      rw [hR.out] at r5_
      have r5 : a.tmps.getD 11 undef = .int .u64 ((clr c q : Nat) : Int) := r5_
      clear r5_
      have hd6 : L.getD 6 false = true := by
        have h7 := ready_dep hi (show depB _ _ 8 7 = true by kernel_rfl)
        exact hD 7 6 h7 (by kernel_rfl)
      have hn2 : L.getD 8 false = false := not_done hnot
      have hx := h.wld
      rw [hd6, hn2, hX.out] at hx
      have hx' : x = wE := hx
      refine wpOp_of rfl rfl (op_estore 49 6 13 11 rfl rfl _ _ _ r0 r7 r5 wS (by rw [hx']; exact HST.out) ?_)
      exact h.sto (by decide) _ (by rw [hL]; exact of_decide_eq_true (by kernel_rfl)) (by kernel_rfl) (by rw [hX.out]; rfl)
  · intro L a x hL hD hr h
    have hall := all_done hL hr (by kernel_rfl)
    have hx := h.wld
    rw [hall 8 (of_decide_eq_true (by kernel_rfl)), hX.out] at hx
    have hx' : x = wS := hx
    have hfr := h.frame [6, 7, 8, 9, 10, 11, 12, 13] (by kernel_rfl)
    obtain ⟨f, hf⟩ : ∃ f : Nat → Value, (fun s => a.tmps.getD s undef) = f := ⟨_, rfl⟩
    rw [hf] at hfr
    subst hfr
    simp only [Act.puts, Act.put, List.setIfInBounds_toArray, List.set_cons_succ, List.set_cons_zero]
    generalize f 6 = u6
    generalize f 7 = u7
    generalize f 8 = u8
    generalize f 9 = u9
    generalize f 10 = u10
    generalize f 11 = u11
    generalize f 12 = u12
    generalize f 13 = u13
    clear h hall hx hr hD hL hXs hX hR hf  f
    subst hx'
    go_wp2_with fail
    go_end0
    exact ⟨rfl, HO.out, HG.out⟩
end Go.Proofs.Ytgabhnhfomekfaa

