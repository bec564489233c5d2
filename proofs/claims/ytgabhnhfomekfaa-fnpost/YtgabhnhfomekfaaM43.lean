/-
  Contracts and plain laws, one chapter behind the other.
-/
import Derived.Deep.Cut
import Derived.BigQuiet
import Derived.Test.YtgabhnhfomekfaaM22
import Derived.Test.YtgabhnhfomekfaaM39
namespace Go.Proofs.Ytgabhnhfomekfaa
open Go.RowKit

set_option linter.unusedVariables false

set_option maxRecDepth 100000


theorem quiet_neq15 {C : World → Prop} {K : Act → Prop} {a : Act} {o : Oper} (x y : Operand) (tt : TypeId) (ho : o.op = .binOp .neq 38 x y tt) (m m' : Mg) (hx : a.eval x = mgV m) (hy : a.eval y = mgV m')
    (h : K (a.put o.dst (.bool (!mgEq m m')))) : o.quiet Try.prog a C K :=
  ⟨_, fun w _ => by
    have hg := Try.eqGuardType38
    have he := msg_equal15 m m' w
    have hv : ∀ m : Mg, ∃ c, mgV m = .agg c := fun m => ⟨_, rfl⟩
    obtain ⟨c, hc⟩ := hv m
    obtain ⟨c', hc'⟩ := hv m'
    rw [hc, hc'] at he
    rw [hc] at hx
    rw [hc'] at hy
    have hb : (do eqGuard .neq 38 x y (.agg c) (.agg c'); binOp .neq 38 (.agg c) (.agg c') : Sem Value).run Try.prog w = .ok (.bool (!mgEq m m')) w := by
      simp [eqGuard, hg, binOp, Op.equal, Op.maxDepth, he]
    unfold Oper.quietAt execOp
    simp only [ho, hx, hy, Sem.run_bind, Sem.run_pure, Result.andThen_ok, hb]
    exact ⟨rfl, rfl⟩, h⟩

theorem quiet_eql15 {C : World → Prop} {K : Act → Prop} {a : Act} {o : Oper} (x y : Operand) (tt : TypeId) (ho : o.op = .binOp .eql 38 x y tt) (m m' : Mg) (hx : a.eval x = mgV m) (hy : a.eval y = mgV m')
    (h : K (a.put o.dst (.bool (mgEq m m')))) : o.quiet Try.prog a C K :=
  ⟨_, fun w _ => by
    have hg := Try.eqGuardType38
    have he := msg_equal15 m m' w
    have hv : ∀ m : Mg, ∃ c, mgV m = .agg c := fun m => ⟨_, rfl⟩
    obtain ⟨c, hc⟩ := hv m
    obtain ⟨c', hc'⟩ := hv m'
    rw [hc, hc'] at he
    rw [hc] at hx
    rw [hc'] at hy
    have hb : (do eqGuard .eql 38 x y (.agg c) (.agg c'); binOp .eql 38 (.agg c) (.agg c') : Sem Value).run Try.prog w = .ok (.bool (mgEq m m')) w := by
      simp [eqGuard, hg, binOp, Op.equal, Op.maxDepth, he]
    unfold Oper.quietAt execOp
    simp only [ho, hx, hy, Sem.run_bind, Sem.run_pure, Result.andThen_ok, hb]
    exact ⟨rfl, rfl⟩, h⟩

theorem mgEq_self (m : Mg) : mgEq m m = true := (mgEq_iff m m).2 rfl

set_option maxHeartbeats 3200000 in
theorem likePost_same (v v' : Value) (bs : List Mg) (w : World) (r : ReadsR 15 mgC w.heap.size w v bs) (r' : ReadsR 15 mgC w.heap.size w v' bs) :
    Calls Try.prog 13 #[v, v'] w fun e w' => e = .returned (.bool true) ∧ Below w.heap.size w w' := by
  obtain ⟨o1, cap1, rfl, m1, c1, -⟩ := r
  obtain ⟨o2, cap2, rfl, m2, c2, -⟩ := r'
  have C1 : Hid _ := mg_cells c1
  have C2 : Hid _ := mg_cells c2
  unfold maxLen at m1
  clear c1 c2 m2
  go_enter Try.func13, Try.ntmps13
  go_wp2
  go_loopw [5] (fun i wr => ∃ k : Nat, k ≤ bs.length ∧ i = .int .i64 k ∧ Below w.heap.size w wr) (fun i _ => bs.length - (intOf i).toNat)
  case atStart => exact ⟨0, Nat.zero_le _, rfl, Below.refl _ _⟩
  case round =>
    obtain ⟨kk, hk, rfl, hb⟩ := hrel
    by_cases hlt : kk < bs.length
    · obtain ⟨g1, of1, rfl, q1, A⟩ := C1.out kk hlt
      obtain ⟨g2, of2, rfl, q2, B⟩ := C2.out kk hlt
      generalize bs[kk] = x at A B
      obtain ⟨kd, ds, vw, ⟨sq, cl, tg, ⟨k, nm, ot, at_, va, ep⟩⟩, s, rc, rv⟩ := x
      simp only at A B
      obtain ⟨a0, a1, a2, a3, a4, a5, a6, a7, a8, a9, a10, a11, a12, a13, a14⟩ := A
      obtain ⟨b0, b1, b2, b3, b4, b5, b6, b7, b8, b9, b10, b11, b12, b13, b14⟩ := B
      have d0 := (hb.cell (p := ⟨g1, of1 + kk * 15, none⟩) q1).trans a0
      have f0 := (hb.cell (p := ⟨g2, of2 + kk * 15, none⟩) q2).trans b0
      have d1 := (hb.cell (p := ⟨g1, of1 + kk * 15 + 1, none⟩) q1).trans a1
      have f1 := (hb.cell (p := ⟨g2, of2 + kk * 15 + 1, none⟩) q2).trans b1
      have d2 := (hb.cell (p := ⟨g1, of1 + kk * 15 + 2, none⟩) q1).trans a2
      have f2 := (hb.cell (p := ⟨g2, of2 + kk * 15 + 2, none⟩) q2).trans b2
      have d3 := (hb.cell (p := ⟨g1, of1 + kk * 15 + 3, none⟩) q1).trans a3
      have f3 := (hb.cell (p := ⟨g2, of2 + kk * 15 + 3, none⟩) q2).trans b3
      have d4 := (hb.cell (p := ⟨g1, of1 + kk * 15 + 4, none⟩) q1).trans a4
      have f4 := (hb.cell (p := ⟨g2, of2 + kk * 15 + 4, none⟩) q2).trans b4
      have d5 := (hb.cell (p := ⟨g1, of1 + kk * 15 + 5, none⟩) q1).trans a5
      have f5 := (hb.cell (p := ⟨g2, of2 + kk * 15 + 5, none⟩) q2).trans b5
      have d6 := (hb.cell (p := ⟨g1, of1 + kk * 15 + 6, none⟩) q1).trans a6
      have f6 := (hb.cell (p := ⟨g2, of2 + kk * 15 + 6, none⟩) q2).trans b6
      have d7 := (hb.cell (p := ⟨g1, of1 + kk * 15 + 7, none⟩) q1).trans a7
      have f7 := (hb.cell (p := ⟨g2, of2 + kk * 15 + 7, none⟩) q2).trans b7
      have d8 := (hb.cell (p := ⟨g1, of1 + kk * 15 + 8, none⟩) q1).trans a8
      have f8 := (hb.cell (p := ⟨g2, of2 + kk * 15 + 8, none⟩) q2).trans b8
      have d9 := (hb.cell (p := ⟨g1, of1 + kk * 15 + 9, none⟩) q1).trans a9
      have f9 := (hb.cell (p := ⟨g2, of2 + kk * 15 + 9, none⟩) q2).trans b9
      have d10 := (hb.cell (p := ⟨g1, of1 + kk * 15 + 10, none⟩) q1).trans a10
      have f10 := (hb.cell (p := ⟨g2, of2 + kk * 15 + 10, none⟩) q2).trans b10
      have d11 := (hb.cell (p := ⟨g1, of1 + kk * 15 + 11, none⟩) q1).trans a11
      have f11 := (hb.cell (p := ⟨g2, of2 + kk * 15 + 11, none⟩) q2).trans b11
      have d12 := (hb.cell (p := ⟨g1, of1 + kk * 15 + 12, none⟩) q1).trans a12
      have f12 := (hb.cell (p := ⟨g2, of2 + kk * 15 + 12, none⟩) q2).trans b12
      have d13 := (hb.cell (p := ⟨g1, of1 + kk * 15 + 13, none⟩) q1).trans a13
      have f13 := (hb.cell (p := ⟨g2, of2 + kk * 15 + 13, none⟩) q2).trans b13
      have d14 := (hb.cell (p := ⟨g1, of1 + kk * 15 + 14, none⟩) q1).trans a14
      have f14 := (hb.cell (p := ⟨g2, of2 + kk * 15 + 14, none⟩) q2).trans b14
      have j0 : (0 : Int) ≤ (kk : Int) := by omega
      have j1 : (kk : Int) < (bs.length : Int) := by omega
      clear a0 a1 a2 a3 a4 a5 a6 a7 a8 a9 a10 a11 a12 a13 a14 b0 b1 b2 b3 b4 b5 b6 b7 b8 b9 b10 b11 b12 b13 b14 C1 C2
      go_wp2_with fail
      refine wp_region_quiet_lit (by kernel_rfl) (by kernel_rfl) ?_
      repeat (first
        | (go_big_quiet_want; refine quiet_neq15 _ _ _ rfl ⟨kd, ds, vw, ⟨sq, cl, tg, ⟨k, nm, ot, at_, va, ep⟩⟩, s, rc, rv⟩ ⟨kd, ds, vw, ⟨sq, cl, tg, ⟨k, nm, ot, at_, va, ep⟩⟩, s, rc, rv⟩ rfl rfl ?_; rw [mgEq_self]; go_big_quiet_on)
        | go_big_quiet_step (fail))
      refine wpQuiet_nil ?_
      intro _ hw'
      obtain ⟨nq, hw''⟩ := hw'
      subst hw''
      clear d0 d1 d2 d3 d4 d5 d6 d7 d8 d9 d10 d11 d12 d13 d14 f0 f1 f2 f3 f4 f5 f6 f7 f8 f9 f10 f11 f12 f13 f14
      go_wp2
      go_roundw
      case rel => exact ⟨kk + 1, by omega, by go_num, ⟨hb.os, hb.tape, hb.output, hb.size, hb.block⟩⟩
      case measure => simp [intOf]; omega
    · go_wp2
      go_ret
      exact ⟨rfl, hb⟩

theorem likePost_len (v v' : Value) (xs ys : List Mg) (w : World) (r : ReadsR 15 mgC w.heap.size w v xs) (r' : ReadsR 15 mgC w.heap.size w v' ys) (hne : xs.length ≠ ys.length) :
    Calls Try.prog 13 #[v, v'] w fun e w' => e = .returned (.bool false) ∧ Below w.heap.size w w' := by
  obtain ⟨o1, cap1, rfl, m1, c1, -⟩ := r
  obtain ⟨o2, cap2, rfl, m2, c2, -⟩ := r'
  have hn : ¬ (xs.length : Int) = (ys.length : Int) := by omega
  have hn2 : ((xs.length : Int) == (ys.length : Int)) = false := by simpa using hn
  clear c1 c2
  go_enter Try.func13, Try.ntmps13
  go_wp2
  go_ret
  exact ⟨rfl, Below.refl _ _⟩
end Go.Proofs.Ytgabhnhfomekfaa

