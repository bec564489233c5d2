/-
  The laws' helpers on an op: its size, copied, the same; an op as an argument, opened.
-/
import Derived.Test.YtghhphhnalfjaaaOpM
import Derived.Test.YtghhphhnalfjaaaArgs
import Derived.Test.YtghhphhnalfjaaaSetAt
import Derived.Test.YtghhphhnalfjaaaMapM
import Derived.Test.YtghhphhnalfjaaaTexts
import Derived.Deep.RegionHeld3
namespace Go.Proofs.Ytghhphhnalfjaaa
open Go.ChangeShapes Go.WideShapes Go.ChangeAt Go.RowKit Go.Joins
set_option linter.unusedVariables false
set_option maxRecDepth 100000

theorem lit_i64o {a : Int} (h : (Lit.int .i64 a).wf = true) : I64 a := by simpa [I64, Lit.wf, IntKind.min, IntKind.max, IntKind.signed, IntKind.bits] using h
theorem list6 {α : Type} {cs : List α} (h : cs.length = 6) : ∃ c0 c1 c2 c3 c4 c5, cs = [c0, c1, c2, c3, c4, c5] := by
  match cs, h with
  | [c0, c1, c2, c3, c4, c5], _ => exact ⟨c0, c1, c2, c3, c4, c5, rfl⟩

theorem open_op {H : Type} {enc : TypeId × Value → H} {W : World} {base : Nat} {v : Value} {d : DataW H} {p : List MemPlace} (hv : Value.okWide Try.prog W .any base 55 v) (h : DataW.Trod enc Try.prog W 0 (fun _ => true) true 55 v d p) :
    ∃ (k : Int) (nm ot : ByteArray) (at_ va ep : Int), v = .agg #[.int .i64 k, .string nm, .string ot, .int .i64 at_, .int .i64 va, .int .i64 ep] ∧ nm.size ≤ maxLen ∧ ot.size ≤ maxLen ∧ I64 k ∧ I64 at_ ∧ I64 va ∧ I64 ep := by
  obtain ⟨cs, rfl, hsz⟩ := okWide_struct Try.underlying55 hv
  obtain ⟨fuel, hf⟩ := h
  have ce : Try.prog.cellsOf 55 = 6 := by kernel_rfl
  have c1 : Try.prog.cellsOf 2 = 1 := by kernel_rfl
  have c2 : Try.prog.cellsOf 9 = 1 := by kernel_rfl
  obtain ⟨xs, m, _, -, hl, hlen, hf⟩ := DataW.trod_struct Try.underlying55 hf
  have el : (Value.agg cs).cells.toList = cs.toList := by simp [Value.cells]
  rw [el] at hl hf
  obtain ⟨v0, v1, v2, v3, v4, v5, hc⟩ := list6 (hl.trans ce)
  rw [hc] at hf
  obtain ⟨y0, y1, y2, y3, y4, y5, rfl⟩ := list6 (show xs.length = 6 from hlen)
  have t0 := hf 0 _ rfl
  have t1 := hf 1 _ rfl
  have t2 := hf 2 _ rfl
  have t3 := hf 3 _ rfl
  have t4 := hf 4 _ rfl
  have t5 := hf 5 _ rfl
  simp [c1, c2] at t0 t1 t2 t3 t4 t5
  obtain ⟨k, e0, _, z0⟩ := DataW.trod_int Try.underlying2 t0
  obtain ⟨nm, e1, _, z1⟩ := DataW.trod_string Try.underlying9 t1
  obtain ⟨ot, e2, _, z2⟩ := DataW.trod_string Try.underlying9 t2
  obtain ⟨at_, e3, _, z3⟩ := DataW.trod_int Try.underlying2 t3
  obtain ⟨va, e4, _, z4⟩ := DataW.trod_int Try.underlying2 t4
  obtain ⟨ep, e5, _, z5⟩ := DataW.trod_int Try.underlying2 t5
  simp at e0 e1 e2 e3 e4 e5
  subst e0 e1 e2 e3 e4 e5
  refine ⟨k, nm, ot, at_, va, ep, ?_, z1, z2, lit_i64o z0, lit_i64o z3, lit_i64o z4, lit_i64o z5⟩
  rw [show cs = [Value.int .i64 k, .string nm, .string ot, .int .i64 at_, .int .i64 va, .int .i64 ep].toArray by rw [← hc]]

set_option maxHeartbeats 800000 in
theorem szOp_any (k : Int) (nm ot : ByteArray) (at_ va ep left : Int) (w : World) (hn : nm.size ≤ maxLen) (ho : ot.size ≤ maxLen) (h0 : 0 ≤ left) (hl : left ≤ 1048576) :
    Calls Try.prog 29 #[.agg #[.int .i64 k, .string nm, .string ot, .int .i64 at_, .int .i64 va, .int .i64 ep], .int .i64 left] w fun e w' => ∃ q : Int, e = .returned (.int .i64 q) ∧ (q = -1 ∨ (0 ≤ q ∧ q ≤ left ∧ nm.size ≤ 1048576 ∧ ot.size ≤ 1048576)) ∧ Below w.heap.size w w' := by
  obtain ⟨W0, hW0, k0, d0, z0⟩ := box1 w #[.int .i64 k, .string nm, .string ot, .int .i64 at_, .int .i64 va, .int .i64 ep] 55
  have HD : Hid (Below w.heap.size w (w.alloc (.cells #[.int .i64 k, .string nm, .string ot, .int .i64 at_, .int .i64 va, .int .i64 ep] 55))) := bw_alloc (Below.refl _ _)
  clear hW0 k0 d0 z0
  unfold maxLen at hn ho
  by_cases hb : left < (nm.size : Int)
  · have h1 : left - (nm.size : Int) < 0 := by omega
    go_enter Try.func29, Try.ntmps29
    go_wp2_with fail
    go_ret
    exact ⟨-1, rfl, .inl rfl, HD.out⟩
  · have hl1 : 0 ≤ left - (nm.size : Int) := by omega
    by_cases hb2 : left - (nm.size : Int) < (ot.size : Int)
    · have h1 : left - (nm.size : Int) - (ot.size : Int) < 0 := by omega
      go_enter Try.func29, Try.ntmps29
      go_wp2_with fail
      go_ret
      exact ⟨-1, rfl, .inl rfl, HD.out⟩
    · have h1 : 0 ≤ left - (nm.size : Int) - (ot.size : Int) := by omega
      go_enter Try.func29, Try.ntmps29
      go_wp2_with fail
      go_ret
      exact ⟨_, rfl, .inr ⟨h1, by omega, by omega, by omega⟩, HD.out⟩

set_option maxHeartbeats 800000 in
theorem toOp_any (k : Int) (nm ot : ByteArray) (at_ va ep : Int) (w : World) :
    Calls Try.prog 32 #[.agg #[.int .i64 k, .string nm, .string ot, .int .i64 at_, .int .i64 va, .int .i64 ep]] w fun e w' => e = .returned (.agg #[.int .i64 k, .string nm, .string ot, .int .i64 at_, .int .i64 va, .int .i64 ep]) ∧ Below w.heap.size w w' := by
  go_enter Try.func32, Try.ntmps32
  go_wp2_with fail
  exact bodyPost_ret (v := .agg #[.int .i64 k, .string nm, .string ot, .int .i64 at_, .int .i64 va, .int .i64 ep]) (by simp [results, Try.results32, go_sem]) rfl ⟨rfl, by go_grown⟩

set_option maxHeartbeats 800000 in
theorem eqOp_same (k : Int) (nm ot : ByteArray) (at_ va ep : Int) (w : World) :
    Calls Try.prog 88 #[.agg #[.int .i64 k, .string nm, .string ot, .int .i64 at_, .int .i64 va, .int .i64 ep], .agg #[.int .i64 k, .string nm, .string ot, .int .i64 at_, .int .i64 va, .int .i64 ep]] w fun e w' => e = .returned (.bool true) ∧ Below w.heap.size w w' := by
  go_enter Try.func88, Try.ntmps88
  go_wp2_with fail
  go_ret
  exact ⟨rfl, bw_alloc (bw_alloc (Below.refl _ _))⟩

end Go.Proofs.Ytghhphhnalfjaaa
