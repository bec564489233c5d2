/-
  Chapter 14: container/heap's Push, Pop, Remove over the line's box; takeFirst, first.
-/
import Derived.Test.YtghhphhnalfjaaaImHp5
namespace Go.Proofs.Ytghhphhnalfjaaa
open Go.RowKit
set_option linter.unusedVariables false
set_option maxRecDepth 100000

theorem field_mb (x y : Int) (w : World) : (Instr.field 137 (.agg #[.int .i64 x, .int .i64 y]) 1).run Try.prog w = .ok (.int .i64 y) w := by kernel_rfl

theorem Hp.head {S : Nat → Prop} {base : Nat} {w : World} {b : Nat} {l : List Mb} (h : Hp S base w b l) : ∃ o N cap, N ≤ l.length ∧ l.length ≤ N ∧ w.cell? ⟨b, 0, none⟩ = some (.slice o N cap) := by
  obtain ⟨v, k, own, -⟩ := h.box
  obtain ⟨o, cap, rfl⟩ := own_slice own
  exact ⟨o, _, cap, Nat.le_refl _, Nat.le_refl _, at_cell k 0⟩

set_option maxHeartbeats 800000 in
theorem heapPush_any (S : Nat → Prop) (base b : Nat) (l : List Mb) (p h : Int) (w : World) (hp : Hp S base w b l) (hl : l.length ≤ 60) (hS : ∀ k, base ≤ k → S k) (hbase : base ≤ w.heap.size) :
    Calls Try.prog 101 #[.iface 135 (.pointer (some ⟨b, 0, none⟩)), .iface 137 (.agg #[.int .i64 p, .int .i64 h])] w fun e w' => e = .returned (.tuple #[]) ∧ Hp S base w' b (pushP l (p, h)) ∧ Only S w w' := by
  have hm := meth_Push b w
  go_enter Try.func101, Try.ntmps101
  go_wp2_with (go_at_call 126; refine (implPush_any S base b l p h _ hp (by omega) hS hbase).mono ?_)
  rintro e w1 ⟨rfl, hp1, b1⟩
  clear hm
  obtain ⟨o, N, cap, n1, n2, c0⟩ := hp1.head
  rw [List.length_append] at n1 n2
  simp only [List.length_cons, List.length_nil] at n1 n2
  have hm := meth_Len b N cap o w1 c0
  go_wp2_with (go_at_call 102; refine (implLen_any o N cap _).mono ?_)
  rintro e w2 ⟨rfl, rfl⟩
  have hw1 : IntKind.i64.wrap ((N : Int) - 1) = (l.length : Int) := by rw [IntKind.wrap_i64]; omega
  have e1 : (N : Int) - 1 = (l.length : Int) := by omega
  have hw2 : IntKind.i64.wrap (l.length : Int) = (l.length : Int) := by rw [IntKind.wrap_i64]; omega
  have hll : l.length < (l ++ [(p, h)]).length := by rw [List.length_append]; simp
  clear hm c0 n1 n2
  go_wp2_with (go_at_call 105; refine (heapUp_any S base b (l ++ [(p, h)]) l.length _ hp1 hll).mono ?_)
  rintro e w3 ⟨rfl, hp3, b3⟩
  have HE : Hid (Hp S base w3 b (pushP l (p, h)) ∧ Only S w w3) := ⟨hp3, b1.trans b3⟩
  clear hp1 hp3 b1 b3
  go_wp2_with fail
  exact bodyPost_end (results_none rfl _ _ _) rfl ⟨rfl, HE.out⟩

theorem popP_one (l : List Mb) (n : Nat) (h1 : n + 1 ≤ l.length) (h2 : l.length ≤ n + 1) : popP l = ((downAll (swapP l 0 n) 0 n).1.take n, mbAt (downAll (swapP l 0 n) 0 n).1 n) := by
  rw [popP, show l.length - 1 = n by omega]

theorem implFirst_any (base : Nat) (v : Value) (l : List Mb) (w : World) (own : OwnM base w v l) :
    Calls Try.prog 94 #[v] w fun e w' => e = .returned (.int .i64 (firstP l)) ∧ w' = w := by
  obtain ⟨o, cap, rfl⟩ := own_slice own
  by_cases h0 : l.length = 0
  · have HV : Hid (firstP l = -1) := by rw [Hid, firstP, if_pos h0]
    rw [h0]
    go_enter Try.func94, Try.ntmps94
    go_wp2_with (go_at_call 102; refine (implLen_any _ _ _ _).mono ?_)
    rintro e w2 ⟨rfl, rfl⟩
    go_wp2_with fail
    go_ret
    exact ⟨ret_int HV.out.symm, rfl⟩
  · have HV : Hid (firstP l = (mbAt l 0).2) := by rw [Hid, firstP, if_neg h0]
    obtain ⟨g, cap', e⟩ := own_form own (by omega)
    cases e
    obtain ⟨⟨-, a1⟩, -⟩ := own_two own 0 (by omega)
    have hb : ((l.length : Int) == 0) = false := by rw [beq_eq_false_iff_ne]; omega
    have i1 : (0 : Int) < (l.length : Int) := by omega
    simp only [Nat.zero_mul, Nat.zero_add] at a1
    generalize (mbAt l 0).2 = x at *
    clear own h0
    go_enter Try.func94, Try.ntmps94
    go_wp2_with (go_at_call 102; refine (implLen_any _ _ _ _).mono ?_)
    rintro e w2 ⟨rfl, rfl⟩
    go_wp2_with fail
    go_ret
    exact ⟨ret_int HV.out.symm, rfl⟩

end Go.Proofs.Ytghhphhnalfjaaa
