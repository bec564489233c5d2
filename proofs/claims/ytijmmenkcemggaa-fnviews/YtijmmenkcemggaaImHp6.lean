/-
  Chapter 14: container/heap's Push, Pop, Remove over the line's box; takeFirst, first.
-/
import Derived.Test.YtijmmenkcemggaaImHp5
namespace Go.Proofs.Ytijmmenkcemggaa
open Go.RowKit
set_option linter.unusedVariables false
set_option maxRecDepth 100000

theorem field_mb (x y : Int) (w : World) : (Instr.field 55 (.agg #[.int .i64 x, .int .i64 y]) 1).run Try.prog w = .ok (.int .i64 y) w := by kernel_rfl

theorem Hp.head {S : Nat → Prop} {base : Nat} {w : World} {b : Nat} {l : List Mb} (h : Hp S base w b l) : ∃ o N cap, N ≤ l.length ∧ l.length ≤ N ∧ w.cell? ⟨b, 0, none⟩ = some (.slice o N cap) := by
  obtain ⟨v, k, own, -⟩ := h.box
  obtain ⟨o, cap, rfl⟩ := own_slice own
  exact ⟨o, _, cap, Nat.le_refl _, Nat.le_refl _, at_cell k 0⟩

set_option maxHeartbeats 800000 in
theorem heapPush_any (S : Nat → Prop) (base b : Nat) (l : List Mb) (p h : Int) (w : World) (hp : Hp S base w b l) (hl : l.length ≤ 60) (hS : ∀ k, base ≤ k → S k) (hbase : base ≤ w.heap.size) :
    Calls Try.prog 45 #[.iface 51 (.pointer (some ⟨b, 0, none⟩)), .iface 55 (.agg #[.int .i64 p, .int .i64 h])] w fun e w' => e = .returned (.tuple #[]) ∧ Hp S base w' b (pushP l (p, h)) ∧ Only S w w' := by
  have hm := meth_Push b w
  go_enter Try.func45, Try.ntmps45
  go_wp2_with (go_at_call 96; refine (implPush_any S base b l p h _ hp (by omega) hS hbase).mono ?_)
  rintro e w1 ⟨rfl, hp1, b1⟩
  clear hm
  obtain ⟨o, N, cap, n1, n2, c0⟩ := hp1.head
  rw [List.length_append] at n1 n2
  simp only [List.length_cons, List.length_nil] at n1 n2
  have hm := meth_Len b N cap o w1 c0
  go_wp2_with (go_at_call 40; refine (implLen_any o N cap _).mono ?_)
  rintro e w2 ⟨rfl, rfl⟩
  have hw1 : IntKind.i64.wrap ((N : Int) - 1) = (l.length : Int) := by rw [IntKind.wrap_i64]; omega
  have e1 : (N : Int) - 1 = (l.length : Int) := by omega
  have hw2 : IntKind.i64.wrap (l.length : Int) = (l.length : Int) := by rw [IntKind.wrap_i64]; omega
  have hll : l.length < (l ++ [(p, h)]).length := by rw [List.length_append]; simp
  clear hm c0 n1 n2
  go_wp2_with (go_at_call 69; refine (heapUp_any S base b (l ++ [(p, h)]) l.length _ hp1 hll).mono ?_)
  rintro e w3 ⟨rfl, hp3, b3⟩
  have HE : Hid (Hp S base w3 b (pushP l (p, h)) ∧ Only S w w3) := ⟨hp3, b1.trans b3⟩
  clear hp1 hp3 b1 b3
  go_wp2_with fail
  exact bodyPost_end (results_none rfl _ _ _) rfl ⟨rfl, HE.out⟩

theorem popP_one (l : List Mb) (n : Nat) (h1 : n + 1 ≤ l.length) (h2 : l.length ≤ n + 1) : popP l = ((downAll (swapP l 0 n) 0 n).1.take n, mbAt (downAll (swapP l 0 n) 0 n).1 n) := by
  rw [popP, show l.length - 1 = n by omega]

set_option maxHeartbeats 800000 in
theorem heapPop_any (S : Nat → Prop) (base b : Nat) (l : List Mb) (w : World) (hp : Hp S base w b l) (hl : l.length ≤ 60) (h0 : 0 < l.length) :
    Calls Try.prog 74 #[.iface 51 (.pointer (some ⟨b, 0, none⟩))] w fun e w' => e = .returned (.iface 55 (.agg #[.int .i64 (popP l).2.1, .int .i64 (popP l).2.2])) ∧ Hp S base w' b (popP l).1 ∧ Only S w w' := by
  have hlo := hp.inS
  obtain ⟨v, kb, own, hSg0⟩ := hp.box
  have hSg : Hid _ := hSg0
  clear hSg0
  obtain ⟨g, cap, rfl⟩ := own_form own (by omega)
  obtain ⟨n, hn⟩ : ∃ n, n = l.length - 1 := ⟨_, rfl⟩
  have hn1 : n + 1 ≤ l.length := by omega
  have hn2 : l.length ≤ n + 1 := by omega
  have c0 := at_cell kb 0
  have hm := meth_Len b _ _ _ w c0
  have HPO : Hid (popP l = _) := popP_one l n hn1 hn2
  have hw1 : IntKind.i64.wrap ((l.length : Int) - 1) = (n : Int) := by rw [IntKind.wrap_i64]; omega
  have e1 : (l.length : Int) - 1 = (n : Int) := by omega
  have hw2 : IntKind.i64.wrap (n : Int) = (n : Int) := by rw [IntKind.wrap_i64]; omega
  clear hn
  go_enter Try.func74, Try.ntmps74
  go_wp2_with (go_at_call 40; refine (implLen_any _ _ _ _).mono ?_)
  rintro e w2 ⟨rfl, rfl⟩
  clear hm
  have hm := meth_Swap b _ _ _ w2 c0
  have hz : Calls Try.prog 94 #[.slice (some ⟨g, 0, none⟩) l.length cap, .int .i64 0, .int .i64 (n : Int)] w2 _ := implSwap_any base _ l 0 n w2 own (by omega) (by omega)
  go_wp2_with (go_at_call 94; refine Calls.mono hz ?_)
  rintro e w3 ⟨rfl, own3, u3⟩
  obtain ⟨hp3, b3⟩ := Hp.swap hlo kb own hSg.out (by omega) own3 u3
  have hsl := swapP_len l 0 n
  have hs1 : (swapP l 0 n).length ≤ 60 := by omega
  have hs2 : n ≤ (swapP l 0 n).length := by omega
  have hs3 : (swapP l 0 n).length ≤ n + 1 := by omega
  have hs4 : n + 1 ≤ (swapP l 0 n).length := by omega
  clear hm c0 kb own own3 u3 hz hsl hw1 e1
  generalize swapP l 0 n = L at *
  have hz : Calls Try.prog 68 #[.iface 51 (.pointer (some ⟨b, 0, none⟩)), .int .i64 0, .int .i64 (n : Int)] w3 _ := heapDown_any S base b L 0 n w3 hp3 (by omega) (by omega) hs2
  go_wp2_with (go_at_call 68; refine Calls.mono hz ?_)
  rintro e w4 ⟨rfl, hp4, b4⟩
  have hdl : (downAll L 0 n).1.length = L.length := by rw [downAll, downP_len]
  have hd1 : (downAll L 0 n).1.length ≤ n + 1 := by omega
  have hd2 : n + 1 ≤ (downAll L 0 n).1.length := by omega
  clear hz hdl
  have hm := meth_Pop b w4
  go_wp2_with (go_at_call 95; refine (implPop_any S base b _ n _ hp4 (by omega) hd2 hd1).mono ?_)
  rintro e w5 ⟨rfl, hp5, b5⟩
  have HE : Hid (Hp S base w5 b (popP l).1 ∧ Only S w2 w5) := ⟨by rw [HPO.out]; exact hp5, b3.trans (b4.trans b5)⟩
  have HV : Hid (Value.iface 55 (.agg #[.int .i64 (mbAt (downAll L 0 n).1 n).1, .int .i64 (mbAt (downAll L 0 n).1 n).2]) = .iface 55 (.agg #[.int .i64 (popP l).2.1, .int .i64 (popP l).2.2])) := by rw [Hid, HPO.out]
  clear hp3 hp4 hp5 b3 b4 b5 hm HPO
  generalize mbAt (downAll L 0 n).1 n = x at *
  go_wp2_with fail
  go_ret
  exact ⟨congrArg Ending.returned HV.out, HE.out⟩

set_option maxHeartbeats 800000 in
theorem takeFirst_any (S : Nat → Prop) (base b : Nat) (l : List Mb) (w : World) (hp : Hp S base w b l) (hl : l.length ≤ 60) (h0 : 0 < l.length) :
    Calls Try.prog 67 #[.pointer (some ⟨b, 0, none⟩)] w fun e w' => e = .returned (.int .i64 (popP l).2.2) ∧ Hp S base w' b (popP l).1 ∧ Only S w w' := by
  have has := as_mb
  have hfl := field_mb
  go_enter Try.func67, Try.ntmps67
  go_wp2_with (go_at_call 74; refine (heapPop_any S base b l _ hp hl h0).mono ?_)
  rintro e w1 ⟨rfl, hp1, b1⟩
  have HE : Hid _ := And.intro hp1 b1
  clear hp1 b1 hp
  obtain ⟨x, hx⟩ : ∃ x, (popP l).2 = x := ⟨_, rfl⟩
  have HX : Hid ((popP l).2 = x) := hx
  rw [hx]
  clear hx
  go_wp2_with fail
  go_ret
  exact ⟨ret_int (by rw [HX.out]), HE.out⟩

theorem implFirst_any (base : Nat) (v : Value) (l : List Mb) (w : World) (own : OwnM base w v l) :
    Calls Try.prog 53 #[v] w fun e w' => e = .returned (.int .i64 (firstP l)) ∧ w' = w := by
  obtain ⟨o, cap, rfl⟩ := own_slice own
  by_cases h0 : l.length = 0
  · have HV : Hid (firstP l = -1) := by rw [Hid, firstP, if_pos h0]
    rw [h0]
    go_enter Try.func53, Try.ntmps53
    go_wp2_with (go_at_call 40; refine (implLen_any _ _ _ _).mono ?_)
    rintro e w2 ⟨rfl, rfl⟩
    go_wp2_with fail
    go_ret
    exact ⟨ret_int HV.out.symm, rfl⟩
  · have HV : Hid (firstP l = (mbAt l 0).2) := by rw [Hid, firstP, if_neg h0]
    obtain ⟨g, cap', e⟩ := own_form own (by omega)
    cases e
    obtain ⟨⟨-, a1⟩, -⟩ := own_two own 0 (by omega)
    have hb : ((l.length : Int) == 0) = false := by rw [beq_eq_false_iff_ne]; omega
    have i1 : (0 : Int) < (l.length : Int) := by omega
    simp only [Nat.zero_mul, Nat.zero_add] at a1
    generalize (mbAt l 0).2 = x at *
    clear own h0
    go_enter Try.func53, Try.ntmps53
    go_wp2_with (go_at_call 40; refine (implLen_any _ _ _ _).mono ?_)
    rintro e w2 ⟨rfl, rfl⟩
    go_wp2_with fail
    go_ret
    exact ⟨ret_int HV.out.symm, rfl⟩

end Go.Proofs.Ytijmmenkcemggaa
