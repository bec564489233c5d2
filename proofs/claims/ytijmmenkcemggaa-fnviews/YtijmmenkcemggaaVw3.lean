/-
  Chapter 14: the specification's l14Copy, l14Without, at every argument.
-/
import Derived.Test.YtijmmenkcemggaaVw2
namespace Go.Proofs.Ytijmmenkcemggaa
open Go.RowKit Nums
set_option linter.unusedVariables false
set_option maxRecDepth 100000

theorem step_append_readsV {P : Program} {w : World} {ops : Array Oper} {o : Oper} {a : Act} {K : Act → World → Prop} {Q : Exit → Act → World → Prop} {E : Prop} (hgd : o.guard = none) (s x : Operand) (t : TypeId)
    (ho : o.op = .call { callee := .builtin .append, args := #[s, x], argTypes := #[t, t] })
    (base : Nat) (e : TypeId) (i : TypeInfo) (z : Value) (size bytes : Nat) (ht : P.underlying t = some (.slice e)) (hi : P.info? e = some i) (hz : i.zero = some z)
    (hsize : i.size = size) (hby : i.bytes = bytes) (hzs : z.cells.size = size) (hsz : 0 < size)
    (v : Value) (n : Nat) (xs : List Value) (hs : a.eval s = v) (hown : w.ownsRow base e size v n xs)
    (ad : Option Addr) (m c : Nat) (news : List Value) (hx : a.eval x = .slice ad m c) (hl : news.length = m * size) (hnews : ∀ j u, news[j]? = some u → ∃ g off, ad = some ⟨g, off, none⟩ ∧ w.cell? ⟨g, off + j, none⟩ = some u) (h1 : ∀ u ∈ news, u.oneCell' = true)
    (h63 : n + m ≤ maxLen) (hbytes : (n + m) * bytes ≤ 140737488355328) (hbase : base ≤ w.heap.size)
    (h : ∀ v' w', w'.ownsRow base e size v' (n + m) (xs ++ news) → w.grownBy w' v.ownBlock → (v' = .slice none 0 0 ↔ v = .slice none 0 0 ∧ m = 0) → K (a.put o.dst v') w') :
    if Region.wanted o (yielded ops a.tmps) = true then Oper.wp P o a w K Q else E := by
  have hw : Region.wanted o (yielded ops a.tmps) = true := by simp [Region.wanted, hgd]
  rw [if_pos hw]
  exact wp_append_reads s x t ho base e i z size bytes ht hi hz hsize hby hzs hsz v n xs hs hown ad m c news hx hl hnews h1 h63 hbytes hbase h

theorem own_cap {w : World} {base n cp g : Nat} {xs : List Value} (own : w.ownsRow base 2 1 (.slice (some ⟨g, 0, none⟩) n cp) n xs) : n ≤ cp := by
  rcases own.2 with ⟨e, _⟩ | ⟨g', cap', cur, e, _, hh, h1, _⟩
  · simp at e
  · simp only [Value.slice.injEq, Option.some.injEq, Addr.mk.injEq, and_true, true_and] at e
    omega

set_option maxHeartbeats 1600000 in
theorem l14Copy_any (n : Int) (v : Value) (ms : List Int) (w : World) (hn : ms.length ≤ 1048576) (r : Reads w.heap.size w v (ms.map (Value.int .i64))) :
    Calls Try.prog 46 #[.agg #[.int .i64 n, v]] w fun e w' => ∃ v' : Value, e = .returned (.agg #[.int .i64 n, v']) ∧ w'.ownsRow w.heap.size 2 1 v' ms.length (ms.map (Value.int .i64)) ∧ v' ≠ .slice none 0 0 ∧ Below w.heap.size w w' := by
  obtain ⟨W0, hW0, k0, k1, d0, z0⟩ := box2 w #[.int .i64 n, v] #[.int .i64 0, .slice none 0 0] 26 26
  have rD : Reads W0.drew.heap.size W0.drew v (ms.map (Value.int .i64)) := ((r.below d0).mono d0.size).below ((Below.refl _ _).drew)
  have HW0 : Hid (W0 = _) := hW0
  have S0 := at_cell (W := W0.drew) k0 0
  have S1 := at_cell (W := W0.drew) k0 1
  clear hW0 r
  go_enter Try.func46, Try.ntmps46
  go_wp2_with fail
  rw [← HW0.out]
  clear HW0
  go_region_law (go_simp; go_at_call 70; refine (l1Copy_any v ms _ hn rD).mono ?_; rintro e w5 ⟨v5, rfl, own5, hn5, b5⟩; obtain ⟨o5, c5, rfl⟩ := own_slice own5; have k50 := (b5.block _ (show w.heap.size < W0.heap.size by omega)).trans k0; have k51 := (b5.block _ (show w.heap.size + 1 < W0.heap.size by omega)).trans k1; have T0 := at_cell k50 0; have T1 := at_cell k50 1; have q0 := at_cell k51 0; have q1 := at_cell k51 1; have f0 := at_open k51 0; have f1 := at_open k51 1; dsimp only)
  all_goals
    obtain ⟨h1, h2⟩ := set_two k51 (.int .i64 n) (.slice o5 ms.length c5)
    have hz : W0.drew.heap.size = w.heap.size + 1 + 1 := z0
    have HN : Hid _ := hn5
    have HO : Hid _ := owns_mono (ownsRow_upto own5 h2 (by omega)) (show w.heap.size ≤ W0.drew.heap.size by omega)
    have HB : Hid _ := (bw_call (bw_drew d0) b5).trans (h2.toBelow (by have := b5.size; omega) (show w.heap.size ≤ w.heap.size + 1 by omega))
    have HS : Hid _ := h1
    clear own5 b5 k50 k51 T0 T1 q0 q1 f0 f1 h1 h2 rD S0 S1 k0 k1 hn5
    go_wp2_with fail
    exact bodyPost_ret (v := .agg #[.int .i64 n, .slice o5 ms.length c5]) (by simp [results, Try.results46, go_sem, at_cell HS.out]) rfl ⟨_, rfl, HO.out, HN.out, HB.out⟩

set_option maxHeartbeats 1600000 in
theorem l14Without_no (b : Nat) (n : Int) (v : Value) (ms : List Int) (h : Int) (w : World) (hg : ¬ goes n ms h) (k : w.heap[b]? = some (.cells #[.int .i64 n, v] 26 (0, 0))) (r : Reads w.heap.size w v (ms.map (Value.int .i64))) :
    Calls Try.prog 47 #[.pointer (some ⟨b, 0, none⟩), .int .i64 h] w fun e w' => e = .returned (.bool false) ∧ Below w.heap.size w w' := by
  have p0 := at_cell k 0
  have p1 := at_cell k 1
  have hlt := heap_lt k
  go_enter Try.func47, Try.ntmps47
  go_wp2_with fail
  refine (l14At_any n v ms h _ r).mono ?_
  rintro e w1 ⟨rfl, b1⟩
  replace k := (b1.block _ hlt).trans k
  clear p0 p1
  have p0 := at_cell k 0
  have p1 := at_cell k 1
  by_cases ha : vAt ms h < 0
  · generalize vAt ms h = a at ha
    clear hg r k
    go_wp2_with fail
    go_ret
    exact ⟨rfl, b1⟩
  · obtain ⟨o1, cap1, rfl, m1, c1, -⟩ := r
    simp only [List.length_map] at p1
    by_cases hl : ms.length = 1
    · rw [hl] at p1
      generalize vAt ms h = a at ha
      clear hg c1 k
      go_wp2_with fail
      go_ret
      exact ⟨rfl, b1⟩
    · have hn : n = 1000 := by
        rcases Int.decEq n 1000 with q | q
        · exact absurd ⟨by omega, hl, q⟩ hg
        · exact q
      subst hn
      have hl2 : ((ms.length : Int) == 1) = false := by rw [beq_eq_false_iff_ne]; omega
      generalize vAt ms h = a at ha
      clear hg c1 k
      go_wp2_with fail
      go_ret
      exact ⟨rfl, b1⟩

end Go.Proofs.Ytijmmenkcemggaa
