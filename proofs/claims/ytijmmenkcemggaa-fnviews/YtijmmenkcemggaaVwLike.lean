/-
  Chapter 14: the laws' likeView and has.
-/
import Derived.Test.YtijmmenkcemggaaVwLaw
namespace Go.Proofs.Ytijmmenkcemggaa
open Go.RowKit Nums
set_option linter.unusedVariables false
set_option maxRecDepth 100000

set_option maxHeartbeats 800000 in
theorem likeView_any (n n' : Int) (a b : Value) (ms ms' : List Int) (w : World) (r : RVw w.heap.size w a ms) (r' : RVw w.heap.size w b ms') :
    Calls Try.prog 18 #[.agg #[.int .i64 n, a], .agg #[.int .i64 n', b]] w fun e w' => e = .returned (.bool (decide (n = n') && decide (ms = ms'))) ∧ Below w.heap.size w w' := by
  obtain ⟨W0, hW0, k0, k1, d0, z0⟩ := box2 w #[.int .i64 n, a] #[.int .i64 n', b] 26 26
  have r0 := (r.below d0).mono d0.size
  have r1 := (r'.below d0).mono d0.size
  have HW0 : Hid (W0 = _) := hW0
  clear hW0 r r'
  by_cases hc : n = n'
  · subst hc
    go_enter Try.func18, Try.ntmps18
    go_wp2_with fail
    rw [← HW0.out]
    clear HW0
    refine (likeInts_any a b ms ms' _ r0.r r1.r).mono ?_
    rintro e w2 ⟨rfl, b2'⟩
    replace d0 := bw_call d0 b2'
    obtain ⟨q, hq⟩ : ∃ q, decide (ms = ms') = q := ⟨_, rfl⟩
    have HQ : Hid (decide (ms = ms') = q) := hq
    rw [hq]
    clear hq
    go_wp2_with fail
    go_ret
    exact ⟨ret_bool (by rw [← HQ.out]; try simp), d0⟩
  · have HP : Hid (¬ n = n') := hc
    have hne : (n == n') = false := by rw [beq_eq_false_iff_ne]; exact hc
    clear hc
    go_enter Try.func18, Try.ntmps18
    go_wp2_with fail
    go_ret
    rw [← HW0.out]
    exact ⟨ret_bool (by rw [decide_eq_false HP.out, Bool.false_and]), d0⟩

set_option maxHeartbeats 800000 in
theorem has_any (v : Value) (ms : List Int) (h : Int) (w : World) (r : Reads w.heap.size w v (ms.map (Value.int .i64))) :
    Calls Try.prog 24 #[v, .int .i64 h] w fun e w' => e = .returned (.bool (decide (h ∈ ms))) ∧ w' = w := by
  obtain ⟨o1, cap1, rfl, m1, c1, -⟩ := r
  simp only [List.length_map] at m1 ⊢
  have C1 : Hid (CellsI w.heap.size w o1 ms) := cellsI_of c1
  unfold maxLen at m1
  clear c1
  go_enter Try.func24, Try.ntmps24
  go_wp2_with fail
  go_loopw [5] (fun i wr => ∃ k : Nat, k ≤ ms.length ∧ i = .int .i64 k ∧ h ∉ ms.take k ∧ wr = w) (fun i _ => ms.length - (intOf i).toNat)
  case atStart => exact ⟨0, Nat.zero_le _, rfl, by simp, rfl⟩
  case round =>
    obtain ⟨k, hk, rfl, hno, rfl⟩ := hrel
    have HN : Hid _ := hno
    clear hno
    by_cases hlt : k < ms.length
    · obtain ⟨g1, of1, rfl, q1, cc1⟩ := C1.out k hlt
      generalize hx : ms[k] = x at cc1
      have HX : Hid (ms[k] = x) := hx
      clear hx
      by_cases he : x = h
      · subst he
        have HM : Hid (x ∈ ms) := by rw [Hid, ← HX.out]; exact List.getElem_mem hlt
        clear C1
        go_wp2_with fail
        go_ret
        exact ⟨ret_bool (by rw [decide_eq_true HM.out]), rfl⟩
      · have hb : (x == h) = false := by simpa using he
        have HN2 : Hid (h ∉ ms.take (k + 1)) := by
          rw [Hid, List.take_succ_eq_append_getElem hlt, HX.out]
          intro q
          rcases List.mem_append.1 q with q | q
          · exact HN.out q
          · simp only [List.mem_singleton] at q; exact he q.symm
        clear C1
        go_wp2_with fail
        go_roundw
        case rel => exact ⟨k + 1, by omega, by go_num, HN2.out, trivial⟩
        case measure => simp [intOf]; omega
    · have HM : Hid (h ∉ ms) := by have q := HN.out; rw [List.take_of_length_le (by omega)] at q; exact q
      clear C1
      go_wp2_with fail
      go_ret
      exact ⟨ret_bool (by rw [decide_eq_false HM.out]), rfl⟩

theorem has_below (v : Value) (ms : List Int) (h : Int) (w : World) (r : Reads w.heap.size w v (ms.map (Value.int .i64))) :
    Calls Try.prog 24 #[v, .int .i64 h] w fun e w' => e = .returned (.bool (decide (h ∈ ms))) ∧ Below w.heap.size w w' :=
  (has_any v ms h w r).mono fun _ _ ⟨h1, h2⟩ => ⟨h1, by rw [h2]; exact Below.refl _ _⟩
theorem reads_front {B : Nat} {w : World} {o : Option Addr} {n cap : Nat} {ms zs : List Int} (r : Reads B w (.slice o n cap) ((ms ++ zs).map (Value.int .i64))) : Reads B w (.slice o ms.length cap) (ms.map (Value.int .i64)) := by
  obtain ⟨o', cap', e, hm, hc, hr⟩ := r
  simp only [Value.slice.injEq] at e
  obtain ⟨rfl, -, rfl⟩ := e
  simp only [List.map_append, List.length_append, List.length_map] at hm hr
  refine ⟨o, cap, by simp, by simp; omega, fun j u hj => hc j u ?_, by simp; omega⟩
  rw [List.map_append, List.getElem?_append_left (List.getElem?_eq_some_iff.1 hj).1]
  exact hj
theorem reads_some {B : Nat} {w : World} {o : Option Addr} {n cap : Nat} {ms : List Int} (r : Reads B w (.slice o n cap) (ms.map (Value.int .i64))) (h : 0 < ms.length) : ∃ g off, o = some ⟨g, off, none⟩ := by
  obtain ⟨o', cap', e, hm, hc, hr⟩ := r
  simp only [Value.slice.injEq] at e
  obtain ⟨rfl, -, -⟩ := e
  obtain ⟨g, off, e, -⟩ := hc 0 (.int .i64 ms[0]) (by simp [h])
  exact ⟨g, off, e⟩
theorem reads_capI {B : Nat} {w : World} {o : Option Addr} {n cap : Nat} {ms : List Int} (r : Reads B w (.slice o n cap) (ms.map (Value.int .i64))) : ms.length ≤ cap ∧ ms.length ≤ maxLen := by
  obtain ⟨o', cap', e, hm, hc, hr⟩ := r
  simp only [Value.slice.injEq] at e
  obtain ⟨-, -, rfl⟩ := e
  simp only [List.length_map] at hr hm
  exact ⟨hr, hm⟩
theorem RVw.nil (B : Nat) (w : World) : RVw B w (.slice none 0 0) [] := ⟨⟨none, 0, rfl, Nat.zero_le _, fun j u hj => by simp at hj, Nat.le_refl _⟩⟩

/-- What the law asks of who comes. -/
theorem joined_facts {n : Int} {ms : List Int} {h n' : Int} {ms' : List Int} (e : joinedV n ms h = ((n', ms'), true)) : n' = n + 1 ∧ ms' = ms ++ [h] ∧ viewOk n' ms' = true ∧ tailOf n' ms' = h ∧ (1 ≤ n ∧ n < 1000) := by
  cases hv : viewOk n ms
  · rw [(withoutV_bad hv).2] at e; simp at e
  · by_cases hc : comes n ms h
    · have hj := joined_ok hv hc
      rw [e] at hj
      simp only [Prod.mk.injEq] at hj
      obtain ⟨h1, ⟨rfl, rfl⟩, -⟩ := hj
      have hp := (viewOk_parts hv).2.2.1
      refine ⟨rfl, rfl, h1, ?_, by have := hc.2.2; omega⟩
      rw [tailOf, if_pos h1]
      simp
    · rw [joinedV_stay hv hc] at e; simp at e
/-- What the law asks of who goes. -/
theorem without_facts {n : Int} {ms : List Int} {h n' : Int} {ms' : List Int} (e : withoutV n ms h = ((n', ms'), true)) : n' = n + 1 ∧ viewOk n' ms' = true ∧ h ∉ ms' ∧ h ∈ ms ∧ ms'.length + 1 = ms.length ∧ (1 ≤ n ∧ n < 1000) := by
  cases hv : viewOk n ms
  · rw [(withoutV_bad hv).1] at e; simp at e
  · by_cases hc : goes n ms h
    · obtain ⟨h1, h2, h3, h4, h5, -⟩ := without_ok hv hc
      rw [e] at h1 h2 h4 h5
      have hp := (viewOk_parts hv).2.2.1
      exact ⟨h4, h1, h2, h3, h5, by have := hc.2.2; omega⟩
    · rw [withoutV_stay hv hc] at e; simp at e
theorem without_not {n : Int} {ms : List Int} {h n' : Int} {ms' : List Int} (e : withoutV n ms h = ((n', ms'), false)) : (viewOk n ms = false ∧ n' = 0 ∧ ms' = []) ∨ (viewOk n ms = true ∧ n' = n ∧ ms' = ms) := by
  cases hv : viewOk n ms
  · rw [(withoutV_bad hv).1] at e
    simp at e
    exact .inl ⟨rfl, e.1.symm, e.2⟩
  · by_cases hc : goes n ms h
    · rw [withoutV_go hv hc] at e; simp at e
    · rw [withoutV_stay hv hc] at e
      simp at e
      exact .inr ⟨rfl, e.1.symm, e.2.symm⟩

end Go.Proofs.Ytijmmenkcemggaa
