/-
  Chapter 14: the program's ViewOk.
-/
import Derived.Test.YtghhphhnalfjaaaVw1
import Derived.Test.YtghhphhnalfjaaaImId
import Derived.Test.YtghhphhnalfjaaaBytes
import Derived.Deep.Cut
namespace Go.Proofs.Ytghhphhnalfjaaa
open Go.RowKit Nums
set_option linter.unusedVariables false
set_option maxRecDepth 100000

set_option maxHeartbeats 1600000 in
theorem indexAt_any (v : Value) (ms : List Int) (h : Int) (w : World) (r : Reads w.heap.size w v (ms.map (Value.int .i64))) :
    Calls Try.prog 107 #[v, .int .i64 h] w fun e w' => e = .returned (.int .i64 (vAt ms h)) ∧ w' = w := by
  obtain ⟨o1, cap1, rfl, m1, c1, -⟩ := r
  simp only [List.length_map] at m1 ⊢
  have C1 : Hid (CellsI w.heap.size w o1 ms) := cellsI_of c1
  unfold maxLen at m1
  clear c1
  go_enter Try.func107, Try.ntmps107
  go_wp2_with fail
  go_loopw [8] (fun i wr => ∃ k : Nat, k ≤ ms.length ∧ i = .int .i64 k ∧ vAt ms h = atFrom h (ms.drop k) k ∧ wr = w) (fun i _ => ms.length - (intOf i).toNat)
  case atStart => exact ⟨0, Nat.zero_le _, rfl, rfl, rfl⟩
  case round =>
    obtain ⟨k, hk, rfl, hv, rfl⟩ := hrel
    by_cases hlt : k < ms.length
    · obtain ⟨g1, of1, rfl, q1, cc1⟩ := C1.out k hlt
      rw [List.drop_eq_getElem_cons hlt, atFrom] at hv
      generalize ms[k] = x at cc1 hv
      by_cases hx : x = h
      · subst hx
        rw [if_pos rfl] at hv
        have HV : Hid _ := hv
        clear hv C1
        go_wp2_with fail
        go_ret
        exact ⟨ret_int HV.out.symm, rfl⟩
      · rw [if_neg hx] at hv
        have HV : Hid _ := hv
        have hb : (x == h) = false := by simpa using hx
        have hb2 : (h == x) = false := by simpa using fun e => hx e.symm
        clear hv C1 hx
        go_wp2_with fail
        go_roundw
        case rel => exact ⟨k + 1, by omega, by go_num, HV.out, by trivial⟩
        case measure => simp [intOf]; omega
    · have HV : Hid (vAt ms h = -1) := by rw [Hid, hv, List.drop_of_length_le (by omega)]; rfl
      clear hv C1
      go_wp2_with fail
      go_ret
      exact ⟨ret_int HV.out.symm, rfl⟩
theorem hasAt_any (v : Value) (ms : List Int) (h : Int) (w : World) (r : Reads w.heap.size w v (ms.map (Value.int .i64))) :
    Calls Try.prog 106 #[v, .int .i64 h] w fun e w' => e = .returned (.bool (decide (h ∈ ms))) ∧ w' = w := by
  have HV : Hid (decide (h ∈ ms) = decide (0 ≤ vAt ms h)) := by
    have := vAt_neg (ms := ms) (h := h)
    rw [Hid, decide_eq_decide]
    constructor
    · intro q; exact Classical.byContradiction (fun c => this.1 (by omega) q)
    · intro q; exact Classical.byContradiction (fun c => by have := this.2 c; omega)
  go_enter Try.func106, Try.ntmps106
  go_wp2_with fail
  refine (indexAt_any v ms h _ r).mono ?_
  rintro e w1 ⟨rfl, rfl⟩
  generalize vAt ms h = q at *
  go_wp2_with fail
  go_ret
  exact ⟨ret_bool HV.out.symm, rfl⟩

def unl (ms : List Int) : Bool := ms.all (fun m => inB m 0 3) && decide ms.Nodup
theorem unl_iff {ms : List Int} : unl ms = true ↔ (∀ m ∈ ms, inB m 0 3 = true) ∧ ms.Nodup := by simp [unl]
theorem viewOk_unl (n : Int) (ms : List Int) : viewOk n ms = (inB n 1 1000 && inB (ms.length : Int) 1 4 && unl ms) := by
  rw [viewOk, unl]
  cases ms.all _ <;> cases decide ms.Nodup <;> cases inB n 1 1000 <;> cases inB (ms.length : Int) 1 4 <;> rfl
theorem unl_take {ms : List Int} {k : Nat} (hlt : k < ms.length) (h : unl (ms.take k) = true) (h1 : inB ms[k] 0 3 = true) (h2 : ms[k] ∉ ms.take k) : unl (ms.take (k + 1)) = true := by
  rw [List.take_succ_eq_append_getElem hlt]
  obtain ⟨a, b⟩ := unl_iff.1 h
  refine unl_iff.2 ⟨fun m hm => ?_, List.nodup_append.2 ⟨b, by simp, fun x hx y hy => ?_⟩⟩
  · rcases List.mem_append.1 hm with hm | hm
    · exact a m hm
    · simp only [List.mem_singleton] at hm; rw [hm]; exact h1
  · simp only [List.mem_singleton] at hy
    rw [hy]
    exact fun e => h2 (by rw [← e]; exact hx)
theorem unl_no1 {ms : List Int} {k : Nat} (hlt : k < ms.length) (h1 : inB ms[k] 0 3 = false) : unl ms = false := by
  rw [← Bool.not_eq_true, unl_iff]
  intro q
  have := q.1 _ (List.getElem_mem hlt)
  rw [h1] at this
  exact absurd this (by decide)
theorem unl_no2 {ms : List Int} {k : Nat} (hlt : k < ms.length) (h2 : ms[k] ∈ ms.take k) : unl ms = false := by
  rw [← Bool.not_eq_true, unl_iff]
  intro q
  obtain ⟨j, hj, e⟩ := List.mem_iff_getElem.1 h2
  have hj' : j < k := by rw [List.length_take] at hj; omega
  rw [List.getElem_take] at e
  have e1 := vAt_own q.2 j (by omega)
  have e2 := vAt_own q.2 k hlt
  rw [e] at e1
  omega

set_option maxHeartbeats 1600000 in
theorem unlike_any (v : Value) (ms : List Int) (w : World) (r : Reads w.heap.size w v (ms.map (Value.int .i64))) :
    Calls Try.prog 104 #[v] w fun e w' => e = .returned (.bool (unl ms)) ∧ w' = w := by
  have HR : Hid (Reads w.heap.size w v (ms.map (Value.int .i64))) := r
  obtain ⟨o1, cap1, rfl, m1, c1, hcp⟩ := r
  simp only [List.length_map] at m1 hcp ⊢ HR
  have C1 : Hid (CellsI w.heap.size w o1 ms) := cellsI_of c1
  have HT : Hid (∀ k, k ≤ ms.length → Reads w.heap.size w (.slice o1 k cap1) ((ms.take k).map (Value.int .i64))) := fun k hk => ⟨o1, cap1, by simp [Nat.min_eq_left hk], by simp; omega, fun j u hj => by
      have hj' := (List.getElem?_eq_some_iff.1 hj).1
      simp at hj'
      exact c1 j u (by rw [← hj]; simp [List.getElem?_take]; intro; omega), by simp; omega⟩
  unfold maxLen at m1
  clear c1 HR
  go_enter Try.func104, Try.ntmps104
  go_wp2_with fail
  go_loopw [7] (fun i wr => ∃ k : Nat, k ≤ ms.length ∧ i = .int .i64 k ∧ unl (ms.take k) = true ∧ wr = w) (fun i _ => ms.length - (intOf i).toNat)
  case atStart => exact ⟨0, Nat.zero_le _, rfl, rfl, rfl⟩
  case round =>
    obtain ⟨k, hk, rfl, hv, rfl⟩ := hrel
    by_cases hlt : k < ms.length
    · have hr := HT.out k hk
      obtain ⟨g1, of1, rfl, q1, cc1⟩ := C1.out k hlt
      have HU : Hid _ := unl_take hlt hv
      have HN1 : Hid _ := unl_no1 hlt
      have HN2 : Hid _ := unl_no2 hlt
      have hkc : k ≤ cap1 := by omega
      have hkc2 : (k : Int) ≤ (cap1 : Int) := by omega
      have hk0 : (0 : Int) ≤ (k : Int) := by omega
      clear hv C1
      obtain ⟨x, hx⟩ : ∃ x, ms[k] = x := ⟨_, rfl⟩
      rw [hx] at cc1 HU HN1 HN2
      clear hx HT
      go_wp2_with fail
      refine (houseIdOk_any x _).mono ?_
      rintro e w1 ⟨rfl, rfl⟩
      cases h1 : inB x 0 3
      · have HV : Hid _ := HN1.out h1
        clear HU HN1 HN2 hr h1
        go_wp2_with fail
        go_ret
        exact ⟨ret_bool HV.out.symm, rfl⟩
      · go_wp2_with fail
        refine (hasAt_any _ _ x _ hr).mono ?_
        rintro e w1 ⟨rfl, rfl⟩
        cases h2 : decide (x ∈ ms.take k)
        · have HV : Hid _ := HU.out h1 (of_decide_eq_false h2)
          clear HU HN1 HN2 hr h1 h2
          go_wp2_with fail
          go_roundw
          case rel => exact ⟨k + 1, by omega, by go_num, HV.out, by trivial⟩
          case measure => simp [intOf]; omega
        · have HV : Hid _ := HN2.out (of_decide_eq_true h2)
          clear HU HN1 HN2 hr h1 h2
          go_wp2_with fail
          go_ret
          exact ⟨ret_bool HV.out.symm, rfl⟩
    · have HV : Hid (unl ms = true) := by rw [List.take_of_length_le (by omega)] at hv; exact hv
      clear hv C1 HT
      go_wp2_with fail
      go_ret
      exact ⟨ret_bool HV.out.symm, rfl⟩

set_option maxHeartbeats 1600000 in
theorem implViewOk_any (n : Int) (v : Value) (ms : List Int) (w : World) (r : Reads w.heap.size w v (ms.map (Value.int .i64))) :
    Calls Try.prog 100 #[.agg #[.int .i64 n, v]] w fun e w' => e = .returned (.bool (viewOk n ms)) ∧ Below w.heap.size w w' := by
  have HV : Hid _ := viewOk_unl n ms
  have HR : Hid (Reads w.heap.size w v (ms.map (Value.int .i64))) := r
  obtain ⟨o1, cap1, rfl, m1, -, -⟩ := r
  simp only [List.length_map] at m1 ⊢ HR
  obtain ⟨W0, hW0, k0, d0, z0⟩ := box1 w #[.int .i64 n, .slice o1 ms.length cap1] 59
  have r0 : Reads W0.heap.size W0 (.slice o1 ms.length cap1) (ms.map (Value.int .i64)) := (HR.out.below d0).mono d0.size
  have HW0 : Hid (W0 = _) := hW0
  have p0 := at_cell k0 0
  have p1 := at_cell k0 1
  unfold maxLen at m1
  clear hW0 k0
  go_enter Try.func100, Try.ntmps100
  go_upto_region 1 with fail
  rw [← HW0.out]
  clear HW0
  go_wp2_with fail
  refine (viewNumberOk_any n _).mono ?_
  rintro e w1 ⟨rfl, rfl⟩
  cases h1 : inB n 1 1000
  · have HF : Hid (viewOk n ms = false) := by rw [Hid, HV.out, h1]; rfl
    clear HV h1 r0
    go_wp2_with fail
    go_ret
    exact ⟨ret_bool HF.out.symm, d0⟩
  · go_wp2_with fail
    refine (within14_any (ms.length : Int) 1 4 _).mono ?_
    rintro e w1 ⟨rfl, rfl⟩
    cases h2 : inB (ms.length : Int) 1 4
    · have HF : Hid (viewOk n ms = false) := by rw [Hid, HV.out, h1, h2]; rfl
      clear HV h1 h2 r0
      go_wp2_with fail
      go_ret
      exact ⟨ret_bool HF.out.symm, d0⟩
    · have HF : Hid (viewOk n ms = unl ms) := by rw [Hid, HV.out, h1, h2]; rfl
      clear HV h1 h2
      go_wp2_with fail
      refine (unlike_any _ ms _ r0).mono ?_
      rintro e w1 ⟨rfl, rfl⟩
      go_wp2_with fail
      go_ret
      exact ⟨ret_bool HF.out.symm, d0⟩

end Go.Proofs.Ytghhphhnalfjaaa
