/-
  Chapter 14: the program's HeadOf, TailOf, NextOf, PrevOf, Without, Joined, at every argument.
-/
import Derived.Test.YtghhphhnalfjaaaImHp9
import Derived.Test.YtghhphhnalfjaaaVwLaw
namespace Go.Proofs.Ytghhphhnalfjaaa
open Go.RowKit Nums
set_option linter.unusedVariables false
set_option maxRecDepth 100000

theorem lineP_len {side n : Int} {ms : List Int} : (lineP side n ms).length ≤ 4 := by
  cases h : viewOk n ms
  · rw [lineP_bad h]; simp
  · rw [lineP_ok h, lineFrom_len]
    have := (viewOk_parts h).2.2.2.2
    simpa using this
theorem head_is (n : Int) (ms : List Int) : firstP (lineP 1 n ms) = headOf n ms := by
  rw [headOf]
  cases h : viewOk n ms
  · rw [lineP_bad h]; rfl
  · have := (viewOk_parts h).2.2.2
    rw [lineP_ok h, head_line ms this.2, if_neg (by omega), if_pos rfl]
theorem tail_is (n : Int) (ms : List Int) : firstP (lineP (-1) n ms) = tailOf n ms := by
  rw [tailOf]
  cases h : viewOk n ms
  · rw [lineP_bad h]; rfl
  · have := (viewOk_parts h).2.2.2
    rw [lineP_ok h, tail_line ms this.2, if_neg (by omega), if_pos rfl]
theorem next_is (n : Int) (ms : List Int) (x : Int) : afterP (lineP 1 n ms).length (lineP 1 n ms) x = nextOf n ms x := by
  cases h : viewOk n ms
  · rw [lineP_bad h, (next_none (.inl h)).1]; rfl
  · have hl := (viewOk_parts h).2.2.2
    have h4 : (lineFrom 1 [] 0 ms).length ≤ 4 := by rw [lineFrom_len]; simpa using hl.2
    rw [lineP_ok h, afterP_fuel x _ 5 _ (Nat.le_refl _) (by omega), after_head ms x hl.2, (next_line h x).1]
theorem prev_is (n : Int) (ms : List Int) (x : Int) : afterP (lineP (-1) n ms).length (lineP (-1) n ms) x = prevOf n ms x := by
  cases h : viewOk n ms
  · rw [lineP_bad h, (next_none (.inl h)).2]; rfl
  · have hl := (viewOk_parts h).2.2.2
    have h4 : (lineFrom (-1) [] 0 ms).length ≤ 4 := by rw [lineFrom_len]; simpa using hl.2
    rw [lineP_ok h, afterP_fuel x _ 5 _ (Nat.le_refl _) (by omega), after_tail ms x hl.2, (next_line h x).2]

theorem implHeadOf_any (n : Int) (v : Value) (ms : List Int) (w : World) (r : Reads w.heap.size w v (ms.map (Value.int .i64))) :
    Calls Try.prog 69 #[.agg #[.int .i64 n, v]] w fun e w' => e = .returned (.int .i64 (headOf n ms)) ∧ Below w.heap.size w w' := by
  obtain ⟨o1, cap1, rfl⟩ : ∃ o c, v = .slice o ms.length c := by obtain ⟨o, c, e, -⟩ := r; exact ⟨o, c, by rw [e, List.length_map]⟩
  obtain ⟨W0, hW0, k0, d0, z0⟩ := box1 w #[.int .i64 n, .slice o1 ms.length cap1] 59
  have r0 := (r.below d0).mono d0.size
  have p0 := at_cell k0 0
  have p1 := at_cell k0 1
  have HW0 : Hid (W0 = _) := hW0
  clear hW0 k0 z0
  have HV : Hid _ := head_is n ms
  go_enter Try.func69, Try.ntmps69
  go_upto_region 1 with fail
  rw [← HW0.out]
  clear HW0
  go_wp2_with (go_at_call 93; refine (lineOf_any 1 n _ ms _ (.inl rfl) r0).mono ?_)
  rintro e w1 ⟨v1, rfl, own1, b01⟩
  have b1 := bw_call d0 b01
  clear p0 p1 r0
  go_wp2_with (go_at_call 94; refine (implFirst_any _ v1 _ _ own1).mono ?_)
  rintro e w2 ⟨rfl, rfl⟩
  clear own1
  generalize firstP (lineP 1 n ms) = q at *
  go_wp2_with fail
  go_ret
  exact ⟨ret_int HV.out, b1⟩

theorem implTailOf_any (n : Int) (v : Value) (ms : List Int) (w : World) (r : Reads w.heap.size w v (ms.map (Value.int .i64))) :
    Calls Try.prog 70 #[.agg #[.int .i64 n, v]] w fun e w' => e = .returned (.int .i64 (tailOf n ms)) ∧ Below w.heap.size w w' := by
  obtain ⟨o1, cap1, rfl⟩ : ∃ o c, v = .slice o ms.length c := by obtain ⟨o, c, e, -⟩ := r; exact ⟨o, c, by rw [e, List.length_map]⟩
  obtain ⟨W0, hW0, k0, d0, z0⟩ := box1 w #[.int .i64 n, .slice o1 ms.length cap1] 59
  have r0 := (r.below d0).mono d0.size
  have p0 := at_cell k0 0
  have p1 := at_cell k0 1
  have HW0 : Hid (W0 = _) := hW0
  clear hW0 k0 z0
  have HV : Hid _ := tail_is n ms
  go_enter Try.func70, Try.ntmps70
  go_upto_region 1 with fail
  rw [← HW0.out]
  clear HW0
  go_wp2_with (go_at_call 93; refine (lineOf_any (-1) n _ ms _ (.inr rfl) r0).mono ?_)
  rintro e w1 ⟨v1, rfl, own1, b01⟩
  have b1 := bw_call d0 b01
  clear p0 p1 r0
  go_wp2_with (go_at_call 94; refine (implFirst_any _ v1 _ _ own1).mono ?_)
  rintro e w2 ⟨rfl, rfl⟩
  clear own1
  generalize firstP (lineP (-1) n ms) = q at *
  go_wp2_with fail
  go_ret
  exact ⟨ret_int HV.out, b1⟩

end Go.Proofs.Ytghhphhnalfjaaa
