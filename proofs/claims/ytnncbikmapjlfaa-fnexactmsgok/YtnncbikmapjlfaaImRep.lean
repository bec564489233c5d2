/-
  Chapter 10: the program's ReplyOk, ShowReply and ReadReply, at every argument.
-/
import Derived.Test.YtnncbikmapjlfaaRep1
import Derived.Test.YtnncbikmapjlfaaRows5
import Derived.Deep.DeepCutAuto
import Derived.Deep.RegionHeld3
import Derived.Test.YtnncbikmapjlfaaSteps
namespace Go.Proofs.Ytnncbikmapjlfaa
open Go.RowKit
set_option linter.unusedVariables false
set_option maxRecDepth 100000

theorem within_rep (x lo hi : Int) (w : World) :
    Calls Try.prog 45 #[.int .i64 x, .int .i64 lo, .int .i64 hi] w fun e w' => e = .returned (.bool (inB x lo hi)) ∧ w' = w := by
  by_cases h : lo ≤ x
  · go_enter Try.func45, Try.ntmps45
    go_wp2
    go_ret
    exact ⟨ret_bool (by simp [inB, h]), rfl⟩
  · go_enter Try.func45, Try.ntmps45
    go_wp2
    go_ret
    exact ⟨ret_bool (by simp [inB]; omega), rfl⟩

theorem implReplyOk_any (c v : Int) (w : World) :
    Calls Try.prog 46 #[.agg #[.int .i64 c, .int .i64 v]] w fun e w' => e = .returned (.bool (repOk c v)) ∧ Below w.heap.size w w' := by
  obtain ⟨W0, hW0, k0, d0, z0⟩ := box1 w #[.int .i64 c, .int .i64 v] 36
  have HW0 : Hid (W0 = _) := hW0
  have p0 := at_cell k0 0
  have p1 := at_cell k0 1
  have HB : Hid (repOk c v = (inB c 0 9 && inB v 0 (if c = 0 then 1000 else 0))) := repOk_by c v
  clear hW0 k0
  by_cases h0 : c = 0
  · subst h0
    rw [if_pos rfl] at HB
    go_enter Try.func46, Try.ntmps46
    go_wp2_with fail
    rw [← HW0.out]
    clear HW0
    refine (within_rep 0 0 9 _).mono ?_
    have hin : inB 0 0 9 = true := rfl
    rw [hin] at HB ⊢
    rintro e w' ⟨rfl, rfl⟩
    clear hin
    go_wp2_with fail
    refine (within_rep v 0 1000 _).mono ?_
    generalize inB v 0 1000 = b1 at *
    rintro e w' ⟨rfl, rfl⟩
    go_wp2_with fail
    go_ret
    exact ⟨ret_bool (by rw [HB.out]; rfl), d0⟩
  · rw [if_neg h0] at HB
    go_enter Try.func46, Try.ntmps46
    go_wp2_with fail
    rw [← HW0.out]
    clear HW0 h0
    refine (within_rep c 0 9 _).mono ?_
    generalize inB c 0 9 = b0 at *
    rintro e w' ⟨rfl, rfl⟩
    cases b0
    · go_wp2_with fail
      go_ret
      exact ⟨ret_bool (by rw [HB.out]; rfl), d0⟩
    go_wp2_with fail
    refine (within_rep v 0 0 _).mono ?_
    generalize inB v 0 0 = b1 at *
    rintro e w' ⟨rfl, rfl⟩
    go_wp2_with fail
    go_ret
    exact ⟨ret_bool (by rw [HB.out]; rfl), d0⟩

/-- make([]int64, 0, 2). -/
theorem made_two : ∃ M : Array Value, (∀ W : World, (Instr.makeSlice 102 (.int .i64 0) (.int .i64 2)).run Try.prog W = .ok (.slice (some ⟨W.heap.size, 0, none⟩) 0 2) (W.alloc (.cells M 2))) ∧
    ∀ (W : World) (base : Nat), base ≤ W.heap.size → (W.alloc (.cells M 2)).ownsRow base 2 1 (.slice (some ⟨W.heap.size, 0, none⟩) 0 2) 0 [] := by
  obtain ⟨i0, hi, hz0, hz1, hz2⟩ := info_parts Try.infoI64
  refine ⟨madeCells (Value.int .i64 0).cells (2 * 1), fun W => ?_, fun W base hb => ?_⟩
  · have h := run_make (P := Try.prog) W 102 2 i0 (.int .i64 0) Try.underlying102 hi hz0 .i64 .i64 0 2 (by omega) (by omega) (by rw [hz2]; omega) (by omega)
    rw [hz1] at h
    simpa using h
  · exact ⟨rfl, .inr ⟨_, 2, _, rfl, hb, heap_alloc_new W _, Nat.zero_le _, by unfold maxLen; omega, by rw [size_madeCells], by simp⟩⟩

/-- The two numbers, where there are three bytes. -/
theorem okRead_a (s : ByteArray) : Nums.okRead s 0 1 = decide (1 ≤ s.size) := by
  rw [Bool.eq_iff_iff, Nums.okRead_iff, decide_eq_true_eq]; omega
theorem okRead_b (s : ByteArray) : Nums.okRead s 1 2 = decide (3 ≤ s.size) := by
  rw [Bool.eq_iff_iff, Nums.okRead_iff, decide_eq_true_eq]; omega

end Go.Proofs.Ytnncbikmapjlfaa
