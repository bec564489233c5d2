/-
  Chapter 5: the program's runs: right, ahead of, going on in, joined to; a list of runs that is right; MapOk.
-/
import Derived.Test.YtehjahegokeofabMap1
namespace Go.Proofs.Ytehjahegokeofab
open Go.RowKit
set_option linter.unusedVariables false

def runRight (r : Int × Int × Int) : Bool := decide (0 ≤ r.1) && decide (1 ≤ r.2.1) && decide (r.2.1 ≤ 16 - r.1) && decide (0 ≤ r.2.2) && decide (r.2.1 ≤ 24 - r.2.2)
theorem runRight_iff (f c p : Int) : runRight (f, c, p) = true ↔ 0 ≤ f ∧ 1 ≤ c ∧ c ≤ 16 - f ∧ 0 ≤ p ∧ c ≤ 24 - p := by
  simp only [runRight, Bool.and_eq_true, decide_eq_true_eq]
  omega
theorem runRight_no (f c p : Int) (h : ¬ (0 ≤ f ∧ 1 ≤ c ∧ c ≤ 16 - f ∧ 0 ≤ p ∧ c ≤ 24 - p)) : runRight (f, c, p) = false := by
  rw [Bool.eq_false_iff]
  exact fun q => h ((runRight_iff f c p).1 q)

theorem implRun_right (f c p : Int) (w : World) (hf : f ≤ 9223372036854775807) (hp : p ≤ 9223372036854775807) :
    Calls Try.prog 109 #[.agg #[.int .i64 f, .int .i64 c, .int .i64 p]] w fun e w' => e = .returned (.bool (runRight (f, c, p))) ∧ Below w.heap.size w w' := by
  have HNO : Hid (∀ h : ¬ (0 ≤ f ∧ 1 ≤ c ∧ c ≤ 16 - f ∧ 0 ≤ p ∧ c ≤ 24 - p), runRight (f, c, p) = false) := runRight_no f c p
  by_cases h1 : 0 ≤ f
  · by_cases h2 : 1 ≤ c
    · have e1 : IntKind.i64.wrap (16 - f) = 16 - f := by rw [IntKind.wrap_i64]; omega
      by_cases h3 : c ≤ 16 - f
      · by_cases h4 : 0 ≤ p
        · have e2 : IntKind.i64.wrap (24 - p) = 24 - p := by rw [IntKind.wrap_i64]; omega
          by_cases h5 : c ≤ 24 - p
          · have HV : Hid (runRight (f, c, p) = true) := (runRight_iff f c p).2 ⟨h1, h2, h3, h4, h5⟩
            go_enter Try.func109, Try.ntmps109
            go_wp2
            go_ret
            exact ⟨ret_bool HV.out.symm, bw_alloc (Below.refl _ _)⟩
          · have HV := HNO.out (fun q => h5 q.2.2.2.2)
            have HH : Hid _ := HV
            clear HV
            go_enter Try.func109, Try.ntmps109
            go_wp2
            go_ret
            exact ⟨ret_bool HH.out.symm, bw_alloc (Below.refl _ _)⟩
        · have HH : Hid _ := HNO.out (fun q => h4 q.2.2.2.1)
          go_enter Try.func109, Try.ntmps109
          go_wp2
          go_ret
          exact ⟨ret_bool HH.out.symm, bw_alloc (Below.refl _ _)⟩
      · have HH : Hid _ := HNO.out (fun q => h3 q.2.2.1)
        go_enter Try.func109, Try.ntmps109
        go_wp2
        go_ret
        exact ⟨ret_bool HH.out.symm, bw_alloc (Below.refl _ _)⟩
    · have HH : Hid _ := HNO.out (fun q => h2 q.2.1)
      go_enter Try.func109, Try.ntmps109
      go_wp2
      go_ret
      exact ⟨ret_bool HH.out.symm, bw_alloc (Below.refl _ _)⟩
  · have HH : Hid _ := HNO.out (fun q => h1 q.1)
    go_enter Try.func109, Try.ntmps109
    go_wp2
    go_ret
    exact ⟨ret_bool HH.out.symm, bw_alloc (Below.refl _ _)⟩

theorem implRun_ahead (f c p f' c' p' : Int) (w : World) (h : 0 ≤ f ∧ f ≤ 16 ∧ 0 ≤ c ∧ c ≤ 16) :
    Calls Try.prog 107 #[.agg #[.int .i64 f, .int .i64 c, .int .i64 p], .agg #[.int .i64 f', .int .i64 c', .int .i64 p']] w fun e w' => e = .returned (.bool (decide (f + c ≤ f'))) ∧ Below w.heap.size w w' := by
  have e1 : IntKind.i64.wrap (f + c) = f + c := by rw [IntKind.wrap_i64]; omega
  clear h
  go_enter Try.func107, Try.ntmps107
  go_wp2
  go_ret
  exact ⟨ret_bool rfl, bw_alloc (bw_alloc (Below.refl _ _))⟩

theorem implRun_on (f c p f' c' p' : Int) (w : World) (h : 0 ≤ f ∧ f ≤ 16 ∧ 0 ≤ c ∧ c ≤ 16 ∧ 0 ≤ p ∧ p ≤ 24) :
    Calls Try.prog 106 #[.agg #[.int .i64 f, .int .i64 c, .int .i64 p], .agg #[.int .i64 f', .int .i64 c', .int .i64 p']] w fun e w' => e = .returned (.bool (decide (f + c = f') && decide (p + c = p'))) ∧ Below w.heap.size w w' := by
  have e1 : IntKind.i64.wrap (f + c) = f + c := by rw [IntKind.wrap_i64]; omega
  have e2 : IntKind.i64.wrap (p + c) = p + c := by rw [IntKind.wrap_i64]; omega
  clear h
  by_cases h1 : f + c = f'
  · have h1b : (f + c == f') = true := by simpa using h1
    have HH : Hid ((p + c == p') = (decide (f + c = f') && decide (p + c = p'))) := by rw [Hid, decide_eq_true h1, Bool.true_and]; rfl
    clear h1
    go_enter Try.func106, Try.ntmps106
    go_wp2
    go_ret
    exact ⟨ret_bool HH.out, bw_alloc (bw_alloc (Below.refl _ _))⟩
  · have h1b : (f + c == f') = false := by simpa using h1
    have HH : Hid (false = (decide (f + c = f') && decide (p + c = p'))) := by rw [Hid, decide_eq_false h1, Bool.false_and]
    clear h1
    go_enter Try.func106, Try.ntmps106
    go_wp2
    go_ret
    exact ⟨ret_bool HH.out, bw_alloc (bw_alloc (Below.refl _ _))⟩

theorem implRun_joined (f c p f' c' p' : Int) (w : World) (h : 0 ≤ c ∧ c ≤ 16 ∧ 0 ≤ c' ∧ c' ≤ 16) :
    Calls Try.prog 108 #[.agg #[.int .i64 f, .int .i64 c, .int .i64 p], .agg #[.int .i64 f', .int .i64 c', .int .i64 p']] w fun e w' => e = .returned (.agg #[.int .i64 f, .int .i64 (c + c'), .int .i64 p]) ∧ Below w.heap.size w w' := by
  have e1 : IntKind.i64.wrap (c + c') = c + c' := by rw [IntKind.wrap_i64]; omega
  clear h
  go_enter Try.func108, Try.ntmps108
  go_wp2
  exact bodyPost_ret (v := .agg #[.int .i64 f, .int .i64 (c + c'), .int .i64 p]) (by simp [results, Try.results108, go_sem]) rfl ⟨rfl, by go_grown⟩

theorem placeOk_any (x : Int) (w : World) :
    Calls Try.prog 59 #[.int .i64 x] w fun e w' => e = .returned (.bool (decide (0 ≤ x) && decide (x ≤ 15))) ∧ w' = w := by
  by_cases h1 : 0 ≤ x
  · by_cases h2 : x < 16
    · go_enter Try.func59, Try.ntmps59
      go_wp2
      go_ret
      exact ⟨ret_bool (by rw [decide_eq_true h1, decide_eq_true (show x ≤ 15 by omega)]; rfl), rfl⟩
    · go_enter Try.func59, Try.ntmps59
      go_wp2
      go_ret
      exact ⟨ret_bool (by simp; omega), rfl⟩
  · go_enter Try.func59, Try.ntmps59
    go_wp2
    go_ret
    exact ⟨ret_bool (by simp; omega), rfl⟩

theorem pageOrNoneOk_any (x : Int) (w : World) :
    Calls Try.prog 60 #[.int .i64 x] w fun e w' => e = .returned (.bool (decide (-1 ≤ x) && decide (x ≤ 23))) ∧ w' = w := by
  by_cases h1 : -1 ≤ x
  · by_cases h2 : x < 24
    · go_enter Try.func60, Try.ntmps60
      go_wp2
      go_ret
      exact ⟨ret_bool (by rw [decide_eq_true h1, decide_eq_true (show x ≤ 23 by omega)]; rfl), rfl⟩
    · go_enter Try.func60, Try.ntmps60
      go_wp2
      go_ret
      exact ⟨ret_bool (by simp; omega), rfl⟩
  · go_enter Try.func60, Try.ntmps60
    go_wp2
    go_ret
    exact ⟨ret_bool (by simp; omega), rfl⟩

end Go.Proofs.Ytehjahegokeofab
