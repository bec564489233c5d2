/-
  Chapter 5: the program's list of runs that is right; MapOk.
-/
import Derived.Test.YtehjahegokeofabImMap1
import Derived.Test.YtehjahegokeofabMap2
namespace Go.Proofs.Ytehjahegokeofab
open Go.RowKit
set_option linter.unusedVariables false

theorem at_ahead (f c p : Int) (w : World) : (method 220 80 (.agg #[.int .i64 f, .int .i64 c, .int .i64 p]) "loop.example/g00372/impl.isAheadOf").run Try.prog w = .ok (107, .agg #[.int .i64 f, .int .i64 c, .int .i64 p]) w := by kernel_rfl

theorem at_on (f c p : Int) (w : World) : (method 220 80 (.agg #[.int .i64 f, .int .i64 c, .int .i64 p]) "loop.example/g00372/impl.goesOnIn").run Try.prog w = .ok (106, .agg #[.int .i64 f, .int .i64 c, .int .i64 p]) w := by kernel_rfl

theorem at_joined (f c p : Int) (w : World) : (method 220 80 (.agg #[.int .i64 f, .int .i64 c, .int .i64 p]) "loop.example/g00372/impl.joinedTo").run Try.prog w = .ok (108, .agg #[.int .i64 f, .int .i64 c, .int .i64 p]) w := by kernel_rfl

set_option maxHeartbeats 3200000 in
theorem listRight_any (v : Value) (rs : List (Int × Int × Int)) (w : World) (hfit : FitRuns rs) (r : ReadsR 3 runC w.heap.size w v rs) :
    Calls Try.prog 66 #[v] w fun e w' => e = .returned (.bool (okFrom 0 none rs)) ∧ Below w.heap.size w w' := by
  obtain ⟨o, cap, rfl, hm, hc, -⟩ := r
  have HC : Hid _ := three_cells hc
  have HF : Hid _ := hfit
  unfold maxLen at hm
  clear hc hfit
  go_enter Try.func66, Try.ntmps66
  go_wp2_with fail
  go_loopw [7] (fun i wr => ∃ (k : Nat) (e : Int), k ≤ rs.length ∧ i = .int .i64 k ∧ (k = 0 → e = 0) ∧ okFrom 0 none rs = okFrom e (prevOf rs k) (rs.drop k) ∧ (∀ q, prevOf rs k = some q → runRight q = true ∧ e = q.1 + q.2.1) ∧ Below w.heap.size w wr) (fun i _ => rs.length - (intOf i).toNat)
  case atStart => exact ⟨0, 0, Nat.zero_le _, rfl, fun _ => rfl, rfl, fun q hq => by simp [prevOf] at hq, Below.refl _ _⟩
  case round =>
    obtain ⟨k, e, hk, rfl, hk0, hok, hpv, hb⟩ := hrel
    by_cases hlt : k < rs.length
    · obtain ⟨g, off, rfl, hg, a0, a1, a2⟩ := HC.out k hlt
      have hst := okFrom_step rs e k hlt
      rw [← hok] at hst
      have hfk := HF.out rs[k] (List.getElem_mem hlt)
      replace a0 := (hb.cell (p := ⟨g, off + k * 3, none⟩) hg).trans a0
      replace a1 := (hb.cell (p := ⟨g, off + k * 3 + 1, none⟩) hg).trans a1
      replace a2 := (hb.cell (p := ⟨g, off + k * 3 + 2, none⟩) hg).trans a2
      obtain ⟨x, hx⟩ : ∃ x, rs[k] = x := ⟨_, rfl⟩
      rw [hx] at a0 a1 a2 hfk
      obtain ⟨f, c, p⟩ := x
      simp only at a0 a1 a2 hfk
      have HNO : Hid (runOk e (prevOf rs k) (f, c, p) = false → okFrom 0 none rs = false) := fun h => by rw [hst, hx, h]; rfl
      have HYES : Hid (runOk e (prevOf rs k) (f, c, p) = true → okFrom 0 none rs = okFrom (f + c) (prevOf rs (k + 1)) (rs.drop (k + 1))) := fun h => by rw [hst, hx, h, Bool.true_and]
      have HPV1 : Hid (prevOf rs (k + 1) = some (f, c, p)) := by rw [Hid, prevOf, if_neg (by omega), Nat.add_sub_cancel, List.getElem?_eq_getElem hlt, hx]
      have hprev : ∀ k', k = k' + 1 → ∃ q, prevOf rs k = some q ∧ w.cell? ⟨g, off + k' * 3, none⟩ = some (.int .i64 q.1) ∧ w.cell? ⟨g, off + k' * 3 + 1, none⟩ = some (.int .i64 q.2.1) ∧ w.cell? ⟨g, off + k' * 3 + 2, none⟩ = some (.int .i64 q.2.2) := fun k' hk' => by
        obtain ⟨g', off', e', -, b0, b1, b2⟩ := HC.out k' (by omega)
        cases e'
        refine ⟨rs[k'], ?_, b0, b1, b2⟩
        rw [prevOf, if_neg (by omega), show k - 1 = k' by omega, List.getElem?_eq_getElem (by omega)]
      have HPREV : Hid _ := hprev
      have HPVB : Hid _ := hpv
      have HK0 : Hid _ := hk0
      have hbA : Below w.heap.size w (wr.alloc (.cells #[.int .i64 f, .int .i64 c, .int .i64 p] 80)) := bw_alloc hb
      have kB := heap_alloc_new wr (.cells #[.int .i64 f, .int .i64 c, .int .i64 p] 80)
      have sB : wr.heap.size < (wr.alloc (.cells #[.int .i64 f, .int .i64 c, .int .i64 p] 80)).heap.size := by simp
      clear hst hok hprev hpv HC hx hk0
      go_wp2_with fail
      refine (implRun_right f c p _ hfk.1.2 hfk.2.2.2).mono ?_
      generalize wr.alloc (.cells #[.int .i64 f, .int .i64 c, .int .i64 p] 80) = W5 at *
      generalize wr.heap.size = nB at *
      rintro e' w6 ⟨rfl, b6⟩
      replace kB := (b6.block nB sB).trans kB
      replace sB := Nat.lt_of_lt_of_le sB b6.size
      replace hbA := bw_call hbA b6
      clear b6
      cases hr : runRight (f, c, p)
      · have HH := hr
        have HV : Hid _ := HNO.out (runOk_false e _ f c p (fun q => by
          rw [← Bool.not_eq_true, runRight_iff] at HH
          by_cases k0 : k = 0
          · have := HK0.out k0; omega
          · obtain ⟨k', rfl⟩ : ∃ k', k = k' + 1 := ⟨k - 1, by omega⟩
            obtain ⟨q', hq', -⟩ := HPREV.out k' rfl
            obtain ⟨h1, h2⟩ := HPVB.out q' hq'
            obtain ⟨qf, qc, qp⟩ := q'
            rw [runRight_iff] at h1
            simp only at h2
            omega))
        clear HH hr
        go_wp2_with fail
        go_ret
        exact ⟨ret_bool HV.out.symm, hbA⟩
      rw [runRight_iff] at hr
      have HRR : Hid (∀ q, prevOf rs (k + 1) = some q → runRight q = true ∧ f + c = q.1 + q.2.1) := fun q hq => by
        rw [HPV1.out] at hq; cases hq; exact ⟨(runRight_iff f c p).2 hr, rfl⟩
      rcases Nat.eq_zero_or_pos k with hk0 | hkp
      · subst hk0
        have HV : Hid _ := HYES.out ((runOk_iff e _ f c p).2 ⟨by have := HK0.out rfl; omega, by omega, by omega, by omega, by omega, by omega, fun q hq => by simp [prevOf] at hq⟩)
        clear HYES HNO HPVB HPREV HK0
        go_wp2_with fail
        go_quiet (fail)
        go_wp2_with fail
        go_roundw
        case rel => exact ⟨0 + 1, f + c, by omega, by go_num, fun h => by omega, HV.out, HRR.out, ⟨hbA.os, hbA.tape, hbA.output, hbA.size, hbA.block⟩⟩
        case measure => simp [intOf]; omega
      · obtain ⟨k', rfl⟩ : ∃ k', k = k' + 1 := ⟨k - 1, by omega⟩
        obtain ⟨⟨qf, qc, qp⟩, hpq, b0, b1, b2⟩ := HPREV.out k' rfl
        obtain ⟨hq1, hq2⟩ := HPVB.out _ hpq
        rw [runRight_iff] at hq1
        simp only at hq2 b0 b1 b2
        have hgs : g < w6.heap.size := Nat.lt_of_lt_of_le hg hbA.size
        have hne := BelowOf.any w6
        have ma := at_ahead
        have mo := at_on
        have d0 := BelowOf.cell ((hbA.cell (p := ⟨g, off + k' * 3, none⟩) hg).trans b0) hgs
        have d1 := BelowOf.cell ((hbA.cell (p := ⟨g, off + k' * 3 + 1, none⟩) hg).trans b1) hgs
        have d2 := BelowOf.cell ((hbA.cell (p := ⟨g, off + k' * 3 + 2, none⟩) hg).trans b2) hgs
        have f0 := BelowOf.cell (at_cell kB 0) sB
        have f1 := BelowOf.cell (at_cell kB 1) sB
        have f2 := BelowOf.cell (at_cell kB 2) sB
        have hw1 : IntKind.i64.wrap ((k' : Int) + 1 - 1) = k' := by rw [IntKind.wrap_i64]; omega
        have hw2 : (k' : Int) + 1 - 1 = k' := by omega
        have hw3 : IntKind.i64.wrap (k' : Int) = k' := by rw [IntKind.wrap_i64]; omega
        have hi0 : (0 : Int) ≤ (k' : Int) := by omega
        have hi1 : (k' : Int) < (rs.length : Int) := by omega
        have hq0 : (0 : Int) < (k' : Int) + 1 := by omega
        by_cases h1 : qf + qc ≤ f
        · have HA : ∀ q : BelowOf w6, Calls Try.prog 107 #[.agg #[.int .i64 qf, .int .i64 qc, .int .i64 qp], .agg #[.int .i64 f, .int .i64 c, .int .i64 p]] q.w' fun e w' => e = .returned (.bool true) ∧ Below q.w'.heap.size q.w' w' := fun q => by have h := implRun_ahead qf qc qp f c p q.w' (by omega); rwa [decide_eq_true h1] at h
          by_cases h2 : qf + qc = f ∧ qp + qc = p
          · have HO : ∀ q : BelowOf w6, Calls Try.prog 106 #[.agg #[.int .i64 qf, .int .i64 qc, .int .i64 qp], .agg #[.int .i64 f, .int .i64 c, .int .i64 p]] q.w' fun e w' => e = .returned (.bool true) ∧ Below q.w'.heap.size q.w' w' := fun q => by have h := implRun_on qf qc qp f c p q.w' (by omega); rwa [decide_eq_true h2.1, decide_eq_true h2.2] at h
            have HV : Hid _ := HNO.out (runOk_false e _ f c p (fun h => h.2.2.2.2.2.2 _ hpq ⟨by omega, by simp only; omega⟩))
            clear HYES HNO HPVB HPREV HK0 hpq
            go_wp2_with fail
            refine wp_region_of (by kernel_rfl) (by kernel_rfl) ?_
            repeat (go_big_quiet_step ((first | (go_at_call 107; exact calls_of (HA _)) | (go_at_call 106; exact calls_of (HO _)) | rfl)))
            refine wpQuiet_nil ?_
            intro w7 hw7
            obtain ⟨⟨wx, cx⟩, hwx⟩ := hw7
            have b7 : Below w6.heap.size w6 w7 := by rw [hwx]; exact cx
            have hb7 := bw_call hbA b7
            clear hwx cx wx hne d0 d1 d2 f0 f1 f2 HA HO
            go_wp2_with fail
            go_ret
            exact ⟨ret_bool HV.out.symm, hb7⟩
          · have HO : ∀ q : BelowOf w6, Calls Try.prog 106 #[.agg #[.int .i64 qf, .int .i64 qc, .int .i64 qp], .agg #[.int .i64 f, .int .i64 c, .int .i64 p]] q.w' fun e w' => e = .returned (.bool false) ∧ Below q.w'.heap.size q.w' w' := fun q => by
              have h := implRun_on qf qc qp f c p q.w' (by omega)
              rwa [show (decide (qf + qc = f) && decide (qp + qc = p)) = false by simpa using h2] at h
            have HV : Hid _ := HYES.out ((runOk_iff e _ f c p).2 ⟨by omega, by omega, by omega, by omega, by omega, by omega, fun q hq h => by rw [hpq] at hq; cases hq; simp only at h; omega⟩)
            clear HYES HNO HPVB HPREV HK0 hpq
            go_wp2_with fail
            refine wp_region_of (by kernel_rfl) (by kernel_rfl) ?_
            repeat (go_big_quiet_step ((first | (go_at_call 107; exact calls_of (HA _)) | (go_at_call 106; exact calls_of (HO _)) | rfl)))
            refine wpQuiet_nil ?_
            intro w7 hw7
            obtain ⟨⟨wx, cx⟩, hwx⟩ := hw7
            have b7 : Below w6.heap.size w6 w7 := by rw [hwx]; exact cx
            have hb7 := bw_call hbA b7
            clear hwx cx wx hne d0 d1 d2 f0 f1 f2 HA HO
            go_wp2_with fail
            go_roundw
            case rel => exact ⟨k' + 1 + 1, f + c, by omega, by go_num, fun h => by omega, HV.out, HRR.out, hb7⟩
            case measure => simp [intOf]; omega
        · have HA : ∀ q : BelowOf w6, Calls Try.prog 107 #[.agg #[.int .i64 qf, .int .i64 qc, .int .i64 qp], .agg #[.int .i64 f, .int .i64 c, .int .i64 p]] q.w' fun e w' => e = .returned (.bool false) ∧ Below q.w'.heap.size q.w' w' := fun q => by have h := implRun_ahead qf qc qp f c p q.w' (by omega); rwa [decide_eq_false h1] at h
          have HV : Hid _ := HNO.out (runOk_false e _ f c p (fun h => by omega))
          clear HYES HNO HPVB HPREV HK0 hpq
          go_wp2_with fail
          refine wp_region_of (by kernel_rfl) (by kernel_rfl) ?_
          repeat (go_big_quiet_step ((first | (go_at_call 107; exact calls_of (HA _)) | rfl)))
          refine wpQuiet_nil ?_
          intro w7 hw7
          obtain ⟨⟨wx, cx⟩, hwx⟩ := hw7
          have b7 : Below w6.heap.size w6 w7 := by rw [hwx]; exact cx
          have hb7 := bw_call hbA b7
          clear hwx cx wx hne d0 d1 d2 f0 f1 f2 HA
          go_wp2_with fail
          go_ret
          exact ⟨ret_bool HV.out.symm, hb7⟩
    · have hl : rs.drop k = [] := List.drop_of_length_le (by omega)
      have hv : okFrom 0 none rs = true := by rw [hok, hl]; rfl
      have HV : Hid _ := hv
      clear hl hv hok
      go_wp2_with fail
      go_ret
      exact ⟨ret_bool HV.out.symm, hb⟩

theorem implMapOk_any (v : Value) (rs : List (Int × Int × Int)) (w : World) (hfit : FitRuns rs) (r : ReadsR 3 runC w.heap.size w v rs) :
    Calls Try.prog 25 #[v] w fun e w' => e = .returned (.bool (mapOk rs)) ∧ Below w.heap.size w w' := by
  have r0 := r
  obtain ⟨o, cap, rfl, hm, hc, -⟩ := r
  unfold maxLen at hm
  clear hc
  by_cases hl : rs.length ≤ 16
  · have HV : Hid (okFrom 0 none rs = mapOk rs) := by rw [Hid, mapOk, decide_eq_true hl, Bool.and_true]
    have hl2 : (rs.length : Int) ≤ 16 := by omega
    go_enter Try.func25, Try.ntmps25
    go_wp2_with fail
    refine (listRight_any _ rs _ hfit r0).mono ?_
    rintro e w1 ⟨rfl, b1⟩
    go_wp2_with fail
    go_ret
    exact ⟨ret_bool HV.out, b1⟩
  · have HV : Hid (mapOk rs = false) := by rw [Hid, mapOk, decide_eq_false hl, Bool.and_false]
    have hl2 : ¬ (rs.length : Int) ≤ 16 := by omega
    go_enter Try.func25, Try.ntmps25
    go_wp2_with fail
    go_ret
    exact ⟨ret_bool HV.out.symm, Below.refl _ _⟩

end Go.Proofs.Ytehjahegokeofab
