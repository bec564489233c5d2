/-
  Chapter 5: the specification's MapOk, at every argument.
-/
import Derived.Test.YtchlkdhnjejgnaaRuns
import Derived.Test.YtchlkdhnjejgnaaMapM
namespace Go.Proofs.Ytchlkdhnjejgnaa
open Go.RowKit
set_option linter.unusedVariables false
set_option maxRecDepth 100000

/-- The run ahead of place k. -/
def prevOf (rs : List (Int × Int × Int)) (k : Nat) : Option (Int × Int × Int) := if k = 0 then none else rs[k - 1]?
theorem okFrom_step (rs : List (Int × Int × Int)) (e : Int) (k : Nat) (h : k < rs.length) : okFrom e (prevOf rs k) (rs.drop k) = (runOk e (prevOf rs k) rs[k] && okFrom (rs[k].1 + rs[k].2.1) (prevOf rs (k + 1)) (rs.drop (k + 1))) := by
  rw [List.drop_eq_getElem_cons h, okFrom, prevOf, prevOf, if_neg (by omega : ¬ k + 1 = 0), Nat.add_sub_cancel, List.getElem?_eq_getElem h]
theorem runOk_false (e : Int) (pv : Option (Int × Int × Int)) (f c p : Int) (h : ¬ (e ≤ f ∧ 1 ≤ c ∧ c ≤ 16 ∧ f ≤ 16 - c ∧ 0 ≤ p ∧ p ≤ 24 - c ∧ ∀ q, pv = some q → ¬ (f = e ∧ p = q.2.2 + q.2.1))) : runOk e pv (f, c, p) = false := by
  rw [Bool.eq_false_iff]
  exact fun q => h ((runOk_iff e pv f c p).1 q)

set_option maxHeartbeats 3200000 in
theorem specMapOk_any (v : Value) (rs : List (Int × Int × Int)) (w : World) (r : ReadsR 3 runC w.heap.size w v rs) :
    Calls Try.prog 65 #[v] w fun e w' => e = .returned (.bool (mapOk rs)) ∧ Below w.heap.size w w' := by
  obtain ⟨o, cap, rfl, hm, hc, -⟩ := r
  have HC : Hid _ := three_cells hc
  unfold maxLen at hm
  clear hc
  go_enter Try.func65, Try.ntmps65
  go_wp2_with fail
  go_loopw [3, 4] (fun q i wr => ∃ (k : Nat) (e : Int), k ≤ rs.length ∧ i = .int .i64 k ∧ q = .int .i64 e ∧ (0 ≤ e ∧ e ≤ 16) ∧ okFrom 0 none rs = okFrom e (prevOf rs k) (rs.drop k) ∧ (∀ q, prevOf rs k = some q → 0 ≤ q.2.2 ∧ q.2.2 ≤ 24 ∧ 1 ≤ q.2.1 ∧ q.2.1 ≤ 16) ∧ Below w.heap.size w wr) (fun _ i _ => rs.length - (intOf i).toNat)
  case atStart => exact ⟨0, 0, Nat.zero_le _, rfl, rfl, by omega, rfl, fun q hq => by simp [prevOf] at hq, Below.refl _ _⟩
  case round =>
    obtain ⟨k, e, hk, rfl, rfl, he, hok, hpv, hb⟩ := hrel
    by_cases hlt : k < rs.length
    · obtain ⟨g, off, rfl, hg, a0, a1, a2⟩ := HC.out k hlt
      have hst := okFrom_step rs e k hlt
      rw [← hok] at hst
      have HNO : Hid (runOk e (prevOf rs k) rs[k] = false → mapOk rs = false) := fun h => by rw [mapOk, hst, h]; rfl
      have HYES : Hid (runOk e (prevOf rs k) rs[k] = true → okFrom 0 none rs = okFrom (rs[k].1 + rs[k].2.1) (prevOf rs (k + 1)) (rs.drop (k + 1))) := fun h => by rw [hst, h, Bool.true_and]
      have HPV1 : Hid (prevOf rs (k + 1) = some rs[k]) := by rw [Hid, prevOf, if_neg (by omega), Nat.add_sub_cancel, List.getElem?_eq_getElem hlt]
      have hprev : ∀ k', k = k' + 1 → ∃ q, prevOf rs k = some q ∧ w.cell? ⟨g, off + k' * 3 + 1, none⟩ = some (.int .i64 q.2.1) ∧ w.cell? ⟨g, off + k' * 3 + 2, none⟩ = some (.int .i64 q.2.2) := fun k' hk' => by
        obtain ⟨g', off', e', -, -, b1, b2⟩ := HC.out k' (by omega)
        cases e'
        refine ⟨rs[k'], ?_, b1, b2⟩
        rw [prevOf, if_neg (by omega), show k - 1 = k' by omega, List.getElem?_eq_getElem (by omega)]
      have HPREV : Hid _ := hprev
      have HPVB : Hid _ := hpv
      replace a0 := (hb.cell (p := ⟨g, off + k * 3, none⟩) hg).trans a0
      replace a1 := (hb.cell (p := ⟨g, off + k * 3 + 1, none⟩) hg).trans a1
      replace a2 := (hb.cell (p := ⟨g, off + k * 3 + 2, none⟩) hg).trans a2
      clear hst hok hprev hpv HC
      obtain ⟨x, hx⟩ : ∃ x, rs[k] = x := ⟨_, rfl⟩
      rw [hx] at a0 a1 a2 HNO HYES HPV1
      clear hx
      obtain ⟨f, c, p⟩ := x
      simp only at a0 a1 a2 HNO HYES
      have hbA : Below w.heap.size w (wr.alloc (.cells #[.int .i64 f, .int .i64 c, .int .i64 p] 102)) := bw_alloc hb
      have kB := heap_alloc_new wr (.cells #[.int .i64 f, .int .i64 c, .int .i64 p] 102)
      have sB : wr.heap.size < (wr.alloc (.cells #[.int .i64 f, .int .i64 c, .int .i64 p] 102)).heap.size := by simp
      by_cases h1 : f < e
      · have HV : Hid _ := HNO.out (runOk_false e _ f c p (fun q => by omega))
        go_wp2_with fail
        go_ret
        exact ⟨ret_bool HV.out.symm, hbA⟩
      go_wp2_with fail
      generalize wr.alloc (.cells #[.int .i64 f, .int .i64 c, .int .i64 p] 102) = W5 at *
      generalize wr.heap.size = nB at *
      have p0 := at_cell kB 0
      have p1 := at_cell kB 1
      have p2 := at_cell kB 2
      refine (l1In_any c 1 16 _).mono ?_
      rintro e' w' ⟨rfl, rfl⟩
      cases h2 : (decide ((1 : Int) ≤ c) && decide (c ≤ 16))
      · have HH := h2
        have HV : Hid _ := HNO.out (runOk_false e _ f c p (fun q => by simp at HH; omega))
        go_wp2_with fail
        go_ret
        exact ⟨ret_bool HV.out.symm, hbA⟩
      have h2' : 1 ≤ c ∧ c ≤ 16 := by simpa using h2
      by_cases h3 : 16 - c < f
      · have HH : True := trivial
        have HV : Hid _ := HNO.out (runOk_false e _ f c p (fun q => by omega))
        go_wp2_with fail
        go_ret
        exact ⟨ret_bool HV.out.symm, hbA⟩
      go_wp2_with fail
      refine (l1In_any p 0 (24 - c) _).mono ?_
      rintro e' w' ⟨rfl, rfl⟩
      cases h4 : (decide ((0 : Int) ≤ p) && decide (p ≤ 24 - c))
      · have HH := h4
        have HV : Hid _ := HNO.out (runOk_false e _ f c p (fun q => by simp at HH; omega))
        go_wp2_with fail
        go_ret
        exact ⟨ret_bool HV.out.symm, hbA⟩
      have h4' : 0 ≤ p ∧ p ≤ 24 - c := by simpa using h4
      clear h2 h4
      rcases Nat.eq_zero_or_pos k with hk0 | hkp
      · subst hk0
        have HQ : ∀ q, prevOf rs 0 = some q → ¬ (f = e ∧ p = q.2.2 + q.2.1) := fun q hq => by simp [prevOf] at hq
        have HV : Hid _ := HYES.out ((runOk_iff e _ f c p).2 ⟨by omega, by omega, by omega, by omega, by omega, by omega, HQ⟩)
        have HPB : Hid (∀ q, prevOf rs (0 + 1) = some q → 0 ≤ q.2.2 ∧ q.2.2 ≤ 24 ∧ 1 ≤ q.2.1 ∧ q.2.1 ≤ 16) := fun q hq => by rw [HPV1.out] at hq; cases hq; simp only; omega
        clear HQ HYES HNO HPVB HPREV
        go_wp2_with fail
        go_quiet (fail)
        go_wp2_with fail
        go_roundw
        case rel => exact ⟨0 + 1, f + c, by omega, by go_num, by first | rfl | rw [e1], by omega, HV.out, HPB.out, ⟨hbA.os, hbA.tape, hbA.output, hbA.size, hbA.block⟩⟩
        case measure => simp [intOf]; omega
      · obtain ⟨k', rfl⟩ : ∃ k', k = k' + 1 := ⟨k - 1, by omega⟩
        obtain ⟨q, hpq, b1, b2⟩ := HPREV.out k' rfl
        obtain ⟨hq1, hq2, hq3, hq4⟩ := HPVB.out q hpq
        replace b1 := (hbA.cell (p := ⟨g, off + k' * 3 + 1, none⟩) hg).trans b1
        replace b2 := (hbA.cell (p := ⟨g, off + k' * 3 + 2, none⟩) hg).trans b2
        have hw1 : IntKind.i64.wrap ((k' : Int) + 1 - 1) = k' := by rw [IntKind.wrap_i64]; omega
        have hw2 : (k' : Int) + 1 - 1 = k' := by omega
        have hw3 : IntKind.i64.wrap (k' : Int) = k' := by rw [IntKind.wrap_i64]; omega
        have hw4 : IntKind.i64.wrap (q.2.2 + q.2.1) = q.2.2 + q.2.1 := by rw [IntKind.wrap_i64]; omega
        have hi0 : (0 : Int) ≤ (k' : Int) := by omega
        have hi1 : (k' : Int) < (rs.length : Int) := by omega
        by_cases e1 : f = e
        · by_cases e2 : p = q.2.2 + q.2.1
          · have e1b : (f == e) = true := by simpa using e1
            have e2b : (p == q.2.2 + q.2.1) = true := by simpa using e2
            have HV : Hid _ := HNO.out (runOk_false e _ f c p (fun h => h.2.2.2.2.2.2 q hpq ⟨e1, e2⟩))
            clear HYES HNO HPVB HPREV
            go_wp2_with fail
            go_quiet (fail)
            go_wp2_with fail
            go_ret
            exact ⟨ret_bool HV.out.symm, ⟨hbA.os, hbA.tape, hbA.output, hbA.size, hbA.block⟩⟩
          · have e1b : (f == e) = true := by simpa using e1
            have e2b : (p == q.2.2 + q.2.1) = false := by simpa using e2
            have HQ : ∀ q', prevOf rs (k' + 1) = some q' → ¬ (f = e ∧ p = q'.2.2 + q'.2.1) := fun q' hq' h => by rw [hpq] at hq'; cases hq'; exact e2 h.2
            have HV : Hid _ := HYES.out ((runOk_iff e _ f c p).2 ⟨by omega, by omega, by omega, by omega, by omega, by omega, HQ⟩)
            have HPB : Hid (∀ q, prevOf rs ((k' + 1) + 1) = some q → 0 ≤ q.2.2 ∧ q.2.2 ≤ 24 ∧ 1 ≤ q.2.1 ∧ q.2.1 ≤ 16) := fun q hq => by rw [HPV1.out] at hq; cases hq; simp only; omega
            clear HQ hpq HYES HNO HPVB HPREV
            go_wp2_with fail
            go_quiet (fail)
            go_wp2_with fail
            go_roundw
            case rel => exact ⟨k' + 1 + 1, f + c, by omega, by go_num, by first | rfl | rw [e1], by omega, HV.out, HPB.out, ⟨hbA.os, hbA.tape, hbA.output, hbA.size, hbA.block⟩⟩
            case measure => simp [intOf]; omega
        · have e1b : (f == e) = false := by simpa using e1
          have HQ : ∀ q', prevOf rs (k' + 1) = some q' → ¬ (f = e ∧ p = q'.2.2 + q'.2.1) := fun q' hq' h => e1 h.1
          have HV : Hid _ := HYES.out ((runOk_iff e _ f c p).2 ⟨by omega, by omega, by omega, by omega, by omega, by omega, HQ⟩)
          have HPB : Hid (∀ q, prevOf rs ((k' + 1) + 1) = some q → 0 ≤ q.2.2 ∧ q.2.2 ≤ 24 ∧ 1 ≤ q.2.1 ∧ q.2.1 ≤ 16) := fun q hq => by rw [HPV1.out] at hq; cases hq; simp only; omega
          clear HQ hpq HYES HNO HPVB HPREV
          go_wp2_with fail
          go_quiet (fail)
          go_wp2_with fail
          go_roundw
          case rel => exact ⟨k' + 1 + 1, f + c, by omega, by go_num, by first | rfl | rw [e1], by omega, HV.out, HPB.out, ⟨hbA.os, hbA.tape, hbA.output, hbA.size, hbA.block⟩⟩
          case measure => simp [intOf]; omega
    · have hl : rs.drop k = [] := List.drop_of_length_le (by omega)
      have hv : mapOk rs = decide (rs.length ≤ 16) := by rw [mapOk, hok, hl]; simp [okFrom]
      have HV : Hid _ := hv
      clear hl hv hok
      go_wp2_with fail
      go_ret
      exact ⟨ret_bool (by rw [HV.out, decide_eq_decide]; omega), hb⟩

end Go.Proofs.Ytchlkdhnjejgnaa
