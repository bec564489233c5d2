/-
  Contracts and plain laws, one chapter behind the other.
-/
import Derived.Lib.LazyBuf
import Derived.Deep.DeepCutAuto
import Derived.Laws.Cover1
import Derived.Test.YtcefcglonooelaaGreatDoorM01
import Derived.Test.YtcefcglonooelaaGreatDoorM02
import Derived.Test.YtcefcglonooelaaGreatDoorM03
import Derived.Test.YtcefcglonooelaaGreatDoorM04
import Derived.Test.YtcefcglonooelaaGreatDoorM06
import Derived.Test.YtcefcglonooelaaGreatDoorM07
import Derived.Test.YtcefcglonooelaaGreatDoorM08
import Derived.Test.YtcefcglonooelaaGreatDoorM09
namespace Go.Proofs.YtcefcglonooelaaGreatDoor
open Go.RowKit

set_option linter.unusedVariables false

set_option maxRecDepth 100000


theorem at_ahead (f c p : Int) (w : World) : (method 360 129 (.agg #[.int .i64 f, .int .i64 c, .int .i64 p]) "loop.example/g00372/impl.isAheadOf").run Tryz.prog w = .ok (202, .agg #[.int .i64 f, .int .i64 c, .int .i64 p]) w := by kernel_rfl

theorem at_on (f c p : Int) (w : World) : (method 360 129 (.agg #[.int .i64 f, .int .i64 c, .int .i64 p]) "loop.example/g00372/impl.goesOnIn").run Tryz.prog w = .ok (201, .agg #[.int .i64 f, .int .i64 c, .int .i64 p]) w := by kernel_rfl

set_option maxHeartbeats 3200000 in
theorem listRight_any (v : Value) (rs : List (Int × Int × Int)) (w : World) (hfit : FitRuns rs) (r : ReadsR 3 runC w.heap.size w v rs) :
    Calls Tryz.prog 159 #[v] w fun e w' => e = .returned (.bool (okFrom 0 none rs)) ∧ Below w.heap.size w w' := by
  obtain ⟨o, cap, rfl, hm, hc, -⟩ := r
  have HC : Hid _ := three_cells hc
  have HF : Hid _ := hfit
  unfold maxLen at hm
  clear hc hfit
  go_enter Tryz.func159, Tryz.ntmps159
  go_wp2_with fail
  go_loopw [7] (fun i wr => ∃ (k : Nat) (e : Int), k ≤ rs.length ∧ i = .int .i64 k ∧ (k = 0 → e = 0) ∧ okFrom 0 none rs = okFrom e (prevOf rs k) (rs.drop k) ∧ (∀ q, prevOf rs k = some q → runRight q = true ∧ e = q.1 + q.2.1) ∧ Below w.heap.size w wr) (fun i _ => rs.length - (intOf i).toNat)
  case atStart => exact ⟨0, 0, Nat.zero_le _, rfl, fun _ => rfl, rfl, fun q hq => by simp [prevOf] at hq, Below.refl _ _⟩
  case round =>
    obtain ⟨k, e, hk, rfl, hk0, hok, hpv, hb⟩ := hrel
    by_cases hlt : k < rs.length
    · obtain ⟨g, off, rfl, hg, a0, a1, a2⟩ := HC.out k hlt
      have hst := okFrom_step rs e k hlt
      rw [← hok] at hst
      have hfk := HF.out rs[k] (List.getElem_mem hlt)
      replace a0 := (hb.cell (p := ⟨g, off + k * 3, none⟩) hg).trans a0
      replace a1 := (hb.cell (p := ⟨g, off + k * 3 + 1, none⟩) hg).trans a1
      replace a2 := (hb.cell (p := ⟨g, off + k * 3 + 2, none⟩) hg).trans a2
      obtain ⟨x, hx⟩ : ∃ x, rs[k] = x := ⟨_, rfl⟩
      rw [hx] at a0 a1 a2 hfk
      obtain ⟨f, c, p⟩ := x
      simp only at a0 a1 a2 hfk
      have HNO : Hid (runOk e (prevOf rs k) (f, c, p) = false → okFrom 0 none rs = false) := fun h => by rw [hst, hx, h]; rfl
      have HYES : Hid (runOk e (prevOf rs k) (f, c, p) = true → okFrom 0 none rs = okFrom (f + c) (prevOf rs (k + 1)) (rs.drop (k + 1))) := fun h => by rw [hst, hx, h, Bool.true_and]
      have HPV1 : Hid (prevOf rs (k + 1) = some (f, c, p)) := by rw [Hid, prevOf, if_neg (by omega), Nat.add_sub_cancel, List.getElem?_eq_getElem hlt, hx]
      have hprev : ∀ k', k = k' + 1 → ∃ q, prevOf rs k = some q ∧ w.cell? ⟨g, off + k' * 3, none⟩ = some (.int .i64 q.1) ∧ w.cell? ⟨g, off + k' * 3 + 1, none⟩ = some (.int .i64 q.2.1) ∧ w.cell? ⟨g, off + k' * 3 + 2, none⟩ = some (.int .i64 q.2.2) := fun k' hk' => by
        obtain ⟨g', off', e', -, b0, b1, b2⟩ := HC.out k' (by omega)
        cases e'
        refine ⟨rs[k'], ?_, b0, b1, b2⟩
        rw [prevOf, if_neg (by omega), show k - 1 = k' by omega, List.getElem?_eq_getElem (by omega)]
      have HPREV : Hid _ := hprev
      have HPVB : Hid _ := hpv
      have HK0 : Hid _ := hk0
      have hbA : Below w.heap.size w (wr.alloc (.cells #[.int .i64 f, .int .i64 c, .int .i64 p] 129)) := bw_alloc hb
      have kB := heap_alloc_new wr (.cells #[.int .i64 f, .int .i64 c, .int .i64 p] 129)
      have sB : wr.heap.size < (wr.alloc (.cells #[.int .i64 f, .int .i64 c, .int .i64 p] 129)).heap.size := by simp
      clear hst hok hprev hpv HC hx hk0
      go_wp2_with fail
      refine (implRun_right f c p _ hfk.1.2 hfk.2.2.2).mono ?_
      generalize wr.alloc (.cells #[.int .i64 f, .int .i64 c, .int .i64 p] 129) = W5 at *
      generalize wr.heap.size = nB at *
      rintro e' w6 ⟨rfl, b6⟩
      replace kB := (b6.block nB sB).trans kB
      replace sB := Nat.lt_of_lt_of_le sB b6.size
      replace hbA := bw_call hbA b6
      clear b6
      cases hr : runRight (f, c, p)
      · have HH := hr
        have HV : Hid _ := HNO.out (runOk_false e _ f c p (fun q => by
          rw [← Bool.not_eq_true, runRight_iff] at HH
          by_cases k0 : k = 0
          · have := HK0.out k0; omega
          · obtain ⟨k', rfl⟩ : ∃ k', k = k' + 1 := ⟨k - 1, by omega⟩
            obtain ⟨q', hq', -⟩ := HPREV.out k' rfl
            obtain ⟨h1, h2⟩ := HPVB.out q' hq'
            obtain ⟨qf, qc, qp⟩ := q'
            rw [runRight_iff] at h1
            simp only at h2
            omega))
        clear HH hr
        go_wp2_with fail
        go_ret
        exact ⟨ret_bool HV.out.symm, hbA⟩
      rw [runRight_iff] at hr
      have HRR : Hid (∀ q, prevOf rs (k + 1) = some q → runRight q = true ∧ f + c = q.1 + q.2.1) := fun q hq => by
        rw [HPV1.out] at hq; cases hq; exact ⟨(runRight_iff f c p).2 hr, rfl⟩
      rcases Nat.eq_zero_or_pos k with hk0 | hkp
      · subst hk0
        have HV : Hid _ := HYES.out ((runOk_iff e _ f c p).2 ⟨by have := HK0.out rfl; omega, by omega, by omega, by omega, by omega, by omega, fun q hq => by simp [prevOf] at hq⟩)
        clear HYES HNO HPVB HPREV HK0
        go_wp2_with fail
        go_quiet (fail)
        go_wp2_with fail
        go_roundw
        case rel => exact ⟨0 + 1, f + c, by omega, by go_num, fun h => by omega, HV.out, HRR.out, ⟨hbA.os, hbA.tape, hbA.output, hbA.size, hbA.block⟩⟩
        case measure => simp [intOf]; omega
      · obtain ⟨k', rfl⟩ : ∃ k', k = k' + 1 := ⟨k - 1, by omega⟩
        obtain ⟨⟨qf, qc, qp⟩, hpq, b0, b1, b2⟩ := HPREV.out k' rfl
        obtain ⟨hq1, hq2⟩ := HPVB.out _ hpq
        rw [runRight_iff] at hq1
        simp only at hq2 b0 b1 b2
        have hgs : g < w6.heap.size := Nat.lt_of_lt_of_le hg hbA.size
        have hne := BelowOf.any w6
        have ma := at_ahead
        have mo := at_on
        have d0 := BelowOf.cell ((hbA.cell (p := ⟨g, off + k' * 3, none⟩) hg).trans b0) hgs
        have d1 := BelowOf.cell ((hbA.cell (p := ⟨g, off + k' * 3 + 1, none⟩) hg).trans b1) hgs
        have d2 := BelowOf.cell ((hbA.cell (p := ⟨g, off + k' * 3 + 2, none⟩) hg).trans b2) hgs
        have f0 := BelowOf.cell (at_cell kB 0) sB
        have f1 := BelowOf.cell (at_cell kB 1) sB
        have f2 := BelowOf.cell (at_cell kB 2) sB
        have hw1 : IntKind.i64.wrap ((k' : Int) + 1 - 1) = k' := by rw [IntKind.wrap_i64]; omega
        have hw2 : (k' : Int) + 1 - 1 = k' := by omega
        have hw3 : IntKind.i64.wrap (k' : Int) = k' := by rw [IntKind.wrap_i64]; omega
        have hi0 : (0 : Int) ≤ (k' : Int) := by omega
        have hi1 : (k' : Int) < (rs.length : Int) := by omega
        have hq0 : (0 : Int) < (k' : Int) + 1 := by omega
        by_cases h1 : qf + qc ≤ f
        · have HA : ∀ q : BelowOf w6, Calls Tryz.prog 202 #[.agg #[.int .i64 qf, .int .i64 qc, .int .i64 qp], .agg #[.int .i64 f, .int .i64 c, .int .i64 p]] q.w' fun e w' => e = .returned (.bool true) ∧ Below q.w'.heap.size q.w' w' := fun q => by have h := implRun_ahead qf qc qp f c p q.w' (by omega); rwa [decide_eq_true h1] at h
          by_cases h2 : qf + qc = f ∧ qp + qc = p
          · have HO : ∀ q : BelowOf w6, Calls Tryz.prog 201 #[.agg #[.int .i64 qf, .int .i64 qc, .int .i64 qp], .agg #[.int .i64 f, .int .i64 c, .int .i64 p]] q.w' fun e w' => e = .returned (.bool true) ∧ Below q.w'.heap.size q.w' w' := fun q => by have h := implRun_on qf qc qp f c p q.w' (by omega); rwa [decide_eq_true h2.1, decide_eq_true h2.2] at h
            have HV : Hid _ := HNO.out (runOk_false e _ f c p (fun h => h.2.2.2.2.2.2 _ hpq ⟨by omega, by simp only; omega⟩))
            clear HYES HNO HPVB HPREV HK0 hpq
            go_wp2_with fail
            refine wp_region_of (by kernel_rfl) (by kernel_rfl) ?_
            repeat (go_big_quiet_step ((first | (go_at_call 202; exact calls_of (HA _)) | (go_at_call 201; exact calls_of (HO _)) | rfl)))
            refine wpQuiet_nil ?_
            intro w7 hw7
            obtain ⟨⟨wx, cx⟩, hwx⟩ := hw7
            have b7 : Below w6.heap.size w6 w7 := by rw [hwx]; exact cx
            have hb7 := bw_call hbA b7
            clear hwx cx wx hne d0 d1 d2 f0 f1 f2 HA HO
            go_wp2_with fail
            go_ret
            exact ⟨ret_bool HV.out.symm, hb7⟩
          · have HO : ∀ q : BelowOf w6, Calls Tryz.prog 201 #[.agg #[.int .i64 qf, .int .i64 qc, .int .i64 qp], .agg #[.int .i64 f, .int .i64 c, .int .i64 p]] q.w' fun e w' => e = .returned (.bool false) ∧ Below q.w'.heap.size q.w' w' := fun q => by
              have h := implRun_on qf qc qp f c p q.w' (by omega)
              rwa [show (decide (qf + qc = f) && decide (qp + qc = p)) = false by simpa using h2] at h
            have HV : Hid _ := HYES.out ((runOk_iff e _ f c p).2 ⟨by omega, by omega, by omega, by omega, by omega, by omega, fun q hq h => by rw [hpq] at hq; cases hq; simp only at h; omega⟩)
            clear HYES HNO HPVB HPREV HK0 hpq
            go_wp2_with fail
            refine wp_region_of (by kernel_rfl) (by kernel_rfl) ?_
            repeat (go_big_quiet_step ((first | (go_at_call 202; exact calls_of (HA _)) | (go_at_call 201; exact calls_of (HO _)) | rfl)))
            refine wpQuiet_nil ?_
            intro w7 hw7
            obtain ⟨⟨wx, cx⟩, hwx⟩ := hw7
            have b7 : Below w6.heap.size w6 w7 := by rw [hwx]; exact cx
            have hb7 := bw_call hbA b7
            clear hwx cx wx hne d0 d1 d2 f0 f1 f2 HA HO
            go_wp2_with fail
            go_roundw
            case rel => exact ⟨k' + 1 + 1, f + c, by omega, by go_num, fun h => by omega, HV.out, HRR.out, hb7⟩
            case measure => simp [intOf]; omega
        · have HA : ∀ q : BelowOf w6, Calls Tryz.prog 202 #[.agg #[.int .i64 qf, .int .i64 qc, .int .i64 qp], .agg #[.int .i64 f, .int .i64 c, .int .i64 p]] q.w' fun e w' => e = .returned (.bool false) ∧ Below q.w'.heap.size q.w' w' := fun q => by have h := implRun_ahead qf qc qp f c p q.w' (by omega); rwa [decide_eq_false h1] at h
          have HV : Hid _ := HNO.out (runOk_false e _ f c p (fun h => by omega))
          clear HYES HNO HPVB HPREV HK0 hpq
          go_wp2_with fail
          refine wp_region_of (by kernel_rfl) (by kernel_rfl) ?_
          repeat (go_big_quiet_step ((first | (go_at_call 202; exact calls_of (HA _)) | rfl)))
          refine wpQuiet_nil ?_
          intro w7 hw7
          obtain ⟨⟨wx, cx⟩, hwx⟩ := hw7
          have b7 : Below w6.heap.size w6 w7 := by rw [hwx]; exact cx
          have hb7 := bw_call hbA b7
          clear hwx cx wx hne d0 d1 d2 f0 f1 f2 HA
          go_wp2_with fail
          go_ret
          exact ⟨ret_bool HV.out.symm, hb7⟩
    · have hl : rs.drop k = [] := List.drop_of_length_le (by omega)
      have hv : okFrom 0 none rs = true := by rw [hok, hl]; rfl
      have HV : Hid _ := hv
      clear hl hv hok
      go_wp2_with fail
      go_ret
      exact ⟨ret_bool HV.out.symm, hb⟩

theorem implMapOk_any (v : Value) (rs : List (Int × Int × Int)) (w : World) (hfit : FitRuns rs) (r : ReadsR 3 runC w.heap.size w v rs) :
    Calls Tryz.prog 134 #[v] w fun e w' => e = .returned (.bool (mapOk rs)) ∧ Below w.heap.size w w' := by
  have r0 := r
  obtain ⟨o, cap, rfl, hm, hc, -⟩ := r
  unfold maxLen at hm
  clear hc
  by_cases hl : rs.length ≤ 16
  · have HV : Hid (okFrom 0 none rs = mapOk rs) := by rw [Hid, mapOk, decide_eq_true hl, Bool.and_true]
    have hl2 : (rs.length : Int) ≤ 16 := by omega
    go_enter Tryz.func134, Tryz.ntmps134
    go_wp2_with fail
    refine (listRight_any _ rs _ hfit r0).mono ?_
    rintro e w1 ⟨rfl, b1⟩
    go_wp2_with fail
    go_ret
    exact ⟨ret_bool HV.out, b1⟩
  · have HV : Hid (mapOk rs = false) := by rw [Hid, mapOk, decide_eq_false hl, Bool.and_false]
    have hl2 : ¬ (rs.length : Int) ≤ 16 := by omega
    go_enter Tryz.func134, Tryz.ntmps134
    go_wp2_with fail
    go_ret
    exact ⟨ret_bool HV.out.symm, Below.refl _ _⟩
end Go.Proofs.YtcefcglonooelaaGreatDoor

namespace Go.Proofs.YtcefcglonooelaaGreatDoor
open Go.RowKit

set_option linter.unusedVariables false

set_option maxRecDepth 100000

/-- A box of a shelf is written: a shelf of one's own stays. -/
theorem OwnS.answer {base c : Nat} {W W' : World} {v1 v2 vb : Value} {cs ps : List Int} {bks : List Bk} {xs : Array Value} (h : OwnS base W v1 v2 vb cs ps bks) (k : W.heap[c]? = some (.cells xs 42 (0, 0))) (u : Upto c W W') : OwnS base W' v1 v2 vb cs ps bks := by
  have st : ∀ (e : TypeId) (kk n : Nat) (v : Value) (xs : List Value), 42 ≠ e → W.ownsRow base e kk v n xs → W'.ownsRow base e kk v n xs := fun e kk n v xs he hr => own_rng_not hr (fun q hq hqv => u.block q hq (fun hx => own_not_box hr k he (by rw [← hx]; exact hqv)))
  exact ⟨⟨st _ _ _ _ _ (by decide) h.p.c, st _ _ _ _ _ (by decide) h.p.p, h.p.apart⟩, ⟨st _ _ _ _ _ (by decide) h.b.row, fun b hb => st _ _ _ _ _ (by decide) (h.b.maps b hb)⟩, h.a⟩
end Go.Proofs.YtcefcglonooelaaGreatDoor

namespace Go.Proofs.YtcefcglonooelaaGreatDoor
open Go.RowKit

set_option linter.unusedVariables false

set_option maxRecDepth 100000


/-- A row of books that is not empty: where it lies. -/
theorem OwnB.at {base : Nat} {w : World} {vb : Value} {bks : List Bk} (h : OwnB base w vb bks) (i : Nat) (hi : i < bks.length) : ∃ g cap, vb = .slice (some ⟨g, 0, none⟩) bks.length cap := by
  obtain ⟨n, hn1⟩ : ∃ n, bks.length = n + 1 := ⟨bks.length - 1, by omega⟩
  have hr := h.row
  rw [hn1] at hr ⊢
  exact owns_form hr
end Go.Proofs.YtcefcglonooelaaGreatDoor

namespace Go.Proofs.YtcefcglonooelaaGreatDoor
open Go.RowKit

set_option linter.unusedVariables false


set_option maxHeartbeats 1600000 in
theorem l9Ok_any (nm : ByteArray) (sz : Int) (m : Value) (rs : List Int) (fx : Bool) (ep : Int) (w : World) (hn : nm.size ≤ maxLen) (r : ReadsR 1 intC w.heap.size w m rs) :
    Calls Tryz.prog 48 #[.agg #[.string nm, .int .i64 sz, m, .bool fx, .int .i64 ep]] w fun e w' => e = .returned (.bool (plainOk nm sz rs ep)) ∧ Below w.heap.size w w' := by
  obtain ⟨o, cap, rfl, hm, hc, -⟩ := r
  have C1 : Hid _ := one_cellK hc
  obtain ⟨W0, hW0, k0, d0, z0⟩ := box1 w #[.string nm, .int .i64 sz, .slice o rs.length cap, .bool fx, .int .i64 ep] 51
  have HW0 : Hid (W0 = _) := hW0
  have HM := hm
  unfold maxLen at hm
  clear hW0 hc
  go_enter Tryz.func48, Tryz.ntmps48
  go_wp2_with fail
  rw [← HW0.out]
  clear HW0
  have p0 := at_cell k0 0
  have p1 := at_cell k0 1
  have p2 := at_cell k0 2
  have p4 := at_cell k0 4
  go_loopw [3] (fun i wr => ∃ k : Nat, k ≤ rs.length ∧ i = .int .i64 k ∧ (∀ j (hj : j < rs.length), j < k → (decide (0 ≤ rs[j]) && decide (rs[j] ≤ 999)) = true) ∧ wr = W0) (fun i _ => rs.length - (intOf i).toNat)
  case atStart => exact ⟨0, Nat.zero_le _, rfl, fun j _ h => by omega, rfl⟩
  case round =>
    obtain ⟨k, hk, rfl, hall, rfl⟩ := hrel
    have HA : Hid _ := hall
    clear hall
    by_cases hlt : k < rs.length
    · obtain ⟨g, off, rfl, hg, c0⟩ := C1.out k hlt
      replace c0 := (d0.cell (p := ⟨g, off + k, none⟩) hg).trans c0
      obtain ⟨x, hx⟩ : ∃ x, rs[k] = x := ⟨_, rfl⟩
      have HX : Hid (rs[k] = x) := hx
      rw [hx] at c0
      clear hx
      have i0 : (0 : Int) ≤ (k : Int) := by omega
      have i1 : (k : Int) < (rs.length : Int) := by omega
      go_wp2_with fail
      refine (l1In_any x 0 999 _).mono ?_
      rintro e w' ⟨rfl, rfl⟩
      cases hv : (decide (0 ≤ x) && decide (x ≤ 999))
      · have HV : Hid (plainOk nm sz rs ep = false) := by
          have := values_no k hlt (by rw [HX.out]; exact hv)
          simp [Hid, plainOk, this]
        clear hv c0 p0 p1 p2 p4
        go_wp2_with fail
        go_ret
        exact ⟨ret_bool HV.out.symm, d0⟩
      · have HN : Hid (∀ j (hj : j < rs.length), j < k + 1 → (decide (0 ≤ rs[j]) && decide (rs[j] ≤ 999)) = true) := fun j hj hjk => by
          rcases Nat.lt_or_ge j k with y | y
          · exact HA.out j hj y
          · obtain rfl : j = k := by omega
            rw [HX.out]; exact hv
        clear hv c0
        go_wp2_with fail
        go_roundw
        case rel => exact ⟨k + 1, by omega, by go_num, HN.out, trivial⟩
        case measure => simp [intOf]; omega
    · have HV : Hid (valuesB rs = true) := values_yes (fun j hj => HA.out j hj (by omega))
      have i1 : ¬ (k : Int) < (rs.length : Int) := by omega
      clear HA C1
      go_wp2_with fail
      refine (specName_any nm _ hn).mono ?_
      rintro e w' ⟨rfl, rfl⟩
      cases h1 : Nums.nameB nm.data.toList
      · have HV : Hid (plainOk nm sz rs ep = false) := by simp [Hid, plainOk, h1]
        clear h1 k0
        go_wp2_with fail
        go_ret
        exact ⟨ret_bool HV.out.symm, d0⟩
      have H1 : Hid _ := h1
      clear h1
      go_wp2_with fail
      refine (l1In_any sz 1 16 _).mono ?_
      rintro e w' ⟨rfl, rfl⟩
      cases h2 : (decide (1 ≤ sz) && decide (sz ≤ 16))
      · have HV : Hid (plainOk nm sz rs ep = false) := by simp [Hid, plainOk, h2]
        clear h2 k0
        go_wp2_with fail
        go_ret
        exact ⟨ret_bool HV.out.symm, d0⟩
      have H2 : Hid _ := h2
      clear h2
      go_wp2_with fail
      refine (l1In_any ep 0 1000 _).mono ?_
      rintro e w' ⟨rfl, rfl⟩
      cases h3 : (decide (0 ≤ ep) && decide (ep ≤ 1000))
      · have HV : Hid (plainOk nm sz rs ep = false) := by simp [Hid, plainOk, h3]
        clear h3 k0
        go_wp2_with fail
        go_ret
        exact ⟨ret_bool HV.out.symm, d0⟩
      have HP : Hid (plainOk nm sz rs ep = decide ((rs.length : Int) = sz)) := by rw [Hid, plainOk, HV.out, H1.out, H2.out, h3]; rfl
      have hwl : IntKind.i64.wrap (rs.length : Int) = (rs.length : Int) := by rw [IntKind.wrap_i64]; omega
      clear h3 k0
      go_wp2_with fail
      go_ret
      exact ⟨ret_bool (by rw [HP.out]; first | rfl | simp), d0⟩

set_option maxRecDepth 100000 in
set_option maxHeartbeats 6400000 in
theorem specPlainsOk_any (vb : Value) (bks : List Pk) (w : World) (hn : ∀ b ∈ bks, b.nm.size ≤ maxLen) (rb : ReadsK w.heap.size w vb bks) :
    Calls Tryz.prog 14 #[vb] w fun e w' => e = .returned (.bool (plainsOk (bks.map Pk.pv))) ∧ Below w.heap.size w w' := by
  have HN : Hid _ := hn
  obtain ⟨ob, cpb, f3, mb, cb, -⟩ := rb.row
  subst f3
  unfold maxLen at mb
  have CB : Hid _ := five_cellsK cb
  have RM : Hid _ := rb.maps
  clear hn rb cb
  obtain ⟨bs, hbs⟩ : ∃ bs, bks.map Pk.pv = bs := ⟨_, rfl⟩
  have hbl : bs.length = bks.length := by rw [← hbs, List.length_map]
  have HAT : Hid (∀ (i : Nat) (h1 : i < bks.length) (h2 : i < bs.length), bs[i] = bks[i].pv) := fun i h1 h2 => by subst hbs; simp
  rw [hbs]
  have HBL : Hid (bs.length = bks.length) := hbl
  clear hbs hbl
  go_enter Tryz.func14, Tryz.ntmps14
  go_wp2_with fail
  go_loopw [3] (fun i wr => ∃ q : Nat, q ≤ bks.length ∧ i = .int .i64 q ∧ (∀ j (hj : j < bs.length), j < q → bs[j].ok = true) ∧ (∀ j (hj : j + 1 < bs.length), j + 1 < q → ltB (bs[j]'(by omega)).nm bs[j + 1].nm = true) ∧ Below w.heap.size w wr) (fun i _ => bks.length - (intOf i).toNat)
  case atStart => exact ⟨0, Nat.zero_le _, rfl, fun j _ h => by omega, fun j _ h => by omega, Below.refl _ _⟩
  case round =>
    obtain ⟨q, hq, rfl, hoks, hsrt, hb⟩ := hrel
    have HOKS : Hid _ := hoks
    have HSRT : Hid _ := hsrt
    clear hoks hsrt
    by_cases hlt : q < bks.length
    · obtain ⟨g, off, rfl, hg, a0, a1, a2, a3, a4⟩ := CB.out q hlt
      have hltb : q < bs.length := by have := HBL.out; omega
      have rm := (RM.out bks[q] (List.getElem_mem hlt)).below hb
      have hnm := HN.out bks[q] (List.getElem_mem hlt)
      have hat := HAT.out q hlt hltb
      have HPREV : Hid (∀ q', q = q' + 1 → ∃ (h : q' < bs.length), wr.cell? ⟨g, off + q' * 5, none⟩ = some (.string bs[q'].nm)) := fun q' e => by
        have hl' : q' < bks.length := by omega
        obtain ⟨g', off', e', hg', c0, -⟩ := CB.out q' hl'
        cases e'
        have hl2 : q' < bs.length := by have := HBL.out; omega
        refine ⟨hl2, ?_⟩
        rw [HAT.out q' hl' hl2]
        exact (hb.cell (p := ⟨g, off + q' * 5, none⟩) hg).trans c0
      obtain ⟨x, hx⟩ : ∃ x, bks[q] = x := ⟨_, rfl⟩
      rw [hx] at a0 a1 a2 a3 a4 rm hnm hat
      clear hx
      obtain ⟨nm, sz, m, rs, fx, ep⟩ := x
      simp only at a0 a1 a2 a3 a4 rm hnm
      obtain ⟨o', cap', hm'⟩ := rm.form
      subst hm'
      have lg : g < wr.heap.size := Nat.lt_of_lt_of_le hg hb.size
      have hne := BelowOf.any wr
      have c0 := BelowOf.cell ((hb.cell (p := ⟨g, off + q * 5, none⟩) hg).trans a0) lg
      have c1 := BelowOf.cell ((hb.cell (p := ⟨g, off + q * 5 + 1, none⟩) hg).trans a1) lg
      have c2 := BelowOf.cell ((hb.cell (p := ⟨g, off + q * 5 + 2, none⟩) hg).trans a2) lg
      have c3 := BelowOf.cell ((hb.cell (p := ⟨g, off + q * 5 + 3, none⟩) hg).trans a3) lg
      have c4 := BelowOf.cell ((hb.cell (p := ⟨g, off + q * 5 + 4, none⟩) hg).trans a4) lg
      obtain ⟨okv, hok⟩ : ∃ x, plainOk nm sz rs ep = x := ⟨_, rfl⟩
      have HOK : Hid (plainOk nm sz rs ep = okv) := hok
      have HBO : Hid (bs[q].ok = okv) := by rw [Hid, hat]; exact hok
      have HBN : Hid (bs[q].nm = nm) := by rw [Hid, hat]; rfl
      have H52 : ∀ z : BelowOf wr, Calls Tryz.prog 48 #[.agg #[.string nm, .int .i64 sz, .slice o' rs.length cap', .bool fx, .int .i64 ep]] z.w' fun e w' => e = .returned (.bool okv) ∧ Below z.w'.heap.size z.w' w' := fun z => by have h := l9Ok_any nm sz _ rs fx ep z.w' hnm (rm.of hb.size z); rwa [HOK.out] at h
      have i0 : (0 : Int) ≤ (q : Int) := by omega
      have i1 : (q : Int) < (bks.length : Int) := by omega
      clear hok hat a0 a1 a2 a3 a4
      go_upto_region 4 with fail
      go_cut [33] (fun v wx => ∃ y : Bool, v = .bool y ∧ (y = true → plainsOk bs = false) ∧ (y = false → okv = true ∧ ∀ q', q = q' + 1 → ∀ (h : q' < bs.length), ltB bs[q'].nm nm = true) ∧ Below wr.heap.size wr wx)
      case first =>
        cases okv
        · have HV : Hid _ := plains_no_one q hltb HBO.out
          refine wp_region_of (by kernel_rfl) (by kernel_rfl) ?_
          repeat (go_big_quiet_step ((first | (go_at_call 48; exact calls_of (H52 _)) | rfl)))
          refine wpQuiet_nil ?_
          intro w5 hw5
          obtain ⟨⟨wx, cx⟩, hwx⟩ := hw5
          have b5 : Below wr.heap.size wr w5 := by rw [hwx]; exact cx
          clear hwx cx wx
          go_wp2_with fail
          go_meet
          exact ⟨true, rfl, fun _ => HV.out, (fun h => by cases h), b5⟩
        · rcases Nat.eq_zero_or_pos q with hq0 | hqp
          · have j2 : decide (0 < q) = false := decide_eq_false (by omega)
            have HQ0 : Hid (q = 0) := hq0
            clear hq0
            refine wp_region_of (by kernel_rfl) (by kernel_rfl) ?_
            repeat (go_big_quiet_step ((first | (go_at_call 48; exact calls_of (H52 _)) | rfl)))
            refine wpQuiet_nil ?_
            intro w5 hw5
            obtain ⟨⟨wx, cx⟩, hwx⟩ := hw5
            have b5 : Below wr.heap.size wr w5 := by rw [hwx]; exact cx
            clear hwx cx wx
            go_wp2_with fail
            go_meet
            exact ⟨false, rfl, (fun h => by cases h), (fun _ => ⟨by first | rfl | trivial, fun q' h => by have := HQ0.out; omega⟩), b5⟩
          · obtain ⟨q', hqq⟩ : ∃ q', q = q' + 1 := ⟨q - 1, by omega⟩
            have HQQ : Hid (q = q' + 1) := hqq
            obtain ⟨hl2, cp⟩ := HPREV.out q' hqq
            have cP := BelowOf.cell cp lg
            obtain ⟨pn, hpn⟩ : ∃ x, bs[q'].nm = x := ⟨_, rfl⟩
            have HPN : Hid (bs[q'].nm = pn) := hpn
            rw [hpn] at cP
            have hw1 : IntKind.i64.wrap ((q : Int) - 1) = q' := by rw [IntKind.wrap_i64]; omega
            have hw2 : (q : Int) - 1 = q' := by omega
            have hw3 : IntKind.i64.wrap (q' : Int) = q' := by rw [IntKind.wrap_i64]; omega
            have j0 : (0 : Int) ≤ (q' : Int) := by omega
            have j1 : (q' : Int) < (bks.length : Int) := by omega
            have j2 : decide (0 < q) = true := decide_eq_true (by omega)
            have HGT : Hid (ltB pn nm = !(ltB nm pn || (nm.toList == pn.toList))) := ltB_gt pn nm
            obtain ⟨ly, hly⟩ : ∃ y, Op.bytesLess nm.toList pn.toList = y := ⟨_, rfl⟩
            obtain ⟨ey, hey⟩ : ∃ y, (nm.toList == pn.toList) = y := ⟨_, rfl⟩
            have HLY : Hid (ltB nm pn = ly ∧ (nm.toList == pn.toList) = ey) := ⟨hly, hey⟩
            clear hpn cp hqq hqp
            refine wp_region_of (by kernel_rfl) (by kernel_rfl) ?_
            repeat (go_big_quiet_step ((first | (go_at_call 48; exact calls_of (H52 _)) | rfl)))
            refine wpQuiet_nil ?_
            intro w5 hw5
            obtain ⟨⟨wx, cx⟩, hwx⟩ := hw5
            have b5 : Below wr.heap.size wr w5 := by rw [hwx]; exact cx
            clear hwx cx wx
            go_wp2_with fail
            go_meet
            refine ⟨(ly || ey), rfl, fun h => ?_, fun h => ⟨by first | rfl | trivial, fun q'' e hh => ?_⟩, b5⟩
            · have hf : ltB pn nm = false := by rw [HGT.out, HLY.out.1, HLY.out.2, h]; rfl
              have hq1 := HQQ.out
              subst hq1
              exact plains_no_order q' hltb (by rw [HPN.out, HBN.out]; exact hf)
            · obtain rfl : q'' = q' := by have := HQQ.out; omega
              rw [HPN.out, HGT.out, HLY.out.1, HLY.out.2, h]; rfl
      case rest =>
        obtain ⟨y, rfl, hy1, hy2, b5⟩ := hcut
        have hbc := bw_call hb b5
        clear c0 c1 c2 c3 c4 H52 hne HPREV
        cases y
        · obtain ⟨hokv, hord⟩ := hy2 rfl
          have HO : Hid (∀ j (hj : j < bs.length), j < q + 1 → bs[j].ok = true) := fun j hj hjq => by
            rcases Nat.lt_or_ge j q with y | y
            · exact HOKS.out j hj y
            · obtain rfl : j = q := by omega
              exact HBO.out.trans hokv
          have HS : Hid (∀ j (hj : j + 1 < bs.length), j + 1 < q + 1 → ltB (bs[j]'(by omega)).nm bs[j + 1].nm = true) := fun j hj hjq => by
            rcases Nat.lt_or_ge (j + 1) q with y | y
            · exact HSRT.out j hj y
            · obtain rfl : q = j + 1 := by omega
              rw [HBN.out]
              exact hord j rfl (by omega)
          clear hy1 hy2 hord hokv HOKS HSRT HOK HBO
          go_wp2_with fail
          go_roundw
          case rel => exact ⟨q + 1, by omega, by go_num, HO.out, HS.out, hbc⟩
          case measure => simp [intOf]; omega
        · have HV : Hid _ := hy1 rfl
          clear hy1 hy2
          go_wp2_with fail
          go_ret
          exact ⟨ret_bool HV.out.symm, hbc⟩
    · have HV : Hid (plainsOk bs = decide (bks.length ≤ 6)) := by
        rw [Hid, plains_by (fun j hj => HOKS.out j hj (by have := HBL.out; omega)) (fun j hj => HSRT.out j hj (by have := HBL.out; omega)), HBL.out]
      have i1 : ¬ (q : Int) < (bks.length : Int) := by omega
      clear HOKS HSRT HAT CB RM HN
      go_wp2_with fail
      go_ret
      exact ⟨ret_bool (by rw [HV.out]; exact decide_eq_decide.2 (by omega)), hb⟩
end Go.Proofs.YtcefcglonooelaaGreatDoor

namespace Go.Proofs.YtcefcglonooelaaGreatDoor
open Go.RowKit

set_option linter.unusedVariables false

set_option maxRecDepth 100000


theorem sizeOk_any (x : Int) (w : World) :
    Calls Tryz.prog 133 #[.int .i64 x] w fun e w' => e = .returned (.bool (decide (1 ≤ x) && decide (x ≤ 16))) ∧ w' = w := by
  by_cases h : (1 : Int) ≤ x
  · go_enter Tryz.func133, Tryz.ntmps133
    go_wp2
    go_ret
    exact ⟨ret_bool (by simp [h]), rfl⟩
  · go_enter Tryz.func133, Tryz.ntmps133
    go_wp2
    go_ret
    exact ⟨ret_bool (by simp; omega), rfl⟩

theorem epochOk_any (x : Int) (w : World) :
    Calls Tryz.prog 136 #[.int .i64 x] w fun e w' => e = .returned (.bool (decide (0 ≤ x) && decide (x ≤ 1000))) ∧ w' = w := by
  by_cases h : (0 : Int) ≤ x
  · go_enter Tryz.func136, Tryz.ntmps136
    go_wp2
    go_ret
    exact ⟨ret_bool (by simp [h]), rfl⟩
  · go_enter Tryz.func136, Tryz.ntmps136
    go_wp2
    go_ret
    exact ⟨ret_bool (by simp; omega), rfl⟩

set_option maxHeartbeats 800000 in
theorem implEndsBy_any (v : Value) (rs : List (Int × Int × Int)) (sz : Int) (w : World) (hok : mapOk rs = true) (r : ReadsR 3 runC w.heap.size w v rs) :
    Calls Tryz.prog 135 #[v, .int .i64 sz] w fun e w' => e = .returned (.bool (endsBy rs sz)) ∧ Below w.heap.size w w' := by
  obtain ⟨o, cap, rfl, hm, hc, -⟩ := r
  rcases Nat.eq_zero_or_pos rs.length with h0 | hpos
  · have HE : Hid (endsBy rs sz = true) := by rw [Hid, List.length_eq_zero_iff.1 h0]; rfl
    rw [h0]
    clear hok hc h0 hm
    go_enter Tryz.func135, Tryz.ntmps135
    go_wp2_with fail
    go_ret
    exact ⟨ret_bool HE.out.symm, Below.refl _ _⟩
  · obtain ⟨k, hk⟩ : ∃ k, rs.length = k + 1 := ⟨rs.length - 1, by omega⟩
    have hlt : k < rs.length := by omega
    obtain ⟨g, off, rfl, hg, a0, a1, a2⟩ := three_cells hc k hlt
    have HE : Hid _ := endsBy_at rs sz k hk
    have hin := map_in rs hok k hlt
    generalize rs[k] = x at a0 a1 a2 HE hin
    obtain ⟨f, c, p⟩ := x
    simp only at a0 a1 a2 HE hin
    have hw1 : IntKind.i64.wrap ((k : Int) + 1 - 1) = k := by unfold maxLen at hm; rw [IntKind.wrap_i64]; omega
    have hw2 : (k : Int) + 1 - 1 = k := by omega
    have hw4 : IntKind.i64.wrap (k : Int) = k := by unfold maxLen at hm; rw [IntKind.wrap_i64]; omega
    have hw3 : IntKind.i64.wrap (f + c) = f + c := by rw [IntKind.wrap_i64]; omega
    have hi0 : (0 : Int) ≤ (k : Int) := by omega
    have hi1 : (k : Int) < (k : Int) + 1 := by omega
    have hz : ((k : Int) + 1 == 0) = false := by rw [beq_eq_false_iff_ne]; omega
    rw [hk]
    clear hok hc hpos hin hk
    go_enter Tryz.func135, Tryz.ntmps135
    go_wp2_with fail
    go_ret
    exact ⟨ret_bool (by rw [HE.out]), by go_grown⟩

set_option maxHeartbeats 1600000 in
theorem implBookOk_any (nm : ByteArray) (sz : Int) (m : Value) (rs : List (Int × Int × Int)) (fx : Bool) (ep : Int) (w : World) (hn : nm.size ≤ maxLen) (hfit : FitRuns rs) (r : ReadsR 3 runC w.heap.size w m rs) :
    Calls Tryz.prog 86 #[.agg #[.string nm, .int .i64 sz, m, .bool fx, .int .i64 ep]] w fun e w' => e = .returned (.bool (bookOk nm sz rs ep)) ∧ Below w.heap.size w w' := by
  obtain ⟨o, cap, rfl⟩ := r.form
  obtain ⟨W0, hW0, k0, d0, z0⟩ := box1 w #[.string nm, .int .i64 sz, .slice o rs.length cap, .bool fx, .int .i64 ep] 87
  have r0 := (r.below d0).mono d0.size
  have HW0 : Hid (W0 = _) := hW0
  have p0 := at_cell k0 0
  have p1 := at_cell k0 1
  have p2 := at_cell k0 2
  clear hW0 r
  go_enter Tryz.func86, Tryz.ntmps86
  go_wp2_with fail
  rw [← HW0.out]
  clear HW0
  refine (implName_any nm _ hn).mono ?_
  rintro e w' ⟨rfl, rfl⟩
  cases h1 : Nums.nameB nm.data.toList
  · have HV : Hid (bookOk nm sz rs ep = false) := by simp [Hid, bookOk, h1]
    clear h1 k0
    go_wp2_with fail
    go_ret
    exact ⟨ret_bool HV.out.symm, d0⟩
  have H1 : Hid _ := h1
  clear h1
  go_wp2_with fail
  refine (sizeOk_any sz _).mono ?_
  rintro e w' ⟨rfl, rfl⟩
  cases h2 : (decide (1 ≤ sz) && decide (sz ≤ 16))
  · have HV : Hid (bookOk nm sz rs ep = false) := by simp [Hid, bookOk, h2]
    clear h2 k0
    go_wp2_with fail
    go_ret
    exact ⟨ret_bool HV.out.symm, d0⟩
  have H2 : Hid _ := h2
  clear h2
  go_wp2_with fail
  refine (implMapOk_any _ rs _ hfit r0).mono ?_
  rintro e w1 ⟨rfl, b1⟩
  replace k0 := (b1.block _ (by omega)).trans k0
  replace d0 := bw_call d0 b1
  replace r0 := (r0.below b1).mono b1.size
  have z1 := b1.size
  clear p0 p1 p2 b1
  cases h4 : mapOk rs
  · have HV : Hid (bookOk nm sz rs ep = false) := by simp [Hid, bookOk, h4]
    clear h4 k0 r0
    go_wp2_with fail
    go_ret
    exact ⟨ret_bool HV.out.symm, d0⟩
  have p1 := at_cell k0 1
  have p2 := at_cell k0 2
  have H4 : Hid _ := h4
  clear h4
  go_wp2_with fail
  clear p1 p2
  refine (implEndsBy_any _ rs sz _ H4.out r0).mono ?_
  rintro e w2 ⟨rfl, b1⟩
  replace k0 := (b1.block _ (by omega)).trans k0
  replace d0 := bw_call d0 b1
  clear b1 r0
  cases h5 : endsBy rs sz
  · have HV : Hid (bookOk nm sz rs ep = false) := by simp [Hid, bookOk, h5]
    clear h5 k0
    go_wp2_with fail
    go_ret
    exact ⟨ret_bool HV.out.symm, d0⟩
  have HV : Hid (bookOk nm sz rs ep = (decide (0 ≤ ep) && decide (ep ≤ 1000))) := by rw [Hid, bookOk, H1.out, H2.out, H4.out, h5]; simp
  have p4 := at_cell k0 4
  clear h5 H1 H2 H4 k0
  go_wp2_with fail
  refine (epochOk_any ep _).mono ?_
  rintro e w' ⟨rfl, rfl⟩
  go_wp2_with fail
  go_ret
  exact ⟨ret_bool HV.out.symm, d0⟩
end Go.Proofs.YtcefcglonooelaaGreatDoor

