/-
  Contracts and plain laws, one chapter behind the other.
-/
import Derived.Lib.LazyBuf
import Derived.Deep.DeepCutAuto
import Derived.Deep.RegionHeld3
import Derived.Test.YtcefcglonooelaaGreatDoorB02
import Derived.Test.YtcefcglonooelaaGreatDoorB04
import Derived.Test.YtcefcglonooelaaGreatDoorB05
import Derived.Test.YtcefcglonooelaaGreatDoorB06
import Derived.Test.YtcefcglonooelaaGreatDoorB07
import Derived.Test.YtcefcglonooelaaGreatDoorB08
import Derived.Test.YtcefcglonooelaaGreatDoorB09
import Derived.Test.YtcefcglonooelaaGreatDoorB10
import Derived.Test.YtcefcglonooelaaGreatDoorB12
import Derived.Test.YtcefcglonooelaaGreatDoorB19
import Derived.Test.YtcefcglonooelaaGreatDoorB20
import Derived.Test.YtcefcglonooelaaGreatDoorB21
namespace Go.Proofs.YtcefcglonooelaaGreatDoor
open Go.RowKit

set_option linter.unusedVariables false

set_option maxRecDepth 100000


theorem at_ahead (f c p : Int) (w : World) : (method 360 129 (.agg #[.int .i64 f, .int .i64 c, .int .i64 p]) "loop.example/g00372/impl.isAheadOf").run Tryz.prog w = .ok (202, .agg #[.int .i64 f, .int .i64 c, .int .i64 p]) w := by kernel_rfl

theorem at_on (f c p : Int) (w : World) : (method 360 129 (.agg #[.int .i64 f, .int .i64 c, .int .i64 p]) "loop.example/g00372/impl.goesOnIn").run Tryz.prog w = .ok (201, .agg #[.int .i64 f, .int .i64 c, .int .i64 p]) w := by kernel_rfl

set_option maxHeartbeats 3200000 in
theorem listRight_any (v : Value) (rs : List (Int × Int × Int)) (w : World) (hfit : FitRuns rs) (r : ReadsR 3 runC w.heap.size w v rs) :
    Calls Tryz.prog 159 #[v] w fun e w' => e = .returned (.bool (okFrom 0 none rs)) ∧ Below w.heap.size w w' := by
  obtain ⟨o, cap, rfl, hm, hc, -⟩ := r
  have HC : Hid _ := three_cells hc
  have HF : Hid _ := hfit
  unfold maxLen at hm
  clear hc hfit
  go_enter Tryz.func159, Tryz.ntmps159
  go_wp2_with fail
  go_loopw [7] (fun i wr => ∃ (k : Nat) (e : Int), k ≤ rs.length ∧ i = .int .i64 k ∧ (k = 0 → e = 0) ∧ okFrom 0 none rs = okFrom e (prevOf rs k) (rs.drop k) ∧ (∀ q, prevOf rs k = some q → runRight q = true ∧ e = q.1 + q.2.1) ∧ Below w.heap.size w wr) (fun i _ => rs.length - (intOf i).toNat)
  case atStart => exact ⟨0, 0, Nat.zero_le _, rfl, fun _ => rfl, rfl, fun q hq => by simp [prevOf] at hq, Below.refl _ _⟩
  case round =>
    obtain ⟨k, e, hk, rfl, hk0, hok, hpv, hb⟩ := hrel
    by_cases hlt : k < rs.length
    · obtain ⟨g, off, rfl, hg, a0, a1, a2⟩ := HC.out k hlt
      have hst := okFrom_step rs e k hlt
      rw [← hok] at hst
      have hfk := HF.out rs[k] (List.getElem_mem hlt)
      replace a0 := (hb.cell (p := ⟨g, off + k * 3, none⟩) hg).trans a0
      replace a1 := (hb.cell (p := ⟨g, off + k * 3 + 1, none⟩) hg).trans a1
      replace a2 := (hb.cell (p := ⟨g, off + k * 3 + 2, none⟩) hg).trans a2
      obtain ⟨x, hx⟩ : ∃ x, rs[k] = x := ⟨_, rfl⟩
      rw [hx] at a0 a1 a2 hfk
      obtain ⟨f, c, p⟩ := x
      simp only at a0 a1 a2 hfk
      have HNO : Hid (runOk e (prevOf rs k) (f, c, p) = false → okFrom 0 none rs = false) := fun h => by rw [hst, hx, h]; rfl
      have HYES : Hid (runOk e (prevOf rs k) (f, c, p) = true → okFrom 0 none rs = okFrom (f + c) (prevOf rs (k + 1)) (rs.drop (k + 1))) := fun h => by rw [hst, hx, h, Bool.true_and]
      have HPV1 : Hid (prevOf rs (k + 1) = some (f, c, p)) := by rw [Hid, prevOf, if_neg (by omega), Nat.add_sub_cancel, List.getElem?_eq_getElem hlt, hx]
      have hprev : ∀ k', k = k' + 1 → ∃ q, prevOf rs k = some q ∧ w.cell? ⟨g, off + k' * 3, none⟩ = some (.int .i64 q.1) ∧ w.cell? ⟨g, off + k' * 3 + 1, none⟩ = some (.int .i64 q.2.1) ∧ w.cell? ⟨g, off + k' * 3 + 2, none⟩ = some (.int .i64 q.2.2) := fun k' hk' => by
        obtain ⟨g', off', e', -, b0, b1, b2⟩ := HC.out k' (by omega)
        cases e'
        refine ⟨rs[k'], ?_, b0, b1, b2⟩
        rw [prevOf, if_neg (by omega), show k - 1 = k' by omega, List.getElem?_eq_getElem (by omega)]
      have HPREV : Hid _ := hprev
      have HPVB : Hid _ := hpv
      have HK0 : Hid _ := hk0
      have hbA : Below w.heap.size w (wr.alloc (.cells #[.int .i64 f, .int .i64 c, .int .i64 p] 129)) := bw_alloc hb
      have kB := heap_alloc_new wr (.cells #[.int .i64 f, .int .i64 c, .int .i64 p] 129)
      have sB : wr.heap.size < (wr.alloc (.cells #[.int .i64 f, .int .i64 c, .int .i64 p] 129)).heap.size := by simp
      clear hst hok hprev hpv HC hx hk0
      go_wp2_with fail
      refine (implRun_right f c p _ hfk.1.2 hfk.2.2.2).mono ?_
      generalize wr.alloc (.cells #[.int .i64 f, .int .i64 c, .int .i64 p] 129) = W5 at *
      generalize wr.heap.size = nB at *
      rintro e' w6 ⟨rfl, b6⟩
      replace kB := (b6.block nB sB).trans kB
      replace sB := Nat.lt_of_lt_of_le sB b6.size
      replace hbA := bw_call hbA b6
      clear b6
      cases hr : runRight (f, c, p)
      · have HH := hr
        have HV : Hid _ := HNO.out (runOk_false e _ f c p (fun q => by
          rw [← Bool.not_eq_true, runRight_iff] at HH
          by_cases k0 : k = 0
          · have := HK0.out k0; omega
          · obtain ⟨k', rfl⟩ : ∃ k', k = k' + 1 := ⟨k - 1, by omega⟩
            obtain ⟨q', hq', -⟩ := HPREV.out k' rfl
            obtain ⟨h1, h2⟩ := HPVB.out q' hq'
            obtain ⟨qf, qc, qp⟩ := q'
            rw [runRight_iff] at h1
            simp only at h2
            omega))
        clear HH hr
        go_wp2_with fail
        go_ret
        exact ⟨ret_bool HV.out.symm, hbA⟩
      rw [runRight_iff] at hr
      have HRR : Hid (∀ q, prevOf rs (k + 1) = some q → runRight q = true ∧ f + c = q.1 + q.2.1) := fun q hq => by
        rw [HPV1.out] at hq; cases hq; exact ⟨(runRight_iff f c p).2 hr, rfl⟩
      rcases Nat.eq_zero_or_pos k with hk0 | hkp
      · subst hk0
        have HV : Hid _ := HYES.out ((runOk_iff e _ f c p).2 ⟨by have := HK0.out rfl; omega, by omega, by omega, by omega, by omega, by omega, fun q hq => by simp [prevOf] at hq⟩)
        clear HYES HNO HPVB HPREV HK0
        go_wp2_with fail
        go_quiet (fail)
        go_wp2_with fail
        go_roundw
        case rel => exact ⟨0 + 1, f + c, by omega, by go_num, fun h => by omega, HV.out, HRR.out, ⟨hbA.os, hbA.tape, hbA.output, hbA.size, hbA.block⟩⟩
        case measure => simp [intOf]; omega
      · obtain ⟨k', rfl⟩ : ∃ k', k = k' + 1 := ⟨k - 1, by omega⟩
        obtain ⟨⟨qf, qc, qp⟩, hpq, b0, b1, b2⟩ := HPREV.out k' rfl
        obtain ⟨hq1, hq2⟩ := HPVB.out _ hpq
        rw [runRight_iff] at hq1
        simp only at hq2 b0 b1 b2
        have hgs : g < w6.heap.size := Nat.lt_of_lt_of_le hg hbA.size
        have hne := BelowOf.any w6
        have ma := at_ahead
        have mo := at_on
        have d0 := BelowOf.cell ((hbA.cell (p := ⟨g, off + k' * 3, none⟩) hg).trans b0) hgs
        have d1 := BelowOf.cell ((hbA.cell (p := ⟨g, off + k' * 3 + 1, none⟩) hg).trans b1) hgs
        have d2 := BelowOf.cell ((hbA.cell (p := ⟨g, off + k' * 3 + 2, none⟩) hg).trans b2) hgs
        have f0 := BelowOf.cell (at_cell kB 0) sB
        have f1 := BelowOf.cell (at_cell kB 1) sB
        have f2 := BelowOf.cell (at_cell kB 2) sB
        have hw1 : IntKind.i64.wrap ((k' : Int) + 1 - 1) = k' := by rw [IntKind.wrap_i64]; omega
        have hw2 : (k' : Int) + 1 - 1 = k' := by omega
        have hw3 : IntKind.i64.wrap (k' : Int) = k' := by rw [IntKind.wrap_i64]; omega
        have hi0 : (0 : Int) ≤ (k' : Int) := by omega
        have hi1 : (k' : Int) < (rs.length : Int) := by omega
        have hq0 : (0 : Int) < (k' : Int) + 1 := by omega
        by_cases h1 : qf + qc ≤ f
        · have HA : ∀ q : BelowOf w6, Calls Tryz.prog 202 #[.agg #[.int .i64 qf, .int .i64 qc, .int .i64 qp], .agg #[.int .i64 f, .int .i64 c, .int .i64 p]] q.w' fun e w' => e = .returned (.bool true) ∧ Below q.w'.heap.size q.w' w' := fun q => by have h := implRun_ahead qf qc qp f c p q.w' (by omega); rwa [decide_eq_true h1] at h
          by_cases h2 : qf + qc = f ∧ qp + qc = p
          · have HO : ∀ q : BelowOf w6, Calls Tryz.prog 201 #[.agg #[.int .i64 qf, .int .i64 qc, .int .i64 qp], .agg #[.int .i64 f, .int .i64 c, .int .i64 p]] q.w' fun e w' => e = .returned (.bool true) ∧ Below q.w'.heap.size q.w' w' := fun q => by have h := implRun_on qf qc qp f c p q.w' (by omega); rwa [decide_eq_true h2.1, decide_eq_true h2.2] at h
            have HV : Hid _ := HNO.out (runOk_false e _ f c p (fun h => h.2.2.2.2.2.2 _ hpq ⟨by omega, by simp only; omega⟩))
            clear HYES HNO HPVB HPREV HK0 hpq
            go_wp2_with fail
            refine wp_region_of (by kernel_rfl) (by kernel_rfl) ?_
            repeat (go_big_quiet_step ((first | (go_at_call 202; exact calls_of (HA _)) | (go_at_call 201; exact calls_of (HO _)) | rfl)))
            refine wpQuiet_nil ?_
            intro w7 hw7
            obtain ⟨⟨wx, cx⟩, hwx⟩ := hw7
            have b7 : Below w6.heap.size w6 w7 := by rw [hwx]; exact cx
            have hb7 := bw_call hbA b7
            clear hwx cx wx hne d0 d1 d2 f0 f1 f2 HA HO
            go_wp2_with fail
            go_ret
            exact ⟨ret_bool HV.out.symm, hb7⟩
          · have HO : ∀ q : BelowOf w6, Calls Tryz.prog 201 #[.agg #[.int .i64 qf, .int .i64 qc, .int .i64 qp], .agg #[.int .i64 f, .int .i64 c, .int .i64 p]] q.w' fun e w' => e = .returned (.bool false) ∧ Below q.w'.heap.size q.w' w' := fun q => by
              have h := implRun_on qf qc qp f c p q.w' (by omega)
              rwa [show (decide (qf + qc = f) && decide (qp + qc = p)) = false by simpa using h2] at h
            have HV : Hid _ := HYES.out ((runOk_iff e _ f c p).2 ⟨by omega, by omega, by omega, by omega, by omega, by omega, fun q hq h => by rw [hpq] at hq; cases hq; simp only at h; omega⟩)
            clear HYES HNO HPVB HPREV HK0 hpq
            go_wp2_with fail
            refine wp_region_of (by kernel_rfl) (by kernel_rfl) ?_
            repeat (go_big_quiet_step ((first | (go_at_call 202; exact calls_of (HA _)) | (go_at_call 201; exact calls_of (HO _)) | rfl)))
            refine wpQuiet_nil ?_
            intro w7 hw7
            obtain ⟨⟨wx, cx⟩, hwx⟩ := hw7
            have b7 : Below w6.heap.size w6 w7 := by rw [hwx]; exact cx
            have hb7 := bw_call hbA b7
            clear hwx cx wx hne d0 d1 d2 f0 f1 f2 HA HO
            go_wp2_with fail
            go_roundw
            case rel => exact ⟨k' + 1 + 1, f + c, by omega, by go_num, fun h => by omega, HV.out, HRR.out, hb7⟩
            case measure => simp [intOf]; omega
        · have HA : ∀ q : BelowOf w6, Calls Tryz.prog 202 #[.agg #[.int .i64 qf, .int .i64 qc, .int .i64 qp], .agg #[.int .i64 f, .int .i64 c, .int .i64 p]] q.w' fun e w' => e = .returned (.bool false) ∧ Below q.w'.heap.size q.w' w' := fun q => by have h := implRun_ahead qf qc qp f c p q.w' (by omega); rwa [decide_eq_false h1] at h
          have HV : Hid _ := HNO.out (runOk_false e _ f c p (fun h => by omega))
          clear HYES HNO HPVB HPREV HK0 hpq
          go_wp2_with fail
          refine wp_region_of (by kernel_rfl) (by kernel_rfl) ?_
          repeat (go_big_quiet_step ((first | (go_at_call 202; exact calls_of (HA _)) | rfl)))
          refine wpQuiet_nil ?_
          intro w7 hw7
          obtain ⟨⟨wx, cx⟩, hwx⟩ := hw7
          have b7 : Below w6.heap.size w6 w7 := by rw [hwx]; exact cx
          have hb7 := bw_call hbA b7
          clear hwx cx wx hne d0 d1 d2 f0 f1 f2 HA
          go_wp2_with fail
          go_ret
          exact ⟨ret_bool HV.out.symm, hb7⟩
    · have hl : rs.drop k = [] := List.drop_of_length_le (by omega)
      have hv : okFrom 0 none rs = true := by rw [hok, hl]; rfl
      have HV : Hid _ := hv
      clear hl hv hok
      go_wp2_with fail
      go_ret
      exact ⟨ret_bool HV.out.symm, hb⟩

theorem implMapOk_any (v : Value) (rs : List (Int × Int × Int)) (w : World) (hfit : FitRuns rs) (r : ReadsR 3 runC w.heap.size w v rs) :
    Calls Tryz.prog 134 #[v] w fun e w' => e = .returned (.bool (mapOk rs)) ∧ Below w.heap.size w w' := by
  have r0 := r
  obtain ⟨o, cap, rfl, hm, hc, -⟩ := r
  unfold maxLen at hm
  clear hc
  by_cases hl : rs.length ≤ 16
  · have HV : Hid (okFrom 0 none rs = mapOk rs) := by rw [Hid, mapOk, decide_eq_true hl, Bool.and_true]
    have hl2 : (rs.length : Int) ≤ 16 := by omega
    go_enter Tryz.func134, Tryz.ntmps134
    go_wp2_with fail
    refine (listRight_any _ rs _ hfit r0).mono ?_
    rintro e w1 ⟨rfl, b1⟩
    go_wp2_with fail
    go_ret
    exact ⟨ret_bool HV.out, b1⟩
  · have HV : Hid (mapOk rs = false) := by rw [Hid, mapOk, decide_eq_false hl, Bool.and_false]
    have hl2 : ¬ (rs.length : Int) ≤ 16 := by omega
    go_enter Tryz.func134, Tryz.ntmps134
    go_wp2_with fail
    go_ret
    exact ⟨ret_bool HV.out.symm, Below.refl _ _⟩
end Go.Proofs.YtcefcglonooelaaGreatDoor

namespace Go.Proofs.YtcefcglonooelaaGreatDoor
open Go.RowKit

set_option linter.unusedVariables false

set_option maxRecDepth 100000

/-- A box of a shelf is written: a shelf of one's own stays. -/
theorem OwnS.answer {base c : Nat} {W W' : World} {v1 v2 vb : Value} {cs ps : List Int} {bks : List Bk} {xs : Array Value} (h : OwnS base W v1 v2 vb cs ps bks) (k : W.heap[c]? = some (.cells xs 42 (0, 0))) (u : Upto c W W') : OwnS base W' v1 v2 vb cs ps bks := by
  have st : ∀ (e : TypeId) (kk n : Nat) (v : Value) (xs : List Value), 42 ≠ e → W.ownsRow base e kk v n xs → W'.ownsRow base e kk v n xs := fun e kk n v xs he hr => own_rng_not hr (fun q hq hqv => u.block q hq (fun hx => own_not_box hr k he (by rw [← hx]; exact hqv)))
  exact ⟨⟨st _ _ _ _ _ (by decide) h.p.c, st _ _ _ _ _ (by decide) h.p.p, h.p.apart⟩, ⟨st _ _ _ _ _ (by decide) h.b.row, fun b hb => st _ _ _ _ _ (by decide) (h.b.maps b hb)⟩, h.a⟩
end Go.Proofs.YtcefcglonooelaaGreatDoor

namespace Go.Proofs.YtcefcglonooelaaGreatDoor
open Go.RowKit

set_option linter.unusedVariables false

set_option maxRecDepth 100000


/-- A row of books that is not empty: where it lies. -/
theorem OwnB.at {base : Nat} {w : World} {vb : Value} {bks : List Bk} (h : OwnB base w vb bks) (i : Nat) (hi : i < bks.length) : ∃ g cap, vb = .slice (some ⟨g, 0, none⟩) bks.length cap := by
  obtain ⟨n, hn1⟩ : ∃ n, bks.length = n + 1 := ⟨bks.length - 1, by omega⟩
  have hr := h.row
  rw [hn1] at hr ⊢
  exact owns_form hr
end Go.Proofs.YtcefcglonooelaaGreatDoor

namespace Go.Proofs.YtcefcglonooelaaGreatDoor
open Go.RowKit

set_option linter.unusedVariables false


theorem ShSt.upto {base b c : Nat} {w w' : World} {v1 v2 vb : Value} {bks : List Bk} {s : Sf} (h : ShSt base b w v1 v2 vb bks s) (u : Upto c w w') (hc : c < base) : ShSt base b w' v1 v2 vb bks s :=
  ⟨(u.block b (heap_lt h.box) (fun e => by have := h.lo; omega)).trans h.box, h.lo, h.pool.upto u hc, ⟨ownsRow_upto h.books.row u hc, fun x hx => ownsRow_upto (h.books.maps x hx) u hc⟩, h.eq⟩

/-- While a shelf is drawn: its box at b, the answer's at the start's end. -/
structure L8 (c : Nat) (x : Option Addr) (len cap base b : Nat) (w W : World) (v1 v2 vb : Value) (bks : List Bk) (s : Sf) : Prop where
  st : ShSt base b W v1 v2 vb bks s
  inv : ShInv s
  kR : W.heap[w.heap.size]? = some (.cells #[.slice none 0 0, .slice none 0 0, .slice none 0 0] 42 (0, 0))
  kc : Cur W c x len cap
  u : Upto c w W
  lt : c < w.heap.size
  nb : w.heap.size < base

theorem L8.step {c base b : Nat} {x : Option Addr} {len cap : Nat} {w W W' : World} {v1 v2 vb : Value} {bks : List Bk} {s : Sf} (h : L8 c x len cap base b w W v1 v2 vb bks s) (u : Upto c W W') (kc : Cur W' c x len cap) : L8 c x len cap base b w W' v1 v2 vb bks s := by
  have hlt := h.lt
  have hnb := h.nb
  exact ⟨h.st.upto u (by omega), h.inv, (u.block _ (heap_lt h.kR) (by omega)).trans h.kR, kc, h.u.trans u, h.lt, h.nb⟩

theorem L8.below {c base b : Nat} {x : Option Addr} {len cap : Nat} {w W W' : World} {v1 v2 vb : Value} {bks : List Bk} {s : Sf} (h : L8 c x len cap base b w W v1 v2 vb bks s) (k : Below W.heap.size W W') : L8 c x len cap base b w W' v1 v2 vb bks s :=
  h.step (Upto.ofBelow k) (h.kc.below k)

/-- Something was done to it. -/
theorem L8.did {c base b : Nat} {x : Option Addr} {len cap : Nat} {w W W' : World} {v1 v2 vb vb' : Value} {bks bks' : List Bk} {s s' : Sf} (h : L8 c x len cap base b w W v1 v2 vb bks s) (st : ShSt base b W' v1 v2 vb' bks' s') (inv : ShInv s') (d : Below base W W') : L8 c x len cap base b w W' v1 v2 vb' bks' s' := by
  have hlt := h.lt
  have hnb := h.nb
  exact ⟨st, inv, (d.block _ hnb).trans h.kR, h.kc.same (d.mono (by omega)), ⟨d.os.trans h.u.os, d.tape.trans h.u.tape, d.output.trans h.u.output, Nat.le_trans h.u.size d.size, fun k hk hn => (d.block k (by omega)).trans (h.u.block k hk hn)⟩, h.lt, h.nb⟩

theorem L8.few {c base b : Nat} {x : Option Addr} {len cap : Nat} {w W : World} {v1 v2 vb : Value} {bks : List Bk} {s : Sf} (h : L8 c x len cap base b w W v1 v2 vb bks s) : bks.length ≤ 6 := by rw [h.st.len]; exact h.inv.few

/-- What of a right book the draws want. -/
theorem L8.names {c base b : Nat} {x : Option Addr} {len cap : Nat} {w W : World} {v1 v2 vb : Value} {bks : List Bk} {s : Sf} (h : L8 c x len cap base b w W v1 v2 vb bks s) : ∀ y ∈ bks, 1 ≤ y.nm.size ∧ y.nm.size ≤ 4 := fun y hy => by
  have hm : y.pb ∈ s.bs := by rw [← h.st.eq]; exact List.mem_map_of_mem hy
  have hk := h.inv.oks _ hm
  simp only [Pb.ok, bookOk, Bool.and_eq_true] at hk
  exact nameB_size _ hk.1.1.1.1

/-- A cell of an op's box is written. -/
theorem L8.box {c base b nO : Nat} {x : Option Addr} {len cap : Nat} {w W : World} {v1 v2 vb : Value} {bks : List Bk} {s : Sf} {cs : Array Value} (h : L8 c x len cap base b w W v1 v2 vb bks s) (hk : W.heap[nO]? = some (.cells cs 26 (0, 0))) (hn : base ≤ nO) (i : Nat) (u : Value) : L8 c x len cap base b w (W.setCell ⟨nO, i, none⟩ u) v1 v2 vb bks s := by
  have hlt := h.lt
  have hnb := h.nb
  have uu : Upto nO W (W.setCell ⟨nO, i, none⟩ u) := (Upto.refl nO W).setCell ⟨nO, i, none⟩ (.inl rfl) u
  refine ⟨⟨(Below.heap_setCell W ⟨nO, i, none⟩ u b (fun e => by have hbx := h.st.box; rw [show b = nO from e, hk] at hbx; simp at hbx)).trans h.st.box, h.st.lo, ⟨own_box h.st.pool.c hk (by decide) i u, own_box h.st.pool.p hk (by decide) i u, h.st.pool.apart⟩, ⟨own_box h.st.books.row hk (by decide) i u, fun x hx => own_box (h.st.books.maps x hx) hk (by decide) i u⟩, h.st.eq⟩, h.inv, ?_, h.kc.same (uu.toBelow h.kc.lt (by omega)), h.u.setCell ⟨nO, i, none⟩ (.inr (by show _ ≤ nO; omega)) u, h.lt, h.nb⟩
  exact (uu.block _ (heap_lt h.kR) (by omega)).trans h.kR

set_option maxRecDepth 100000 in
set_option maxHeartbeats 6400000 in
theorem draw8_any (c : Nat) (x : Option Addr) (len cap : Nat) (w : World) (hc : Cur w c x len cap) :
    Calls Tryz.prog 68 #[.pointer (some ⟨c, 0, none⟩)] w fun e w' => ∃ (v1 v2 vb : Value) (bks : List Bk) (s : Sf), e = .returned (.agg #[v1, v2, vb]) ∧ OwnP (w.heap.size + 1) w' v1 v2 s.cs s.ps ∧ OwnB (w.heap.size + 1) w' vb bks ∧ bks.map Bk.pb = s.bs ∧ ShInv s ∧ Upto c w w' ∧ Cur w' c x len cap := by
  have hlt := hc.lt
  obtain ⟨W0, hW0, kR, d0, z0⟩ := box1 w #[.slice none 0 0, .slice none 0 0, .slice none 0 0] 42
  have kc : Cur W0 c x len cap := hc.below d0
  have u : Upto c w W0 := Upto.ofBelow d0
  have HW0 : Hid (W0 = _) := hW0
  have HZ0 : Hid (W0.heap.size = w.heap.size + 1) := z0
  have sR : w.heap.size < W0.heap.size := by omega
  clear hW0 hc d0 z0
  go_enter Tryz.func68, Tryz.ntmps68
  go_upto_region 1 with fail
  rw [← HW0.out]
  clear HW0
  go_wp2_with fail
  refine (below_any c x len cap 5 _ (by omega) (kc.alloc _)).mono ?_
  rintro e w1 ⟨y, rfl, hy, u1, k1⟩
  have hy5 := hy.2.1 (by omega)
  obtain ⟨jn, rfl⟩ := Int.eq_ofNat_of_zero_le hy.1
  obtain ⟨z, hz, hzs⟩ : ∃ z : Int, w1.cell? ⟨W0.heap.size, jn, none⟩ = some (.int .i64 z) ∧ (1 ≤ z ∧ z ≤ 24) := by
    rw [pick_cell u1 kc.lt jn]
    have h3 : jn = 0 ∨ jn = 1 ∨ jn = 2 ∨ jn = 3 ∨ jn = 4 := by omega
    rcases h3 with rfl | rfl | rfl | rfl | rfl <;> exact ⟨_, rfl, by decide⟩
  have ua : Upto c W0 w1 := ((Upto.refl c W0).alloc _).trans u1
  replace kR := (ua.block _ sR (by omega)).trans kR
  replace sR := Nat.lt_of_lt_of_le sR ua.size
  have HZ1 : Hid (w.heap.size + 1 ≤ w1.heap.size) := by have := HZ0.out; have := ua.size; show _ ≤ _; omega
  replace u := u.trans ua
  clear u1 kc ua HZ0
  go_wp2_with fail
  refine (specNewShelf_any z _).mono ?_
  rintro e w2 ⟨u1, u2, rfl, own, b2⟩
  have HI : Hid _ := new_inv z hzs
  obtain ⟨⟨⟨zc, zp⟩, made⟩, hnp⟩ : ∃ q, newPool z = q := ⟨_, rfl⟩
  rw [hnp] at own HI ⊢
  simp only at own HI ⊢
  clear hnp hz hzs hy hy5
  replace kR := (b2.block _ sR).trans kR
  replace sR := Nat.lt_of_lt_of_le sR b2.size
  replace u := u.below b2
  have k2 := k1.below b2
  replace own := own.mono HZ1.out
  have HZ2 : Hid (w.heap.size + 1 ≤ w2.heap.size) := Nat.le_trans HZ1.out b2.size
  clear b2 k1 HZ1
  obtain ⟨o1, c1, o2, c2, rfl, rfl⟩ := own.forms
  have bP : Below w2.heap.size w2 (w2.alloc (.cells #[.slice o1 zc.length c1, .slice o2 zp.length c2, .slice none 0 0] 42)) := bw_alloc (Below.refl _ _)
  have kB := heap_alloc_new w2 (.cells #[.slice o1 zc.length c1, .slice o2 zp.length c2, .slice none 0 0] 42)
  have h0 : L8 c x len cap (w.heap.size + 1) w2.heap.size w (w2.alloc (.cells #[.slice o1 zc.length c1, .slice o2 zp.length c2, .slice none 0 0] 42)) (.slice o1 zc.length c1) (.slice o2 zp.length c2) (.slice none 0 0) [] ⟨zc, zp, []⟩ :=
    ⟨⟨kB, HZ2.out, own.below bP, ⟨World.ownsRow_nil _ _ _ _, fun b hb => by cases hb⟩, rfl⟩, HI.out, (bP.block _ sR).trans kR, k2.below bP, u.below bP, hlt, Nat.lt_succ_self _⟩
  clear bP kB kR u k2 own HI HZ2 sR
  go_wp2_with fail
  generalize w2.alloc (.cells #[.slice o1 zc.length c1, .slice o2 zp.length c2, .slice none 0 0] 42) = W3 at *
  generalize w2.heap.size = nB at *
  generalize (⟨zc, zp, []⟩ : Sf) = s0 at *
  generalize zc.length = l1 at *
  generalize zp.length = l2 at *
  refine (l8Do_any (w.heap.size + 1) nB (.slice o1 l1 c1) (.slice o2 l2 c2) _ [] s0 1 ⟨#[98]⟩ ⟨#[]⟩ 0 6 0 _ (by decide) (by decide) h0.inv h0.st).mono ?_
  rintro e w4 ⟨vb, bks, rfl, st, d⟩
  replace h0 := h0.did st (do_inv h0.inv _) d
  generalize (doOp s0 ⟨1, ⟨#[98]⟩, ⟨#[]⟩, 0, 6, 0⟩).1 = s1 at *
  generalize (doOp s0 ⟨1, ⟨#[98]⟩, ⟨#[]⟩, 0, 6, 0⟩).2.1 = r1 at *
  generalize (doOp s0 ⟨1, ⟨#[98]⟩, ⟨#[]⟩, 0, 6, 0⟩).2.2 = r2 at *
  clear st d
  go_wp2_with fail
  refine (below_any c x len cap 24 _ (by omega) h0.kc).mono ?_
  rintro e w5 ⟨m, rfl, hm, u1, k1⟩
  have hm24 := hm.2.1 (by omega)
  obtain ⟨mn, rfl⟩ := Int.eq_ofNat_of_zero_le hm.1
  replace h0 := h0.step u1 k1
  clear u1 k1 hm
  go_wp2_with fail
  go_loopw [5] (fun i' wr => ∃ (k : Nat) (vb : Value) (bks : List Bk) (s : Sf), k ≤ 23 ∧ i' = .int .i64 k ∧ L8 c x len cap (w.heap.size + 1) nB w wr (.slice o1 l1 c1) (.slice o2 l2 c2) vb bks s) (fun i' _ => (intOf i').toNat)
  case atStart => exact ⟨mn, vb, bks, s1, by omega, rfl, h0⟩
  case round =>
    clear h0
    obtain ⟨k, vb, bks, s, hk, rfl, h⟩ := hrel
    by_cases hk0 : 0 < k
    · have hki : (0 : Int) < (k : Int) := by omega
      go_wp2_with fail
      refine (draw7_any c x len cap _ h.kc).mono ?_
      rintro e w6 ⟨o, rfl, fit, u1, k1⟩
      obtain ⟨ok, nm, ot, at_, va, ep⟩ := o
      replace h := h.step u1 k1
      clear u1 k1
      simp only
      have bP : Below w6.heap.size w6 (w6.alloc (.cells #[.int .i64 ok, .string nm, .string ot, .int .i64 at_, .int .i64 va, .int .i64 ep] 26)) := bw_alloc (Below.refl _ _)
      have kO := heap_alloc_new w6 (.cells #[.int .i64 ok, .string nm, .string ot, .int .i64 at_, .int .i64 va, .int .i64 ep] 26)
      replace h := h.below bP
      have hnO : w.heap.size + 1 ≤ w6.heap.size := by have h1 := h.st.lo; have h2 := heap_lt h.st.box; simp at h2; omega
      have HFIT : Hid (OpFit ⟨ok, nm, ot, at_, va, ep⟩) := fit
      clear bP fit
      go_upto_region 7 with fail
      generalize w6.alloc (.cells #[.int .i64 ok, .string nm, .string ot, .int .i64 at_, .int .i64 va, .int .i64 ep] 26) = W7 at *
      generalize w6.heap.size = nO at *
      obtain ⟨ob, kb, rfl⟩ := own_slice h.st.books.row
      have hfew := h.few
      have HNM : Hid _ := h.names
      have s2 := at_cell h.st.box 2
      go_upto_region 8 with fail
      clear s2
      go_cut [41] from 21 to 52 (fun v wx => ∃ bb : Bool, v = .bool bb ∧ (bb = true → 0 < bks.length) ∧ L8 c x len cap (w.heap.size + 1) nB w wx (.slice o1 l1 c1) (.slice o2 l2 c2) (.slice ob bks.length kb) bks s ∧ wx.heap[nO]? = some (.cells #[.int .i64 ok, .string nm, .string ot, .int .i64 at_, .int .i64 va, .int .i64 ep] 26 (0, 0)))
      case first =>
        have p0 := at_cell kO 0
        rcases Nat.eq_zero_or_pos bks.length with hl0 | hpos
        · have hl0' : ¬ (0 : Int) < (bks.length : Int) := by omega
          clear hl0
          go_wp2_with fail
          go_meet
          exact ⟨false, rfl, fun q => (by cases q), h, kO⟩
        have hpos' : (0 : Int) < (bks.length : Int) := by omega
        by_cases hk1 : ok = 1
        · subst hk1
          go_wp2_with fail
          go_meet
          exact ⟨false, rfl, fun q => (by cases q), h, kO⟩
        have hk1' : (ok != 1) = true := by simpa using hk1
        go_wp2_with fail
        refine (once_any c x len cap 4 _ (by omega) h.kc).mono ?_
        rintro e w8 ⟨y, rfl, u1, k1⟩
        have hc7 := h.lt
        have h8 := h.step u1 k1
        have kO8 := (u1.block _ (heap_lt kO) (by omega)).trans kO
        clear u1 k1 h kO p0
        cases y
        · go_wp2_with fail
          go_meet
          exact ⟨true, rfl, fun _ => hpos, h8, kO8⟩
        · go_wp2_with fail
          go_meet
          exact ⟨false, rfl, fun q => (by cases q), h8, kO8⟩
      case rest =>
        clear h kO
        obtain ⟨bb, rfl, hbb, h, kO⟩ := hcut
        go_upto_if 41 with fail
        go_cut [] from 42 to 52 (fun wx => ∃ nm' : ByteArray, nm'.size ≤ 5 ∧ L8 c x len cap (w.heap.size + 1) nB w wx (.slice o1 l1 c1) (.slice o2 l2 c2) (.slice ob bks.length kb) bks s ∧ wx.heap[nO]? = some (.cells #[.int .i64 ok, .string nm', .string ot, .int .i64 at_, .int .i64 va, .int .i64 ep] 26 (0, 0)))
        case first =>
          cases bb
          · go_wp2_with fail
            go_meet
            exact ⟨nm, HFIT.out.nm, h, kO⟩
          · have hpos := hbb rfl
            have hpos' : (0 : Int) < (bks.length : Int) := by omega
            have hd := h.below (W' := wc.drew) ((Below.refl _ _).drew)
            have kOd : wc.drew.heap[nO]? = some (.cells #[.int .i64 ok, .string nm, .string ot, .int .i64 at_, .int .i64 va, .int .i64 ep] 26 (0, 0)) := kO
            have cc2 := at_cell h.st.box 2
            have c2d := at_cell hd.st.box 2
            have hlt2 := h.lt
            have hnb2 := h.nb
            go_wp2_with fail
            go_region_law ((go_simp; go_at_call 36; refine (below_any c x len cap (bks.length : Int) _ (by omega) hd.kc).mono ?_; rintro e w8 ⟨y, rfl, hy, u8, k8⟩; have h8 := hd.step u8 k8; have kO8 := (u8.block _ (heap_lt kOd) (by omega)).trans kOd; have c8 := at_cell h8.st.box 2; have hyn := hy.2.1 hpos'; have hy0 := hy.1; obtain ⟨q, hq⟩ := Int.eq_ofNat_of_zero_le hy.1; subst hq; have hlq : q < bks.length := (by omega); have q0i : (0 : Int) ≤ (q : Int) := (by omega); obtain ⟨gb, cpb, hvb⟩ := h8.st.books.at q hlq; cases hvb; obtain ⟨⟨a0, -⟩, -⟩ := own_five h8.st.books.row q hlq; have oo1 := at_open kO8 1; have oo2 := at_cell kO8 1; dsimp only))
            all_goals
              have hnq := (HNM.out _ (List.getElem_mem hlq)).2
              have h9 := h8.box kO8 hnO 1 (.string (bks[q]'hlq).nm)
              have kO9 := set_at kO8 1 (.string (bks[q]'hlq).nm)
              go_wp2_with fail
              go_meet
              first
              | exact ⟨(bks[q]'hlq).nm, by omega, h9, kO9⟩
              | exact ⟨(bks[q]'hlq).nm, by omega, h9.below ((Below.refl _ _).drew), kO9⟩
        case rest =>
          clear h kO
          obtain ⟨nm', hnm', h, kO⟩ := hcut
          have p0 := at_cell kO 0
          have p1 := at_cell kO 1
          have p2 := at_cell kO 2
          have p3 := at_cell kO 3
          have p4 := at_cell kO 4
          have p5 := at_cell kO 5
          go_wp2_with fail
          clear p0 p1 p2 p3 p4 p5
          refine (l8Do_any (w.heap.size + 1) nB (.slice o1 l1 c1) (.slice o2 l2 c2) _ bks s ok nm' ot at_ va ep _ (by unfold maxLen; omega) (by have := HFIT.out.ot; simp only at this; unfold maxLen; omega) h.inv h.st).mono ?_
          rintro e w9 ⟨vb', bks', rfl, st', d'⟩
          have h9 := h.did st' (do_inv h.inv _) d'
          generalize (doOp s ⟨ok, nm', ot, at_, va, ep⟩).1 = s9 at *
          generalize (doOp s ⟨ok, nm', ot, at_, va, ep⟩).2.1 = r1 at *
          generalize (doOp s ⟨ok, nm', ot, at_, va, ep⟩).2.2 = r2 at *
          clear st' d' h kO
          go_wp2_with fail
          go_roundw
          case rel => exact ⟨k - 1, vb', bks', s9, by omega, by first | go_num | (congr 1; omega), h9⟩
          case measure => simp [intOf]; omega
    · obtain rfl : k = 0 := by omega
      have hnb := h.nb
      have hw : w.heap.size ≤ wr.heap.size := h.u.size
      obtain ⟨ob, kb, rfl⟩ := own_slice h.st.books.row
      have p0 := at_cell h.st.box 0
      have p1 := at_cell h.st.box 1
      have p2 := at_cell h.st.box 2
      have q0 := at_cell h.kR 0
      have q1 := at_cell h.kR 1
      have q2 := at_cell h.kR 2
      have g0 := at_open h.kR 0
      have g1 := at_open h.kR 1
      have g2 := at_open h.kR 2
      have uu : Upto w.heap.size wr (((wr.setCell ⟨w.heap.size, 0, none⟩ (.slice o1 l1 c1)).setCell ⟨w.heap.size, 1, none⟩ (.slice o2 l2 c2)).setCell ⟨w.heap.size, 2, none⟩ (.slice ob bks.length kb)) := (((Upto.refl _ _).setCell ⟨w.heap.size, 0, none⟩ (.inl rfl) _).setCell ⟨w.heap.size, 1, none⟩ (.inl rfl) _).setCell ⟨w.heap.size, 2, none⟩ (.inl rfl) _
      have hP := h.st.pool.upto uu hnb
      have hB : OwnB (w.heap.size + 1) _ (.slice ob bks.length kb) bks := ⟨ownsRow_upto h.st.books.row uu hnb, fun x hx => ownsRow_upto (h.st.books.maps x hx) uu hnb⟩
      have hU := ((h.u.setCell ⟨w.heap.size, 0, none⟩ (.inr (Nat.le_refl _)) (.slice o1 l1 c1)).setCell ⟨w.heap.size, 1, none⟩ (.inr (Nat.le_refl _)) (.slice o2 l2 c2)).setCell ⟨w.heap.size, 2, none⟩ (.inr (Nat.le_refl _)) (.slice ob bks.length kb)
      have hK := h.kc.same (uu.toBelow h.kc.lt (by omega))
      have hR := set_at (set_at (set_at h.kR 0 (.slice o1 l1 c1)) 1 (.slice o2 l2 c2)) 2 (.slice ob bks.length kb)
      have HS : Hid _ := And.intro hR (And.intro hP (And.intro hB (And.intro h.st.eq (And.intro h.inv (And.intro hU hK)))))
      clear hP hB hU hK hR uu h
      go_wp2_with fail
      exact bodyPost_ret (v := .agg #[.slice o1 l1 c1, .slice o2 l2 c2, .slice ob bks.length kb]) (by simp [results, Tryz.results68, go_sem, at_cell HS.out.1]) rfl ⟨_, _, _, bks, s, rfl, HS.out.2⟩
end Go.Proofs.YtcefcglonooelaaGreatDoor

namespace Go.Proofs.YtcefcglonooelaaGreatDoor
open Go.RowKit

set_option linter.unusedVariables false

set_option maxRecDepth 100000


theorem Reads.upto {B c : Nat} {w w' : World} {v : Value} {xs : List Value} (h : Reads B w v xs) (u : Upto c w w') (hB : B ≤ w.heap.size) (hc : v.ownBlock ≠ some c) : Reads B w' v xs := by
  obtain ⟨o, cap, rfl, hm, hc', hr⟩ := h
  refine ⟨o, cap, rfl, hm, fun j y hj => ?_, hr⟩
  obtain ⟨g, off, rfl, hg, hx⟩ := hc' j y hj
  exact ⟨g, off, rfl, hg, (u.cell (p := ⟨g, off + j, Option.none⟩) (Nat.lt_of_lt_of_le hg hB) (fun e => hc (by simp only at e; rw [e]; rfl))).trans hx⟩

theorem RP.upto {B c : Nat} {w w' : World} {v1 v2 : Value} {cs ps : List Int} (h : RP B w v1 v2 cs ps) (u : Upto c w w') (hB : B ≤ w.heap.size) (h1 : v1.ownBlock ≠ some c) (h2 : v2.ownBlock ≠ some c) : RP B w' v1 v2 cs ps :=
  ⟨h.c.upto u hB h1, h.p.upto u hB h2⟩

theorem Upto.undrew {c : Nat} {w w' : World} (u : Upto c w.drew w') : Upto c w w' := ⟨u.os, u.tape, u.output, u.size, u.block⟩

/-- How memory lies while a pool is drawn: the pool's box at nP, the answer's at the end of what was there, the two rows from base on. -/
structure DrawSt (c nP base g1 g2 n c1 c2 : Nat) (x : Option Addr) (len cap : Nat) (w W : World) (cs ps : List Int) : Prop where
  own : OwnP base W (.slice (some ⟨g1, 0, none⟩) n c1) (.slice (some ⟨g2, 0, none⟩) n c2) cs ps
  kP : W.heap[nP]? = some (.cells #[.slice (some ⟨g1, 0, none⟩) n c1, .slice (some ⟨g2, 0, none⟩) n c2] 39 (0, 0))
  kR : W.heap[w.heap.size]? = some (.cells #[.slice none 0 0, .slice none 0 0] 39 (0, 0))
  kc : Cur W c x len cap
  u : Upto c w W
  lt : c < base ∧ w.heap.size < base ∧ c < nP ∧ w.heap.size < nP ∧ c < w.heap.size

theorem DrawSt.step {c nP base g1 g2 n c1 c2 : Nat} {x : Option Addr} {len cap : Nat} {w W W' : World} {cs ps : List Int} (h : DrawSt c nP base g1 g2 n c1 c2 x len cap w W cs ps) (u : Upto c W W') (kc : Cur W' c x len cap) : DrawSt c nP base g1 g2 n c1 c2 x len cap w W' cs ps := by
  have := h.lt
  exact ⟨h.own.upto u (by omega), (u.block _ (heap_lt h.kP) (by omega)).trans h.kP, (u.block _ (heap_lt h.kR) (by omega)).trans h.kR, kc, h.u.trans u, h.lt⟩

theorem DrawSt.alloc {c nP base g1 g2 n c1 c2 : Nat} {x : Option Addr} {len cap : Nat} {w W : World} {cs ps : List Int} (h : DrawSt c nP base g1 g2 n c1 c2 x len cap w W cs ps) (o : Obj) : DrawSt c nP base g1 g2 n c1 c2 x len cap w (W.alloc o) cs ps :=
  h.step ((Upto.refl c W).alloc o) (h.kc.alloc o)

theorem DrawSt.ne {c nP base g1 g2 n c1 c2 : Nat} {x : Option Addr} {len cap : Nat} {w W : World} {cs ps : List Int} (h : DrawSt c nP base g1 g2 n c1 c2 x len cap w W cs ps) : (g1 ≠ nP ∧ g1 ≠ w.heap.size ∧ base ≤ g1 ∧ g1 < W.heap.size) ∧ (g2 ≠ nP ∧ g2 ≠ w.heap.size ∧ base ≤ g2 ∧ g2 < W.heap.size) := by
  have h1 := own_not_box h.own.c h.kP (by decide)
  have h2 := own_not_box h.own.p h.kP (by decide)
  have h3 := h.own.c.lt g1 rfl
  have h4 := h.own.p.lt g2 rfl
  have := h.lt
  exact ⟨⟨fun e => h1 (by rw [e]; rfl), by omega, h3.1, h3.2⟩, ⟨fun e => h2 (by rw [e]; rfl), by omega, h4.1, h4.2⟩⟩

/-- How memory lies when a pool was drawn, ahead of its return. -/
def DrawnSt (c nP : Nat) (x : Option Addr) (len cap : Nat) (w W : World) : Prop :=
  ∃ (o1 o2 : Option Addr) (l1 l2 k1 k2 : Nat) (cs ps : List Int), W.heap[nP]? = some (.cells #[.slice o1 l1 k1, .slice o2 l2 k2] 39 (0, 0)) ∧ W.heap[w.heap.size]? = some (.cells #[.slice none 0 0, .slice none 0 0] 39 (0, 0)) ∧ RP W.heap.size W (.slice o1 l1 k1) (.slice o2 l2 k2) cs ps ∧
    (∀ b, b ≤ w.heap.size → (Value.slice o1 l1 k1).ownBlock ≠ some b) ∧ (∀ b, b ≤ w.heap.size → (Value.slice o2 l2 k2).ownBlock ≠ some b) ∧ Upto c w W ∧ Cur W c x len cap

theorem DrawSt.drawn {c nP base g1 g2 n c1 c2 : Nat} {x : Option Addr} {len cap : Nat} {w W : World} {cs ps : List Int} (h : DrawSt c nP base g1 g2 n c1 c2 x len cap w W cs ps) : DrawnSt c nP x len cap w W := by
  have := h.lt
  have := h.ne
  exact ⟨_, _, _, _, _, _, _, _, h.kP, h.kR, h.own.reads, fun b hb => by simp [Value.ownBlock]; omega, fun b hb => by simp [Value.ownBlock]; omega, h.u, h.kc⟩
end Go.Proofs.YtcefcglonooelaaGreatDoor

