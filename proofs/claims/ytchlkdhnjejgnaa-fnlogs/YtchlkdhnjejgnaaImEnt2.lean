/-
  Chapter 11: the program's Begins and SeqOf, at every argument.
-/
import Derived.Test.YtchlkdhnjejgnaaImEnt1
namespace Go.Proofs.Ytchlkdhnjejgnaa
open Go.RowKit
set_option linter.unusedVariables false
set_option maxRecDepth 100000

def eqs (xs ys : List Ent) : Bool := begs xs ys && decide (xs.length = ys.length)
theorem eqs_at {a b : List Ent} {k : Nat} (ha : k < a.length) (hb : k < b.length) (h : a[k] ≠ b[k]) : eqs a b = false := by rw [eqs, begs_at ha hb h, Bool.false_and]
theorem eqs_all {a b : List Ent} {k : Nat} (hk : ¬ k < a.length) (hl : a.length = b.length) (h : a.take k = b.take k) (hle : k ≤ a.length) : eqs a b = true := by rw [eqs, begs_all hk h hle, decide_eq_true hl]; rfl
theorem begs_take {a b : List Ent} (hl : a.length ≤ b.length) : eqs a (b.take a.length) = begs a b := by
  have h1 : (b.take a.length).length = a.length := by rw [List.length_take]; omega
  rw [eqs, decide_eq_true h1.symm, Bool.and_true, Bool.eq_iff_iff, begs_iff, begs_iff, List.take_take, Nat.min_self]
theorem reads_cut {α : Type} {k : Nat} {cs : α → List Value} {B : Nat} {w : World} {o : Option Addr} {cap n : Nat} {xs : List α} (h : ReadsR k cs B w (.slice o n cap) xs) (i : Nat) (hi : i ≤ xs.length) : ReadsR k cs B w (.slice o i cap) (xs.take i) := by
  obtain ⟨o', c, hv, hm, hc, hr⟩ := h
  simp only [Value.slice.injEq] at hv
  obtain ⟨rfl, -, rfl⟩ := hv
  have hl : (xs.take i).length = i := by rw [List.length_take]; omega
  refine ⟨o, cap, by rw [hl], by rw [hl]; omega, fun j x hj => ?_, by rw [hl]; omega⟩
  have hj' : xs[j]? = some x := by
    have hlt := (List.getElem?_eq_some_iff.1 hj).1
    rw [hl] at hlt
    rwa [List.getElem?_take_of_lt hlt] at hj
  exact hc j x hj'

set_option maxHeartbeats 3200000 in
theorem equalEnts_any (v1 v2 : Value) (xs ys : List Ent) (w : World) (h1 : ReadsR 9 entC w.heap.size w v1 xs) (h2 : ReadsR 9 entC w.heap.size w v2 ys) :
    Calls Try.prog 45 #[v1, v2] w fun e w' => e = .returned (.bool (eqs xs ys)) ∧ Below w.heap.size w w' := by
  obtain ⟨o1, cap1, rfl, m1, c1, -⟩ := h1
  obtain ⟨o2, cap2, rfl, m2, c2, -⟩ := h2
  by_cases hlen : xs.length = ys.length
  · rw [← hlen]
    have C1 : Hid _ := nine_cells c1
    have HL : Hid (xs.length = ys.length) := hlen
    have hle : ys.length ≤ xs.length := by omega
    have C2 : Hid _ := nine_cells c2
    have HG : Hid (Try.prog.eqGuardType Try.prog.depth 56 = false) := Try.eqGuardType56
    unfold maxLen at m1
    clear c1 c2 m2 hlen
    go_enter Try.func45, Try.ntmps45
    go_wp2
    go_loopw [13] (fun i wr => ∃ k : Nat, k ≤ xs.length ∧ i = .int .i64 k ∧ xs.take k = ys.take k ∧ Below w.heap.size w wr) (fun i _ => xs.length - (intOf i).toNat)
    case atStart => exact ⟨0, Nat.zero_le _, rfl, rfl, Below.refl _ _⟩
    case round =>
      obtain ⟨k, hk, rfl, htk, hb⟩ := hrel
      have HT : Hid (xs.take k = ys.take k) := htk
      clear htk
      by_cases hlt : k < xs.length
      · have hlt2 : k < ys.length := by have := HL.out; omega
        obtain ⟨g1, of1, rfl, q1, a0, a1, a2, a3, a4, a5, a6, a7, a8⟩ := C1.out k hlt
        obtain ⟨g2, of2, rfl, q2, b0, b1, b2, b3, b4, b5, b6, b7, b8⟩ := C2.out k hlt2
        have HE : Hid (xs[k] = ys[k] → xs.take (k + 1) = ys.take (k + 1)) := fun e => take_more xs ys k hlt hlt2 HT.out e
        have HNE : Hid (xs[k] ≠ ys[k] → eqs xs ys = false) := fun e => eqs_at hlt hlt2 e
        generalize xs[k] = x at a0 a1 a2 a3 a4 a5 a6 a7 a8 HE HNE
        generalize ys[k] = y at b0 b1 b2 b3 b4 b5 b6 b7 b8 HE HNE
        obtain ⟨sq, cl, tg, ⟨kk, nm, ot, at_, va, ep⟩⟩ := x
        obtain ⟨sq1, cl1, tg1, ⟨kk1, nm1, ot1, at_1, va1, ep1⟩⟩ := y
        simp only at a0 a1 a2 a3 a4 a5 a6 a7 a8 b0 b1 b2 b3 b4 b5 b6 b7 b8
        have l1 : g1 < wr.heap.size := Nat.lt_of_lt_of_le q1 hb.size
        have l2 : g2 < wr.heap.size := Nat.lt_of_lt_of_le q2 hb.size
        have d0 := (hb.cell (p := ⟨g1, of1 + k * 9, none⟩) q1).trans a0
        have f0 := (hb.cell (p := ⟨g2, of2 + k * 9, none⟩) q2).trans b0
        have d1 := (hb.cell (p := ⟨g1, of1 + k * 9 + 1, none⟩) q1).trans a1
        have f1 := (hb.cell (p := ⟨g2, of2 + k * 9 + 1, none⟩) q2).trans b1
        have d2 := (hb.cell (p := ⟨g1, of1 + k * 9 + 2, none⟩) q1).trans a2
        have f2 := (hb.cell (p := ⟨g2, of2 + k * 9 + 2, none⟩) q2).trans b2
        have d3 := (hb.cell (p := ⟨g1, of1 + k * 9 + 3, none⟩) q1).trans a3
        have f3 := (hb.cell (p := ⟨g2, of2 + k * 9 + 3, none⟩) q2).trans b3
        have d4 := (hb.cell (p := ⟨g1, of1 + k * 9 + 4, none⟩) q1).trans a4
        have f4 := (hb.cell (p := ⟨g2, of2 + k * 9 + 4, none⟩) q2).trans b4
        have d5 := (hb.cell (p := ⟨g1, of1 + k * 9 + 5, none⟩) q1).trans a5
        have f5 := (hb.cell (p := ⟨g2, of2 + k * 9 + 5, none⟩) q2).trans b5
        have d6 := (hb.cell (p := ⟨g1, of1 + k * 9 + 6, none⟩) q1).trans a6
        have f6 := (hb.cell (p := ⟨g2, of2 + k * 9 + 6, none⟩) q2).trans b6
        have d7 := (hb.cell (p := ⟨g1, of1 + k * 9 + 7, none⟩) q1).trans a7
        have f7 := (hb.cell (p := ⟨g2, of2 + k * 9 + 7, none⟩) q2).trans b7
        have d8 := (hb.cell (p := ⟨g1, of1 + k * 9 + 8, none⟩) q1).trans a8
        have f8 := (hb.cell (p := ⟨g2, of2 + k * 9 + 8, none⟩) q2).trans b8
        obtain ⟨bb, hbb⟩ : ∃ b, entEq ⟨sq, cl, tg, ⟨kk, nm, ot, at_, va, ep⟩⟩ ⟨sq1, cl1, tg1, ⟨kk1, nm1, ot1, at_1, va1, ep1⟩⟩ = b := ⟨_, rfl⟩
        have HEQ : ∀ W : World, (Op.equalIn 10000 56 (.agg #[.int .i64 sq, .int .i64 cl, .int .i64 tg, .int .i64 kk, .string nm, .string ot, .int .i64 at_, .int .i64 va, .int .i64 ep]) (.agg #[.int .i64 sq1, .int .i64 cl1, .int .i64 tg1, .int .i64 kk1, .string nm1, .string ot1, .int .i64 at_1, .int .i64 va1, .int .i64 ep1])).run Try.prog W = .ok bb W := fun W => by rw [← hbb]; exact ent_equal _ _ _ _ _ _ _ _ _ _ _ _ _ _ _ _ _ _ W
        have HBB : Hid (entEq ⟨sq, cl, tg, ⟨kk, nm, ot, at_, va, ep⟩⟩ ⟨sq1, cl1, tg1, ⟨kk1, nm1, ot1, at_1, va1, ep1⟩⟩ = bb) := hbb
        have hg := HG.out
        have i0 : (0 : Int) ≤ (k : Int) := by omega
        have i1 : (k : Int) < (xs.length : Int) := by omega
        clear a0 a1 a2 a3 a4 a5 a6 a7 a8 b0 b1 b2 b3 b4 b5 b6 b7 b8 C1 C2 hbb
        go_wp2_with fail
        go_quiet (fail)
        cases bb
        · have HF : Hid _ := HNE.out (fun e => by have := HBB.out; rw [(entEq_iff _ _).2 e] at this; cases this)
          clear HEQ
          go_wp2_with fail
          go_ret
          exact ⟨ret_bool HF.out.symm, ⟨hb.os, hb.tape, hb.output, hb.size, hb.block⟩⟩
        · have HF : Hid _ := HE.out ((entEq_iff _ _).1 HBB.out)
          clear HEQ
          go_wp2_with fail
          go_roundw
          case rel => exact ⟨k + 1, by omega, by go_num, HF.out, ⟨hb.os, hb.tape, hb.output, hb.size, hb.block⟩⟩
          case measure => simp [intOf]; omega
      · have HF : Hid _ := eqs_all hlt HL.out HT.out hk
        go_wp2_with fail
        go_ret
        exact ⟨ret_bool HF.out.symm, hb⟩
  · have hn : ((xs.length : Int) != (ys.length : Int)) = true := by rw [bne_iff_ne]; omega
    have HX : Hid (eqs xs ys = false) := by rw [Hid, eqs, decide_eq_false hlen, Bool.and_false]
    unfold maxLen at m1 m2
    clear hlen c1 c2
    go_enter Try.func45, Try.ntmps45
    go_wp2
    go_ret
    exact ⟨ret_bool HX.out.symm, Below.refl _ _⟩

set_option maxHeartbeats 1600000 in
theorem implBegins_any (v1 v2 : Value) (xs ys : List Ent) (w : World) (hf1 : FitLog xs) (hf2 : FitLog ys) (h1 : ReadsR 9 entC w.heap.size w v1 xs) (h2 : ReadsR 9 entC w.heap.size w v2 ys) :
    Calls Try.prog 17 #[v1, v2] w fun e w' => e = .returned (.bool (begins xs ys)) ∧ Below w.heap.size w w' := by
  have HB : Hid (begins xs ys = (logOk xs && logOk ys && begs xs ys)) := rfl
  have HL1 : Hid (logOk xs = true → xs.length ≤ 120) := fun h => (log_facts h).1
  have HL2 : Hid (logOk ys = true → ys.length ≤ 120) := fun h => (log_facts h).1
  obtain ⟨o1, cap1, e1⟩ := h1.form
  obtain ⟨o2, cap2, e2⟩ := h2.form
  subst e1
  subst e2
  have hcap : ys.length ≤ cap2 := by
    obtain ⟨o', c', hv, -, -, hr⟩ := h2
    simp only [Value.slice.injEq] at hv
    obtain ⟨rfl, -, rfl⟩ := hv
    exact hr
  go_enter Try.func17, Try.ntmps17
  go_wp2_with fail
  refine (implLogOk_any _ xs _ hf1 h1).mono ?_
  rintro e w1 ⟨rfl, b1⟩
  replace h1 := (h1.below b1).mono b1.size
  replace h2 := (h2.below b1).mono b1.size
  have d0 := b1
  generalize logOk xs = c0 at *
  cases c0
  · go_wp2_with fail
    go_ret
    exact ⟨ret_bool (by rw [HB.out]; rfl), d0⟩
  have l1 := HL1.out rfl
  go_wp2_with fail
  refine (implLogOk_any _ ys _ hf2 h2).mono ?_
  rintro e w2 ⟨rfl, b2⟩
  replace h1 := (h1.below b2).mono b2.size
  replace h2 := (h2.below b2).mono b2.size
  replace d0 := bw_call d0 b2
  generalize logOk ys = c1 at *
  cases c1
  · go_wp2_with fail
    go_ret
    exact ⟨ret_bool (by rw [HB.out]; rfl), d0⟩
  have l2 := HL2.out rfl
  by_cases hlen : xs.length ≤ ys.length
  · have HQ : Hid _ := begs_take hlen
    have r2 := reads_cut h2 xs.length hlen
    have j1 : (xs.length : Int) ≤ (ys.length : Int) := by omega
    have j2 : (0 : Int) ≤ (xs.length : Int) := by omega
    have j3 : (xs.length : Int) ≤ (cap2 : Int) := by omega
    have j4 : xs.length ≤ cap2 := by omega
    clear hlen h2
    go_wp2_with fail
    refine (equalEnts_any _ _ xs _ _ h1 r2).mono ?_
    rw [HQ.out]
    rintro e w3 ⟨rfl, b3⟩
    replace d0 := bw_call d0 b3
    generalize begs xs ys = c2 at *
    go_wp2_with fail
    go_ret
    exact ⟨ret_bool (by rw [HB.out]; rfl), d0⟩
  · have HQ : Hid (begs xs ys = false) := begs_long (by omega)
    have j1 : ¬ (xs.length : Int) ≤ (ys.length : Int) := by omega
    clear hlen
    go_wp2_with fail
    go_ret
    exact ⟨ret_bool (by rw [HB.out, HQ.out]; rfl), d0⟩

set_option maxHeartbeats 3200000 in
theorem implSeqOf_any (v : Value) (l : List Ent) (c t : Int) (w : World) (hf : FitLog l) (r : ReadsR 9 entC w.heap.size w v l) :
    Calls Try.prog 19 #[v, .int .i64 c, .int .i64 t] w fun e w' => e = .returned (.int .i64 (seqOf l c t)) ∧ Below w.heap.size w w' := by
  have HB : Hid (seqOf l c t = if logOk l = true then seqIn l c t else 0) := rfl
  have HL : Hid (logOk l = true → l.length ≤ 120) := fun h => (log_facts h).1
  obtain ⟨o1, cap1, e1⟩ := r.form
  subst e1
  go_enter Try.func19, Try.ntmps19
  go_wp2_with fail
  refine (implLogOk_any _ l _ hf r).mono ?_
  rintro e w1 ⟨rfl, b1⟩
  replace r := (r.below b1).mono b1.size
  generalize logOk l = c0 at *
  cases c0
  · go_wp2_with fail
    go_ret
    exact ⟨ret_int (by rw [HB.out]; rfl), b1⟩
  have hl := HL.out rfl
  have HB2 : Hid (seqOf l c t = seqIn l c t) := HB.out
  obtain ⟨o, cap, hv, hm, hc, -⟩ := r
  simp only [Value.slice.injEq] at hv
  obtain ⟨rfl, -, rfl⟩ := hv
  have HC : Hid _ := nine_cells hc
  clear hc hm HB HL
  go_wp2_with fail
  go_loopw [14] (fun i wr => ∃ k : Nat, k ≤ l.length ∧ i = .int .i64 k ∧ (∀ j (hj : j < l.length), j < k → ¬ (l[j].cl = c ∧ l[j].tg = t)) ∧ Below w1.heap.size w1 wr) (fun i _ => l.length - (intOf i).toNat)
  case atStart => exact ⟨0, Nat.zero_le _, rfl, fun j _ h => by omega, Below.refl _ _⟩
  case round =>
    obtain ⟨k, hk, rfl, hall, hb⟩ := hrel
    have HA : Hid _ := hall
    clear hall
    by_cases hlt : k < l.length
    · obtain ⟨g, off, rfl, hg, a0, a1, a2, a3, a4, a5, a6, a7, a8⟩ := HC.out k hlt
      have HY : Hid (l[k].cl = c → l[k].tg = t → seqIn l c t = l[k].sq) := fun e1 e2 => seqIn_some l c t k hlt e1 e2 (fun j hj => HA.out j (by omega) hj)
      have HN : Hid (¬ (l[k].cl = c ∧ l[k].tg = t) → ∀ j (hj : j < l.length), j < k + 1 → ¬ (l[j].cl = c ∧ l[j].tg = t)) := fun e j hj hjk => by
        rcases Nat.lt_or_ge j k with y | y
        · exact HA.out j hj y
        · obtain rfl : j = k := by omega
          exact e
      obtain ⟨x, hx⟩ : ∃ x, l[k] = x := ⟨_, rfl⟩
      rw [hx] at a0 a1 a2 a3 a4 a5 a6 a7 a8 HY HN
      clear hx
      obtain ⟨sq, cl, tg, ⟨k1, nm, ot, at_, va, ep⟩⟩ := x
      simp only at a0 a1 a2 a3 a4 a5 a6 a7 a8 HY HN
      replace a0 := (hb.cell (p := ⟨g, off + k * 9, none⟩) hg).trans a0
      replace a1 := (hb.cell (p := ⟨g, off + k * 9 + 1, none⟩) hg).trans a1
      replace a2 := (hb.cell (p := ⟨g, off + k * 9 + 2, none⟩) hg).trans a2
      replace a3 := (hb.cell (p := ⟨g, off + k * 9 + 3, none⟩) hg).trans a3
      replace a4 := (hb.cell (p := ⟨g, off + k * 9 + 4, none⟩) hg).trans a4
      replace a5 := (hb.cell (p := ⟨g, off + k * 9 + 5, none⟩) hg).trans a5
      replace a6 := (hb.cell (p := ⟨g, off + k * 9 + 6, none⟩) hg).trans a6
      replace a7 := (hb.cell (p := ⟨g, off + k * 9 + 7, none⟩) hg).trans a7
      replace a8 := (hb.cell (p := ⟨g, off + k * 9 + 8, none⟩) hg).trans a8
      obtain ⟨W5, hW5, k5, d5, z5⟩ := box1 wr #[.int .i64 sq, .int .i64 cl, .int .i64 tg, .int .i64 k1, .string nm, .string ot, .int .i64 at_, .int .i64 va, .int .i64 ep] 56
      have HW5 : Hid (W5 = _) := hW5
      have hb5 := bw_call hb d5
      have p0 := at_cell k5 0
      have p1 := at_cell k5 1
      have p2 := at_cell k5 2
      clear HA HC hW5 z5 d5 k5
      by_cases e1 : cl = c
      · by_cases e2 : tg = t
        · have HR : Hid _ := HY.out e1 e2
          subst e1
          subst e2
          clear HY HN
          go_wp2_with fail
          go_ret
          rw [← HW5.out]
          exact ⟨ret_int (HB2.out.trans HR.out).symm, b1.trans (hb5.mono b1.size)⟩
        · have HR : Hid _ := HN.out (fun h => e2 h.2)
          subst e1
          clear HY HN
          go_wp2_with fail
          go_roundw
          case rel => exact ⟨k + 1, by omega, by go_num, HR.out, by rw [← HW5.out]; exact hb5⟩
          case measure => simp [intOf]; omega
      · have HR : Hid _ := HN.out (fun h => e1 h.1)
        clear HY HN
        go_wp2_with fail
        go_roundw
        case rel => exact ⟨k + 1, by omega, by go_num, HR.out, by rw [← HW5.out]; exact hb5⟩
        case measure => simp [intOf]; omega
    · have HR : Hid _ := seqIn_none l c t (fun j hj => HA.out j hj (by omega))
      clear HA HC
      go_wp2_with fail
      go_ret
      exact ⟨ret_int (HB2.out.trans HR.out).symm, b1.trans (hb.mono b1.size)⟩

end Go.Proofs.Ytchlkdhnjejgnaa
