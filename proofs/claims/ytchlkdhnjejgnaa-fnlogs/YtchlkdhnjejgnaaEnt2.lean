/-
  Chapter 11: entries compared; the specification's Begins and SeqOf, at every argument.
-/
import Derived.Test.YtchlkdhnjejgnaaEnt1
import Derived.Test.YtchlkdhnjejgnaaTexts
import Derived.Laws.StructEq
import Derived.BigQuiet
namespace Go.Proofs.Ytchlkdhnjejgnaa
open Go.RowKit
set_option linter.unusedVariables false
set_option maxRecDepth 100000

theorem text_iff (a b : ByteArray) : a.toList = b.toList ↔ a = b := by
  constructor
  · intro h
    apply ext_list
    rwa [ByteArray.toList_eq, ByteArray.toList_eq] at h
  · rintro rfl; rfl
theorem ent_equal (sq cl tg k : Int) (nm ot : ByteArray) (at_ va ep : Int) (sq1 cl1 tg1 k1 : Int) (nm1 ot1 : ByteArray) (at_1 va1 ep1 : Int) (w : World) : (Op.equalIn 10000 56 (.agg #[.int .i64 sq, .int .i64 cl, .int .i64 tg, .int .i64 k, .string nm, .string ot, .int .i64 at_, .int .i64 va, .int .i64 ep]) (.agg #[.int .i64 sq1, .int .i64 cl1, .int .i64 tg1, .int .i64 k1, .string nm1, .string ot1, .int .i64 at_1, .int .i64 va1, .int .i64 ep1])).run Try.prog w = .ok (entEq ⟨sq, cl, tg, ⟨k, nm, ot, at_, va, ep⟩⟩ ⟨sq1, cl1, tg1, ⟨k1, nm1, ot1, at_1, va1, ep1⟩⟩) w := by
  go_simp
  simp only [entEq, oqEq, text_iff]
  repeat' split
  all_goals simp [*]
theorem begs_at {a b : List Ent} {k : Nat} (ha : k < a.length) (hb : k < b.length) (h : a[k] ≠ b[k]) : begs a b = false := by
  rw [Bool.eq_false_iff]
  intro h2
  apply h
  have h3 := (begs_iff a b).1 h2
  have : a[k]? = (b.take a.length)[k]? := by rw [← h3]
  rw [List.getElem?_take, if_pos ha, List.getElem?_eq_getElem ha, List.getElem?_eq_getElem hb] at this
  exact Option.some.inj this
theorem begs_all {a b : List Ent} {k : Nat} (hk : ¬ k < a.length) (h : a.take k = b.take k) (hl : k ≤ a.length) : begs a b = true := by
  obtain rfl : k = a.length := by omega
  rw [List.take_length] at h
  exact (begs_iff a b).2 h

set_option maxHeartbeats 3200000 in
theorem l11Begins_any (v1 v2 : Value) (xs ys : List Ent) (w : World) (h1 : ReadsR 9 entC w.heap.size w v1 xs) (h2 : ReadsR 9 entC w.heap.size w v2 ys) :
    Calls Try.prog 47 #[v1, v2] w fun e w' => e = .returned (.bool (begs xs ys)) ∧ Below w.heap.size w w' := by
  obtain ⟨o1, cap1, rfl, m1, c1, -⟩ := h1
  obtain ⟨o2, cap2, rfl, m2, c2, -⟩ := h2
  by_cases hlen : (ys.length : Int) < (xs.length : Int)
  · have HV : Hid _ := begs_long (a := xs) (b := ys) (by omega)
    unfold maxLen at m1 m2
    clear c1 c2
    go_enter Try.func47, Try.ntmps47
    go_wp2
    go_ret
    exact ⟨ret_bool HV.out.symm, Below.refl _ _⟩
  · have C1 : Hid _ := nine_cells c1
    have C2 : Hid _ := nine_cells c2
    have HG : Hid (Try.prog.eqGuardType Try.prog.depth 56 = false) := Try.eqGuardType56
    unfold maxLen at m1
    clear c1 c2 m2
    go_enter Try.func47, Try.ntmps47
    go_wp2
    go_loopw [5] (fun i wr => ∃ k : Nat, k ≤ xs.length ∧ i = .int .i64 k ∧ xs.take k = ys.take k ∧ Below w.heap.size w wr) (fun i _ => xs.length - (intOf i).toNat)
    case atStart => exact ⟨0, Nat.zero_le _, rfl, rfl, Below.refl _ _⟩
    case round =>
      obtain ⟨k, hk, rfl, htk, hb⟩ := hrel
      have HT : Hid (xs.take k = ys.take k) := htk
      clear htk
      by_cases hlt : k < xs.length
      · have hlt2 : k < ys.length := by omega
        obtain ⟨g1, of1, rfl, q1, a0, a1, a2, a3, a4, a5, a6, a7, a8⟩ := C1.out k hlt
        obtain ⟨g2, of2, rfl, q2, b0, b1, b2, b3, b4, b5, b6, b7, b8⟩ := C2.out k hlt2
        have HE : Hid (xs[k] = ys[k] → xs.take (k + 1) = ys.take (k + 1)) := fun e => take_more xs ys k hlt hlt2 HT.out e
        have HNE : Hid (xs[k] ≠ ys[k] → begs xs ys = false) := fun e => begs_at hlt hlt2 e
        generalize xs[k] = x at a0 a1 a2 a3 a4 a5 a6 a7 a8 HE HNE
        generalize ys[k] = y at b0 b1 b2 b3 b4 b5 b6 b7 b8 HE HNE
        obtain ⟨sq, cl, tg, ⟨kk, nm, ot, at_, va, ep⟩⟩ := x
        obtain ⟨sq1, cl1, tg1, ⟨kk1, nm1, ot1, at_1, va1, ep1⟩⟩ := y
        simp only at a0 a1 a2 a3 a4 a5 a6 a7 a8 b0 b1 b2 b3 b4 b5 b6 b7 b8
        have l1 : g1 < wr.heap.size := Nat.lt_of_lt_of_le q1 hb.size
        have l2 : g2 < wr.heap.size := Nat.lt_of_lt_of_le q2 hb.size
        have d0 := (hb.cell (p := ⟨g1, of1 + k * 9, none⟩) q1).trans a0
        have f0 := (hb.cell (p := ⟨g2, of2 + k * 9, none⟩) q2).trans b0
        have d1 := (hb.cell (p := ⟨g1, of1 + k * 9 + 1, none⟩) q1).trans a1
        have f1 := (hb.cell (p := ⟨g2, of2 + k * 9 + 1, none⟩) q2).trans b1
        have d2 := (hb.cell (p := ⟨g1, of1 + k * 9 + 2, none⟩) q1).trans a2
        have f2 := (hb.cell (p := ⟨g2, of2 + k * 9 + 2, none⟩) q2).trans b2
        have d3 := (hb.cell (p := ⟨g1, of1 + k * 9 + 3, none⟩) q1).trans a3
        have f3 := (hb.cell (p := ⟨g2, of2 + k * 9 + 3, none⟩) q2).trans b3
        have d4 := (hb.cell (p := ⟨g1, of1 + k * 9 + 4, none⟩) q1).trans a4
        have f4 := (hb.cell (p := ⟨g2, of2 + k * 9 + 4, none⟩) q2).trans b4
        have d5 := (hb.cell (p := ⟨g1, of1 + k * 9 + 5, none⟩) q1).trans a5
        have f5 := (hb.cell (p := ⟨g2, of2 + k * 9 + 5, none⟩) q2).trans b5
        have d6 := (hb.cell (p := ⟨g1, of1 + k * 9 + 6, none⟩) q1).trans a6
        have f6 := (hb.cell (p := ⟨g2, of2 + k * 9 + 6, none⟩) q2).trans b6
        have d7 := (hb.cell (p := ⟨g1, of1 + k * 9 + 7, none⟩) q1).trans a7
        have f7 := (hb.cell (p := ⟨g2, of2 + k * 9 + 7, none⟩) q2).trans b7
        have d8 := (hb.cell (p := ⟨g1, of1 + k * 9 + 8, none⟩) q1).trans a8
        have f8 := (hb.cell (p := ⟨g2, of2 + k * 9 + 8, none⟩) q2).trans b8
        obtain ⟨bb, hbb⟩ : ∃ b, entEq ⟨sq, cl, tg, ⟨kk, nm, ot, at_, va, ep⟩⟩ ⟨sq1, cl1, tg1, ⟨kk1, nm1, ot1, at_1, va1, ep1⟩⟩ = b := ⟨_, rfl⟩
        have HEQ : ∀ W : World, (Op.equalIn 10000 56 (.agg #[.int .i64 sq, .int .i64 cl, .int .i64 tg, .int .i64 kk, .string nm, .string ot, .int .i64 at_, .int .i64 va, .int .i64 ep]) (.agg #[.int .i64 sq1, .int .i64 cl1, .int .i64 tg1, .int .i64 kk1, .string nm1, .string ot1, .int .i64 at_1, .int .i64 va1, .int .i64 ep1])).run Try.prog W = .ok bb W := fun W => by rw [← hbb]; exact ent_equal _ _ _ _ _ _ _ _ _ _ _ _ _ _ _ _ _ _ W
        have HBB : Hid (entEq ⟨sq, cl, tg, ⟨kk, nm, ot, at_, va, ep⟩⟩ ⟨sq1, cl1, tg1, ⟨kk1, nm1, ot1, at_1, va1, ep1⟩⟩ = bb) := hbb
        have hg := HG.out
        have i0 : (0 : Int) ≤ (k : Int) := by omega
        have i1 : (k : Int) < (xs.length : Int) := by omega
        have i2 : (k : Int) < (ys.length : Int) := by omega
        clear a0 a1 a2 a3 a4 a5 a6 a7 a8 b0 b1 b2 b3 b4 b5 b6 b7 b8 C1 C2 hbb
        go_wp2_with fail
        go_quiet (fail)
        cases bb
        · have HF : Hid _ := HNE.out (fun e => by have := HBB.out; rw [(entEq_iff _ _).2 e] at this; cases this)
          clear HEQ
          go_wp2_with fail
          go_ret
          exact ⟨ret_bool HF.out.symm, ⟨hb.os, hb.tape, hb.output, hb.size, hb.block⟩⟩
        · have HF : Hid _ := HE.out ((entEq_iff _ _).1 HBB.out)
          clear HEQ
          go_wp2_with fail
          go_roundw
          case rel => exact ⟨k + 1, by omega, by go_num, HF.out, ⟨hb.os, hb.tape, hb.output, hb.size, hb.block⟩⟩
          case measure => simp [intOf]; omega
      · have HF : Hid _ := begs_all hlt HT.out hk
        go_wp2_with fail
        go_ret
        exact ⟨ret_bool HF.out.symm, hb⟩

set_option maxHeartbeats 1600000 in
theorem specBegins_any (v1 v2 : Value) (xs ys : List Ent) (w : World) (hf1 : FitLog xs) (hf2 : FitLog ys) (h1 : ReadsR 9 entC w.heap.size w v1 xs) (h2 : ReadsR 9 entC w.heap.size w v2 ys) :
    Calls Try.prog 21 #[v1, v2] w fun e w' => e = .returned (.bool (begins xs ys)) ∧ Below w.heap.size w w' := by
  have HB : Hid (begins xs ys = (logOk xs && logOk ys && begs xs ys)) := rfl
  obtain ⟨o1, cap1, e1⟩ := h1.form
  obtain ⟨o2, cap2, e2⟩ := h2.form
  subst e1
  subst e2
  go_enter Try.func21, Try.ntmps21
  go_wp2_with fail
  refine (specLogOk_any _ xs _ hf1 h1).mono ?_
  rintro e w1 ⟨rfl, b1⟩
  replace h1 := (h1.below b1).mono b1.size
  replace h2 := (h2.below b1).mono b1.size
  have d0 := b1
  generalize logOk xs = c0 at *
  cases c0
  · go_wp2_with fail
    go_ret
    exact ⟨ret_bool (by rw [HB.out]; rfl), d0⟩
  go_wp2_with fail
  refine (specLogOk_any _ ys _ hf2 h2).mono ?_
  rintro e w2 ⟨rfl, b2⟩
  replace h1 := (h1.below b2).mono b2.size
  replace h2 := (h2.below b2).mono b2.size
  replace d0 := bw_call d0 b2
  generalize logOk ys = c1 at *
  cases c1
  · go_wp2_with fail
    go_ret
    exact ⟨ret_bool (by rw [HB.out]; rfl), d0⟩
  go_wp2_with fail
  refine (l11Begins_any _ _ xs ys _ h1 h2).mono ?_
  rintro e w3 ⟨rfl, b3⟩
  replace d0 := bw_call d0 b3
  generalize begs xs ys = c2 at *
  go_wp2_with fail
  go_ret
  exact ⟨ret_bool (by rw [HB.out]; rfl), d0⟩

set_option maxHeartbeats 1600000 in
theorem l11Seq_any (v : Value) (l : List Ent) (c t : Int) (w : World) (r : ReadsR 9 entC w.heap.size w v l) :
    Calls Try.prog 48 #[v, .int .i64 c, .int .i64 t] w fun e w' => e = .returned (.int .i64 (seqIn l c t)) ∧ w' = w := by
  obtain ⟨o, cap, rfl, hm, hc, -⟩ := r
  have HC : Hid _ := nine_cells hc
  unfold maxLen at hm
  clear hc
  go_enter Try.func48, Try.ntmps48
  go_wp2_with fail
  go_loopw [7] (fun i wr => ∃ k : Nat, k ≤ l.length ∧ i = .int .i64 k ∧ (∀ j (hj : j < l.length), j < k → ¬ (l[j].cl = c ∧ l[j].tg = t)) ∧ wr = w) (fun i _ => l.length - (intOf i).toNat)
  case atStart => exact ⟨0, Nat.zero_le _, rfl, fun j _ h => by omega, rfl⟩
  case round =>
    obtain ⟨k, hk, rfl, hall, rfl⟩ := hrel
    have HA : Hid _ := hall
    clear hall
    by_cases hlt : k < l.length
    · obtain ⟨g, off, rfl, hg, a0, a1, a2, -⟩ := HC.out k hlt
      have HY : Hid (l[k].cl = c → l[k].tg = t → seqIn l c t = l[k].sq) := fun e1 e2 => seqIn_some l c t k hlt e1 e2 (fun j hj => HA.out j (by omega) hj)
      have HN : Hid (¬ (l[k].cl = c ∧ l[k].tg = t) → ∀ j (hj : j < l.length), j < k + 1 → ¬ (l[j].cl = c ∧ l[j].tg = t)) := fun e j hj hjk => by
        rcases Nat.lt_or_ge j k with y | y
        · exact HA.out j hj y
        · obtain rfl : j = k := by omega
          exact e
      generalize l[k].sq = sq at a0 HY
      generalize l[k].cl = cl at a1 HY HN
      generalize l[k].tg = tg at a2 HY HN
      clear HA HC
      by_cases e1 : cl = c
      · by_cases e2 : tg = t
        · have HR : Hid _ := HY.out e1 e2
          subst e1
          subst e2
          clear HY HN
          go_wp2_with fail
          go_ret
          exact ⟨ret_int HR.out.symm, rfl⟩
        · have HR : Hid _ := HN.out (fun h => e2 h.2)
          subst e1
          clear HY HN
          go_wp2_with fail
          go_roundw
          case rel => exact ⟨k + 1, by omega, by go_num, HR.out, by first | rfl | trivial⟩
          case measure => simp [intOf]; omega
      · have HR : Hid _ := HN.out (fun h => e1 h.1)
        clear HY HN
        go_wp2_with fail
        go_roundw
        case rel => exact ⟨k + 1, by omega, by go_num, HR.out, by first | rfl | trivial⟩
        case measure => simp [intOf]; omega
    · have HR : Hid _ := seqIn_none l c t (fun j hj => HA.out j hj (by omega))
      clear HA HC
      go_wp2_with fail
      go_ret
      exact ⟨ret_int HR.out.symm, rfl⟩

theorem specSeqOf_any (v : Value) (l : List Ent) (c t : Int) (w : World) (hf : FitLog l) (r : ReadsR 9 entC w.heap.size w v l) :
    Calls Try.prog 22 #[v, .int .i64 c, .int .i64 t] w fun e w' => e = .returned (.int .i64 (seqOf l c t)) ∧ Below w.heap.size w w' := by
  have HB : Hid (seqOf l c t = if logOk l = true then seqIn l c t else 0) := rfl
  obtain ⟨o1, cap1, e1⟩ := r.form
  subst e1
  go_enter Try.func22, Try.ntmps22
  go_wp2_with fail
  refine (specLogOk_any _ l _ hf r).mono ?_
  rintro e w1 ⟨rfl, b1⟩
  replace r := (r.below b1).mono b1.size
  generalize logOk l = c0 at *
  cases c0
  · go_wp2_with fail
    go_ret
    exact ⟨ret_int (by rw [HB.out]; rfl), b1⟩
  go_wp2_with fail
  refine (l11Seq_any _ l c t _ r).mono ?_
  rintro e w2 ⟨rfl, rfl⟩
  go_wp2_with fail
  go_ret
  exact ⟨ret_int (by rw [HB.out]; rfl), b1⟩

end Go.Proofs.Ytchlkdhnjejgnaa
