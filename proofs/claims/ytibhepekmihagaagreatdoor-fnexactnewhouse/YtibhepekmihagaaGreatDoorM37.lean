/-
  Contracts and plain laws, one chapter behind the other.
-/
import Derived.Laws.StructEq
import Derived.BigQuiet
import Derived.Deep.Cut
import Derived.Test.YtibhepekmihagaaGreatDoorM02
import Derived.Test.YtibhepekmihagaaGreatDoorM03
import Derived.Test.YtibhepekmihagaaGreatDoorM16
import Derived.Test.YtibhepekmihagaaGreatDoorM19
import Derived.Test.YtibhepekmihagaaGreatDoorM30
import Derived.Test.YtibhepekmihagaaGreatDoorM36
namespace Go.Proofs.YtibhepekmihagaaGreatDoor
open Go.RowKit

set_option linter.unusedVariables false

set_option maxRecDepth 100000


set_option maxHeartbeats 1600000 in
theorem implEntryOk_any (sq cl tg k : Int) (nm ot : ByteArray) (at_ va ep : Int) (w : World) (hf : FitEnt ⟨sq, cl, tg, ⟨k, nm, ot, at_, va, ep⟩⟩) :
    Calls Tryz.prog 150 #[.agg #[.int .i64 sq, .int .i64 cl, .int .i64 tg, .int .i64 k, .string nm, .string ot, .int .i64 at_, .int .i64 va, .int .i64 ep]] w fun e w' => e = .returned (.bool (entOk ⟨sq, cl, tg, ⟨k, nm, ot, at_, va, ep⟩⟩)) ∧ Below w.heap.size w w' := by
  obtain ⟨⟨hn, ho⟩, -, -, -, fk, fa, fv, fe⟩ := hf
  simp only at hn ho fk fa fv fe
  obtain ⟨W0, hW0, k0, d0, z0⟩ := box1 w #[.int .i64 sq, .int .i64 cl, .int .i64 tg, .int .i64 k, .string nm, .string ot, .int .i64 at_, .int .i64 va, .int .i64 ep] 91
  have HW0 : Hid (W0 = _) := hW0
  have p0 := at_cell k0 0
  have p1 := at_cell k0 1
  have p2 := at_cell k0 2
  have p3 := at_cell k0 3
  have p4 := at_cell k0 4
  have p5 := at_cell k0 5
  have p6 := at_cell k0 6
  have p7 := at_cell k0 7
  have p8 := at_cell k0 8
  have HB : Hid (entOk ⟨sq, cl, tg, ⟨k, nm, ot, at_, va, ep⟩⟩ = (inB sq 1 1000 && inB tg 1 1000 && inB cl 0 3 && changes ⟨k, nm, ot, at_, va, ep⟩)) := rfl
  clear hW0 z0 k0
  go_enter Tryz.func150, Tryz.ntmps150
  go_wp2_with fail
  rw [← HW0.out]
  clear HW0
  refine (within_any sq 1 1000 _).mono ?_
  rintro e w' ⟨rfl, rfl⟩
  generalize inB sq 1 1000 = c0 at *
  cases c0
  · go_wp2_with fail
    go_ret
    exact ⟨ret_bool (by rw [HB.out]; rfl), d0⟩
  go_wp2_with fail
  refine (clientOk_any cl _).mono ?_
  rintro e w' ⟨rfl, rfl⟩
  generalize inB cl 0 3 = c1 at *
  cases c1
  · go_wp2_with fail
    go_ret
    exact ⟨ret_bool (by rw [HB.out, Bool.and_false, Bool.false_and]), d0⟩
  go_wp2_with fail
  refine (tagOk_any tg _).mono ?_
  rintro e w' ⟨rfl, rfl⟩
  generalize inB tg 1 1000 = c2 at *
  cases c2
  · go_wp2_with fail
    go_ret
    exact ⟨ret_bool (by rw [HB.out]; rfl), d0⟩
  go_wp2_with fail
  refine (implChanges_any k nm ot at_ va ep _ hn ho fk fa fv fe).mono ?_
  rintro e w1 ⟨rfl, b1⟩
  replace d0 := bw_call d0 b1
  generalize changes ⟨k, nm, ot, at_, va, ep⟩ = c3 at *
  go_wp2_with fail
  go_ret
  exact ⟨ret_bool (by rw [HB.out]; rfl), d0⟩

set_option maxHeartbeats 3200000 in
theorem inOrder_any (v : Value) (l : List Ent) (w : World) (hf : FitLog l) (hl : l.length ≤ 120) (r : ReadsR 9 entC w.heap.size w v l) :
    Calls Tryz.prog 120 #[v] w fun e w' => e = .returned (.int .i64 (inOrd 0 tags0 l : Nat)) ∧ Below w.heap.size w w' := by
  obtain ⟨o, cap, rfl, hm, hc, -⟩ := r
  have HC : Hid _ := nine_cells hc
  have HF : Hid _ := hf
  clear hc hf hm
  have own0 : (w.alloc (.cells #[.int .i64 0, .int .i64 0, .int .i64 0, .int .i64 0] 161)).ownsRow w.heap.size 161 1 (.slice (some ⟨w.heap.size, 0, none⟩) 4 4) 4 (tags0.map (Value.int .i64)) :=
    World.ownsRow_lit (e := 161) (size := 1) (base := w.heap.size) w #[.int .i64 0, .int .i64 0, .int .i64 0, .int .i64 0] 4 (by simp) (by unfold maxLen; omega) rfl
  have bd0 : Below w.heap.size w (w.alloc (.cells #[.int .i64 0, .int .i64 0, .int .i64 0, .int .i64 0] 161)) := bw_alloc (Below.refl _ _)
  go_enter Tryz.func120, Tryz.ntmps120
  go_wp2_with fail
  go_step3
  go_wp2_with fail
  go_step3
  go_wp2_with fail
  generalize w.alloc (.cells #[.int .i64 0, .int .i64 0, .int .i64 0, .int .i64 0] 161) = W0 at own0 bd0 ⊢
  go_loopw [4, 10] (fun cnt i wr => ∃ (k : Nat) (t : List Int), k ≤ l.length ∧ cnt = .int .i64 k ∧ i = .int .i64 k ∧ t.length = 4 ∧ inOrd 0 tags0 l = inOrd k t (l.drop k) ∧ wr.ownsRow w.heap.size 161 1 (.slice (some ⟨w.heap.size, 0, none⟩) 4 4) 4 (t.map (Value.int .i64)) ∧ Below w.heap.size w wr) (fun _ i _ => l.length - (intOf i).toNat)
  case atStart => exact ⟨0, tags0, Nat.zero_le _, rfl, rfl, rfl, rfl, own0, bd0⟩
  case round =>
    clear own0 bd0
    obtain ⟨k, t, hk, rfl, rfl, htl, hin, own, hb⟩ := hrel
    by_cases hlt : k < l.length
    · obtain ⟨g, off, rfl, hg, a0, a1, a2, a3, a4, a5, a6, a7, a8⟩ := HC.out k hlt
      have hfe := HF.out l[k] (List.getElem_mem hlt)
      have HY : Hid (stepOk k t l[k] = true → inOrd 0 tags0 l = inOrd (k + 1) (t.set l[k].cl.toNat l[k].tg) (l.drop (k + 1))) := fun h => hin.trans (inOrd_yes hlt h)
      have HN : Hid (stepOk k t l[k] = false → ((inOrd 0 tags0 l : Nat) : Int) = k) := fun h => by rw [hin.trans (inOrd_no hlt h)]
      generalize l[k] = x at a0 a1 a2 a3 a4 a5 a6 a7 a8 hfe HY HN
      obtain ⟨sq, cl, tg, ⟨k1, nm, ot, at_, va, ep⟩⟩ := x
      simp only at a0 a1 a2 a3 a4 a5 a6 a7 a8
      replace a0 := (hb.cell (p := ⟨g, off + k * 9, none⟩) hg).trans a0
      replace a1 := (hb.cell (p := ⟨g, off + k * 9 + 1, none⟩) hg).trans a1
      replace a2 := (hb.cell (p := ⟨g, off + k * 9 + 2, none⟩) hg).trans a2
      replace a3 := (hb.cell (p := ⟨g, off + k * 9 + 3, none⟩) hg).trans a3
      replace a4 := (hb.cell (p := ⟨g, off + k * 9 + 4, none⟩) hg).trans a4
      replace a5 := (hb.cell (p := ⟨g, off + k * 9 + 5, none⟩) hg).trans a5
      replace a6 := (hb.cell (p := ⟨g, off + k * 9 + 6, none⟩) hg).trans a6
      replace a7 := (hb.cell (p := ⟨g, off + k * 9 + 7, none⟩) hg).trans a7
      replace a8 := (hb.cell (p := ⟨g, off + k * 9 + 8, none⟩) hg).trans a8
      obtain ⟨W5, hW5, k5, d5, z5⟩ := box1 wr #[.int .i64 sq, .int .i64 cl, .int .i64 tg, .int .i64 k1, .string nm, .string ot, .int .i64 at_, .int .i64 va, .int .i64 ep] 91
      have HW5 : Hid (W5 = _) := hW5
      have HO : Hid (W5.ownsRow w.heap.size 161 1 (.slice (some ⟨w.heap.size, 0, none⟩) 4 4) 4 (t.map (Value.int .i64))) := owns_below own d5
      have hb5 := bw_call hb d5
      have HS : Hid (stepOk k t ⟨sq, cl, tg, ⟨k1, nm, ot, at_, va, ep⟩⟩ = (entOk ⟨sq, cl, tg, ⟨k1, nm, ot, at_, va, ep⟩⟩ && decide (sq = (k : Int) + 1) && decide (t.getD cl.toNat 0 < tg))) := rfl
      have s5 := heap_lt k5
      have p0 := at_cell k5 0
      have p1 := at_cell k5 1
      have p2 := at_cell k5 2
      have p3 := at_cell k5 3
      have p4 := at_cell k5 4
      have p5 := at_cell k5 5
      have p6 := at_cell k5 6
      have p7 := at_cell k5 7
      have p8 := at_cell k5 8
      have HIN : Hid _ := hin
      clear hW5 own hb d5 HC HF hin z5
      go_wp2_with fail
      rw [← HW5.out]
      clear HW5 a0 a1 a2 a3 a4 a5 a6 a7 a8 p0 p1 p2 p3 p4 p5 p6 p7 p8
      refine (implEntryOk_any sq cl tg k1 nm ot at_ va ep _ hfe).mono ?_
      rintro e w6 ⟨rfl, b6⟩
      have hb6 := bw_call hb5 b6
      have own6 := owns_below HO.out b6
      have k6 := (b6.block _ s5).trans k5
      have p0 := at_cell k6 0
      have p1 := at_cell k6 1
      have p2 := at_cell k6 2
      have hw1 : IntKind.i64.wrap ((k : Int) + 1) = (k : Int) + 1 := by rw [IntKind.wrap_i64]; omega
      obtain ⟨okv, hok⟩ : ∃ x, entOk ⟨sq, cl, tg, ⟨k1, nm, ot, at_, va, ep⟩⟩ = x := ⟨_, rfl⟩
      have HOK : Hid (entOk ⟨sq, cl, tg, ⟨k1, nm, ot, at_, va, ep⟩⟩ = okv) := hok
      rw [hok]
      have HK6 : Hid _ := k6
      clear hok HO k5 b6 s5 hb5 hfe k6
      cases okv
      · have HX : Hid _ := HN.out (show stepOk k t ⟨sq, cl, tg, ⟨k1, nm, ot, at_, va, ep⟩⟩ = false by rw [HS.out, HOK.out]; rfl)
        go_wp2_with fail
        rw [Exit.noGoto_ret]
        go_ret
        exact ⟨ret_int HX.out.symm, hb6⟩
      have hbd := entOk_bd HOK.out
      simp only at hbd
      obtain ⟨C, rfl⟩ := Int.eq_ofNat_of_zero_le hbd.2.2.1.1
      have hC : C < 4 := by omega
      clear hbd
      by_cases hsq : sq = (k : Int) + 1
      · have hj1 : (sq != (k : Int) + 1) = false := by rw [hsq]; simp
        have HSQ : Hid (sq = (k : Int) + 1) := hsq
        clear hsq
        have t6 := own6.cellAt C (by omega)
        have f6 := own6.frozenAt C
        rw [List.getElem?_map, List.getElem?_eq_getElem (show C < t.length by omega)] at t6
        simp only [Option.map_some] at t6
        have HG : Hid (t.getD C 0 = t[C]) := by simp [Hid, List.getD, show C < t.length by omega]
        generalize t[C] = y at t6 HG
        have i0 : (0 : Int) ≤ (C : Int) := by omega
        have i1 : (C : Int) < 4 := by omega
        by_cases hty : tg ≤ y
        · have HX : Hid _ := HN.out (show stepOk k t ⟨sq, (C : Int), tg, ⟨k1, nm, ot, at_, va, ep⟩⟩ = false by rw [HS.out, show ((C : Int)).toNat = C from rfl, HG.out, decide_eq_false (show ¬ y < tg by omega), Bool.and_false])
          go_wp2_with fail
          go_quiet (fail)
          go_wp2_with fail
          rw [Exit.noGoto_ret]
          go_ret
          exact ⟨ret_int HX.out.symm, ⟨hb6.os, hb6.tape, hb6.output, hb6.size, hb6.block⟩⟩
        have HIX : Hid _ := HY.out (show stepOk k t ⟨sq, (C : Int), tg, ⟨k1, nm, ot, at_, va, ep⟩⟩ = true by rw [HS.out, show ((C : Int)).toNat = C from rfl, HG.out, HOK.out, decide_eq_true (show y < tg by omega), decide_eq_true HSQ.out]; rfl)
        have htl2 : (t.set C tg).length = 4 := by simpa using htl
        have HTL : Hid ((t.set C tg).length = 4) := htl2
        have HO6 : Hid (w6.ownsRow w.heap.size 161 1 (.slice (some ⟨w.heap.size, 0, none⟩) 4 4) 4 (t.map (Value.int .i64))) := own6
        clear own6 HS HY HN HOK HG HIN htl htl2
        go_wp2_with fail
        go_quiet (fail)
        generalize hw7 : w6.drewN _ = w7
        have b7 : Below w6.heap.size w6 w7 := by rw [← hw7]; exact ⟨rfl, rfl, rfl, Nat.le_refl _, fun _ _ => rfl⟩
        clear hw7
        have hb7 := bw_call hb6 b7
        have own7 := owns_below HO6.out b7
        have k7 := (b7.block _ (heap_lt HK6.out)).trans HK6.out
        have q1 := at_cell k7 1
        have q2 := at_cell k7 2
        have t7 := own7.cellAt C (by omega)
        have f7 := own7.frozenAt C
        rw [List.getElem?_map, List.getElem?_eq_getElem (show C < t.length by have := HTL.out; simp at this; omega)] at t7
        simp only [Option.map_some] at t7
        generalize t[C]'(by have := HTL.out; simp at this; omega) = y7 at t7
        obtain ⟨hst, hgr⟩ := own7.stored C (.int .i64 tg)
        rw [← List.map_set] at hst
        have hbf : Below w.heap.size w (w7.setCell ⟨w.heap.size, C, none⟩ (.int .i64 tg)) := bw_set (p := ⟨w.heap.size, C, none⟩) hb7 (by simp) _
        have HFI : Hid _ := And.intro hst hbf
        have hnt : ¬ tg ≤ y := by omega
        clear t6 f6 p0 p1 p2 hst hbf hgr own7 b7 hb7 hb6 HO6 k7 HK6 hty
        go_wp2_with fail
        go_roundw
        case rel => exact ⟨k + 1, t.set C tg, by omega, by go_num, by go_num, HTL.out, HIX.out, HFI.out.1, HFI.out.2⟩
        case measure => simp [intOf]; omega
      · have hj1 : (sq != (k : Int) + 1) = true := by rw [bne_iff_ne]; exact hsq
        have HX : Hid _ := HN.out (show stepOk k t ⟨sq, (C : Int), tg, ⟨k1, nm, ot, at_, va, ep⟩⟩ = false by rw [HS.out, decide_eq_false hsq, Bool.and_false]; rfl)
        go_wp2_with fail
        rw [Exit.noGoto_ret]
        go_ret
        exact ⟨ret_int HX.out.symm, hb6⟩
    · have HE : Hid (((inOrd 0 tags0 l : Nat) : Int) = k) := by rw [Hid, hin.trans (inOrd_end hlt)]
      clear HC HF hin own
      go_wp2_with fail
      rw [Exit.noGoto_ret]
      go_ret
      exact ⟨ret_int HE.out.symm, hb⟩

theorem implLogOk_any (v : Value) (l : List Ent) (w : World) (hf : FitLog l) (r : ReadsR 9 entC w.heap.size w v l) :
    Calls Tryz.prog 87 #[v] w fun e w' => e = .returned (.bool (logOk l)) ∧ Below w.heap.size w w' := by
  obtain ⟨o, cap, rfl⟩ := r.form
  have hml : l.length ≤ maxLen := by obtain ⟨o', cap', -, hm, -, -⟩ := r; exact hm
  unfold maxLen at hml
  by_cases hl : l.length ≤ 120
  · have HB : Hid (logOk l = decide (inOrd 0 tags0 l = l.length)) := by rw [Hid, logOk, decide_eq_true hl, Bool.true_and]
    have hl2 : (l.length : Int) ≤ 120 := by omega
    have hle := (inOrd_le l 0 tags0).2
    go_enter Tryz.func87, Tryz.ntmps87
    go_wp2_with fail
    refine (inOrder_any _ l _ hf hl r).mono ?_
    rintro e w1 ⟨rfl, b1⟩
    generalize inOrd 0 tags0 l = n at *
    go_wp2_with fail
    go_ret
    exact ⟨ret_bool (by rw [HB.out, Bool.eq_iff_iff]; simp; omega), b1⟩
  · have HB : Hid (logOk l = false) := by rw [Hid, logOk, decide_eq_false hl, Bool.false_and]
    have hl2 : ¬ (l.length : Int) ≤ 120 := by omega
    clear r
    go_enter Tryz.func87, Tryz.ntmps87
    go_wp2_with fail
    go_ret
    exact ⟨ret_bool HB.out.symm, Below.refl _ _⟩
end Go.Proofs.YtibhepekmihagaaGreatDoor

namespace Go.Proofs.YtibhepekmihagaaGreatDoor
open Go.RowKit

set_option linter.unusedVariables false

set_option maxRecDepth 100000

set_option linter.unusedSimpArgs false


theorem VarB.below {w w' : World} {ab : Addr} (h : VarB w ab) (b : Below w.heap.size w w') : VarB w' ab := (b.cell (p := ⟨0, 0, none⟩) (cell_lt h)).trans h

set_option maxHeartbeats 3200000 in
theorem fromLog_no (n : Int) (v : Value) (l : List Ent) (w : World) (ab : Addr) (hb : VarB w ab) (hf : FitLog l) (hok : rpOk n l = false) (r : ReadsR 9 entC w.heap.size w v l) :
    Calls Tryz.prog 35 #[.int .i64 n, v] w fun e w' => e = .panicked [{ v := .iface 333 (.pointer (some ab)), recovered := false }] ∧ Below w.heap.size w w' := by
  obtain ⟨o, cap, rfl⟩ := r.form
  have HOK : Hid (rpOk n l = false) := hok
  obtain ⟨W0, hW0, kR, d0, z0⟩ := box1 w #[.bool false, .int .i64 0, .slice none 0 0, .int .i64 0, .slice none 0 0, .slice none 0 0, .slice none 0 0, .slice none 0 0, .slice none 0 0] 33
  have HW0 : Hid (W0 = _) := hW0
  have r0 := (r.below d0).mono d0.size
  have hns := implNewShelf_any n W0
  have hb0 := hb.below d0
  rw [newPool_ok] at hns
  clear hW0 hok r
  go_enter Tryz.func35, Tryz.ntmps35
  go_upto_region 1 with fail
  rw [← HW0.out]
  clear HW0
  cases hi : inB n 1 24
  · rw [hi] at hns
    go_upto_region 2 with (go_at_call 85; refine hns.mono ?_; rintro e w1 ⟨u1, u2, ub, rfl, op, ob, b1⟩; obtain ⟨x1, j1, rfl⟩ := own_slice op.c; obtain ⟨x2, j2, rfl⟩ := own_slice op.p; have ob0 : w1.ownsRow W0.heap.size 133 5 ub 0 [] := ob.row; obtain ⟨x3, j3, rfl⟩ := own_slice ob0)
    obtain ⟨W2, hW2, kS, d2, z2⟩ := box1 w1 #[.slice x1 (newPool n).1.1.length j1, .slice x2 (newPool n).1.2.length j2, .slice x3 0 j3] 28
    have HW2 : Hid (W2 = _) := hW2
    have B02 := bw_call b1 d2
    have hb2 := hb0.below B02
    have B2 := bw_call d0 B02
    rw [← HW2.out]
    clear HW2 hW2 hns ob0 op ob hb hb0 kS r0
    go_wp2_with fail
    refine (must_no ab _ hb2).mono ?_
    rintro e X3 ⟨rfl, rfl⟩
    go_wp2_with fail
    exact ⟨rfl, rfl, B2⟩
  · rw [hi] at hns
    have hlo : logOk l = false := by
      have := HOK.out
      rw [rpOk, hi, Bool.true_and] at this
      exact this
    go_upto_region 2 with (go_at_call 85; refine hns.mono ?_; rintro e w1 ⟨u1, u2, ub, rfl, op, ob, b1⟩; obtain ⟨x1, j1, rfl⟩ := own_slice op.c; obtain ⟨x2, j2, rfl⟩ := own_slice op.p; have ob0 : w1.ownsRow W0.heap.size 133 5 ub 0 [] := ob.row; obtain ⟨x3, j3, rfl⟩ := own_slice ob0)
    obtain ⟨W2, hW2, kS, d2, z2⟩ := box1 w1 #[.slice x1 (newPool n).1.1.length j1, .slice x2 (newPool n).1.2.length j2, .slice x3 0 j3] 28
    have HW2 : Hid (W2 = _) := hW2
    have B02 := bw_call b1 d2
    have hb2 := hb0.below B02
    have B2 := bw_call d0 B02
    have r2 := (r0.below B02).mono B02.size
    have hlg := implLogOk_any _ l W2 hf r2
    rw [hlo] at hlg
    rw [← HW2.out]
    clear HW2 hW2 hns ob0 op ob hb hb0 kS r0
    go_upto_region 3 with (go_at_call 86; refine (must_yes _).mono ?_; rintro e X3 ⟨rfl, rfl⟩)
    go_wp2_with fail
    refine hlg.mono ?_
    rintro e w4 ⟨rfl, b5⟩
    have hb5 := hb2.below b5
    go_wp2_with fail
    refine (must_no ab _ hb5).mono ?_
    rintro e X5 ⟨rfl, rfl⟩
    go_wp2_with fail
    exact ⟨rfl, rfl, bw_call B2 b5⟩
end Go.Proofs.YtibhepekmihagaaGreatDoor

