/-
  Contracts and plain laws, one chapter behind the other.
-/
import Derived.Deep.Cut
import Derived.Test.YtgabhnhfomekfaaM14
import Derived.Test.YtgabhnhfomekfaaM16
namespace Go.Proofs.Ytgabhnhfomekfaa
open Go.RowKit

set_option linter.unusedVariables false

set_option maxRecDepth 100000


theorem cell_lt15 {w : World} {a : Addr} {v : Value} (h : w.cell? a = some v) : a.block < w.heap.size := by
  rcases Nat.lt_or_ge a.block w.heap.size with q | q
  · exact q
  · simp [World.cell?, Array.getElem?_eq_none q] at h

theorem rep_eq15 (c v c1 v1 : Int) (w : World) : (Op.equalIn 10000 36 (.agg #[.int .i64 c, .int .i64 v]) (.agg #[.int .i64 c1, .int .i64 v1])).run Try.prog w = .ok (repEq c v c1 v1) w := by
  go_simp
  simp only [repEq]
  repeat' split
  all_goals simp [*]

set_option maxHeartbeats 1600000 in
theorem l15Asked_any (sq cl tg k : Int) (nm ot : ByteArray) (at_ va ep : Int) (w : World) (hn : nm.size ≤ maxLen) (ho : ot.size ≤ maxLen) :
    Calls Try.prog 36 #[.agg #[.int .i64 sq, .int .i64 cl, .int .i64 tg, .int .i64 k, .string nm, .string ot, .int .i64 at_, .int .i64 va, .int .i64 ep]] w fun e w' => e = .returned (.bool (asked ⟨sq, cl, tg, ⟨k, nm, ot, at_, va, ep⟩⟩)) ∧ Below w.heap.size w w' := by
  obtain ⟨W0, hW0, k0, d0, z0⟩ := box1 w #[.int .i64 sq, .int .i64 cl, .int .i64 tg, .int .i64 k, .string nm, .string ot, .int .i64 at_, .int .i64 va, .int .i64 ep] 34
  have HW0 : Hid (W0 = _) := hW0
  have p0 := at_cell k0 0
  have p1 := at_cell k0 1
  have p2 := at_cell k0 2
  have p3 := at_cell k0 3
  have p4 := at_cell k0 4
  have p5 := at_cell k0 5
  have p6 := at_cell k0 6
  have p7 := at_cell k0 7
  have p8 := at_cell k0 8
  have HB : Hid (asked ⟨sq, cl, tg, ⟨k, nm, ot, at_, va, ep⟩⟩ = (decide (sq = 0) && (decide (1 ≤ tg) && decide (tg ≤ 1000)) && (decide (0 ≤ cl) && decide (cl ≤ 3)) && opOk ⟨k, nm, ot, at_, va, ep⟩)) := rfl
  clear hW0 z0 k0
  go_enter Try.func36, Try.ntmps36
  by_cases h0 : sq = 0
  case neg =>
    have HV : Hid (asked ⟨sq, cl, tg, ⟨k, nm, ot, at_, va, ep⟩⟩ = false) := by simp [Hid, asked, h0]
    clear HB
    go_wp2_with fail
    go_ret
    rw [← HW0.out]
    exact ⟨ret_bool HV.out.symm, d0⟩
  subst h0
  go_wp2_with fail
  rw [← HW0.out]
  clear HW0
  refine (l1In_any tg 1 1000 _).mono ?_
  rintro e w' ⟨rfl, rfl⟩
  generalize (decide (1 ≤ tg) && decide (tg ≤ 1000)) = c1 at *
  cases c1
  · go_wp2_with fail
    go_ret
    exact ⟨ret_bool (by rw [HB.out]; simp), d0⟩
  go_wp2_with fail
  refine (l1In_any cl 0 3 _).mono ?_
  rintro e w' ⟨rfl, rfl⟩
  generalize (decide (0 ≤ cl) && decide (cl ≤ 3)) = c2 at *
  cases c2
  · go_wp2_with fail
    go_ret
    exact ⟨ret_bool (by rw [HB.out]; simp), d0⟩
  go_wp2_with fail
  refine (specOpOk_any k nm ot at_ va ep _ hn ho).mono ?_
  rintro e w1 ⟨rfl, b1⟩
  replace d0 := bw_call d0 b1
  generalize opOk ⟨k, nm, ot, at_, va, ep⟩ = c3 at *
  go_wp2_with fail
  go_ret
  exact ⟨ret_bool (by rw [HB.out]; simp), d0⟩

set_option maxHeartbeats 6400000 in
theorem specMsgOk_any (kd ds vw sq cl tg k : Int) (nm ot : ByteArray) (at_ va ep s rc rv : Int) (w : World) (hn : nm.size ≤ maxLen) (ho : ot.size ≤ maxLen) :
    Calls Try.prog 15 #[.agg #[.int .i64 kd, .int .i64 ds, .int .i64 vw, .int .i64 sq, .int .i64 cl, .int .i64 tg, .int .i64 k, .string nm, .string ot, .int .i64 at_, .int .i64 va, .int .i64 ep, .int .i64 s, .int .i64 rc, .int .i64 rv]] w fun e w' => e = .returned (.bool (msgOk ⟨kd, ds, vw, ⟨sq, cl, tg, ⟨k, nm, ot, at_, va, ep⟩⟩, s, rc, rv⟩)) ∧ Below w.heap.size w w' := by
  obtain ⟨W0, hW0, k0, d0, z0⟩ := box1 w #[.int .i64 kd, .int .i64 ds, .int .i64 vw, .int .i64 sq, .int .i64 cl, .int .i64 tg, .int .i64 k, .string nm, .string ot, .int .i64 at_, .int .i64 va, .int .i64 ep, .int .i64 s, .int .i64 rc, .int .i64 rv] 38
  have HW0 : Hid (W0 = _) := hW0
  obtain ⟨W1, hW1, k1, d1, z1⟩ := box1 W0 #[.int .i64 0, .int .i64 0] 36
  have HW1 : Hid (W1 = _) := hW1
  have D1 : Hid (Below w.heap.size w W1) := d0.trans (d1.mono (by omega))
  have K1 := (d1.block _ (heap_lt k0)).trans k0
  have p0 := at_cell k0 0
  have p1 := at_cell k0 1
  have p2 := at_cell k0 2
  have p3 := at_cell k0 3
  have p4 := at_cell k0 4
  have p5 := at_cell k0 5
  have p6 := at_cell k0 6
  have p7 := at_cell k0 7
  have p8 := at_cell k0 8
  have p9 := at_cell k0 9
  have p10 := at_cell k0 10
  have p11 := at_cell k0 11
  have p12 := at_cell k0 12
  have p13 := at_cell k0 13
  have p14 := at_cell k0 14
  have HB : Hid (msgOk ⟨kd, ds, vw, ⟨sq, cl, tg, ⟨k, nm, ot, at_, va, ep⟩⟩, s, rc, rv⟩ = ((decide (0 ≤ ds) && decide (ds ≤ 3)) && (decide (1 ≤ vw) && decide (vw ≤ 1000)) && kindOk ⟨kd, ds, vw, ⟨sq, cl, tg, ⟨k, nm, ot, at_, va, ep⟩⟩, s, rc, rv⟩)) := rfl
  clear hW0 hW1 k0 d1 z0 z1
  go_enter Try.func15, Try.ntmps15
  go_wp2_with fail
  rw [← HW0.out]
  clear HW0
  refine (l1In_any ds 0 3 _).mono ?_
  rintro e w' ⟨rfl, rfl⟩
  generalize (decide (0 ≤ ds) && decide (ds ≤ 3)) = c0 at *
  cases c0
  · go_wp2_with fail
    go_ret
    exact ⟨ret_bool (by rw [HB.out]; rfl), d0⟩
  go_wp2_with fail
  refine (l1In_any vw 1 1000 _).mono ?_
  rintro e w' ⟨rfl, rfl⟩
  generalize (decide (1 ≤ vw) && decide (vw ≤ 1000)) = c1 at *
  cases c1
  · go_wp2_with fail
    go_ret
    exact ⟨ret_bool (by rw [HB.out]; rfl), d0⟩
  replace HB : Hid (msgOk ⟨kd, ds, vw, ⟨sq, cl, tg, ⟨k, nm, ot, at_, va, ep⟩⟩, s, rc, rv⟩ = kindOk ⟨kd, ds, vw, ⟨sq, cl, tg, ⟨k, nm, ot, at_, va, ep⟩⟩, s, rc, rv⟩) := by rw [Hid, HB.out]; simp
  clear p0 p1 p2 p3 p4 p5 p6 p7 p8 p9 p10 p11 p12 p13 p14
  have p0 := at_cell K1 0
  have p1 := at_cell K1 1
  have p2 := at_cell K1 2
  have p3 := at_cell K1 3
  have p4 := at_cell K1 4
  have p5 := at_cell K1 5
  have p6 := at_cell K1 6
  have p7 := at_cell K1 7
  have p8 := at_cell K1 8
  have p9 := at_cell K1 9
  have p10 := at_cell K1 10
  have p11 := at_cell K1 11
  have p12 := at_cell K1 12
  have p13 := at_cell K1 13
  have p14 := at_cell K1 14
  have hz1 := at_cell k1 0
  have hz2 := at_cell k1 1
  have hg := Try.eqGuardType36
  go_upto_region 4 with fail
  rw [← HW1.out]
  clear HW1
  have d0 := D1.out
  clear D1 K1 k1
  by_cases h1 : kd = 1
  · subst h1
    go_wp2_with fail
    refine (l15Asked_any sq cl tg k nm ot at_ va ep _ hn ho).mono ?_
    rintro e w1 ⟨rfl, b1⟩
    replace d0 := bw_call d0 b1
    cases ha : asked ⟨sq, cl, tg, ⟨k, nm, ot, at_, va, ep⟩⟩
    · have HA : Hid _ := ha
      clear ha
      go_wp2_with fail
      go_ret
      exact ⟨ret_bool (by rw [HB.out]; simp [kindOk, HA.out]), d0⟩
    have HA : Hid _ := ha
    clear ha
    replace p0 := (b1.cell (p := ⟨w.heap.size, 0, none⟩) (cell_lt15 p0)).trans p0
    replace p1 := (b1.cell (p := ⟨w.heap.size, 1, none⟩) (cell_lt15 p1)).trans p1
    replace p2 := (b1.cell (p := ⟨w.heap.size, 2, none⟩) (cell_lt15 p2)).trans p2
    replace p3 := (b1.cell (p := ⟨w.heap.size, 3, none⟩) (cell_lt15 p3)).trans p3
    replace p4 := (b1.cell (p := ⟨w.heap.size, 4, none⟩) (cell_lt15 p4)).trans p4
    replace p5 := (b1.cell (p := ⟨w.heap.size, 5, none⟩) (cell_lt15 p5)).trans p5
    replace p6 := (b1.cell (p := ⟨w.heap.size, 6, none⟩) (cell_lt15 p6)).trans p6
    replace p7 := (b1.cell (p := ⟨w.heap.size, 7, none⟩) (cell_lt15 p7)).trans p7
    replace p8 := (b1.cell (p := ⟨w.heap.size, 8, none⟩) (cell_lt15 p8)).trans p8
    replace p9 := (b1.cell (p := ⟨w.heap.size, 9, none⟩) (cell_lt15 p9)).trans p9
    replace p10 := (b1.cell (p := ⟨w.heap.size, 10, none⟩) (cell_lt15 p10)).trans p10
    replace p11 := (b1.cell (p := ⟨w.heap.size, 11, none⟩) (cell_lt15 p11)).trans p11
    replace p12 := (b1.cell (p := ⟨w.heap.size, 12, none⟩) (cell_lt15 p12)).trans p12
    replace p13 := (b1.cell (p := ⟨w.heap.size, 13, none⟩) (cell_lt15 p13)).trans p13
    replace p14 := (b1.cell (p := ⟨w.heap.size, 14, none⟩) (cell_lt15 p14)).trans p14
    replace hz1 := (b1.cell (cell_lt15 hz1)).trans hz1
    replace hz2 := (b1.cell (cell_lt15 hz2)).trans hz2
    by_cases hs : s = 0
    case neg =>
      go_wp2_with fail
      go_ret
      exact ⟨ret_bool (by rw [HB.out]; simp [kindOk, HA.out, hs]), d0⟩
    subst hs
    obtain ⟨bb, hbb⟩ : ∃ b, repEq rc rv 0 0 = b := ⟨_, rfl⟩
    have HEQ : ∀ W : World, (Op.equalIn 10000 36 (.agg #[.int .i64 rc, .int .i64 rv]) (.agg #[.int .i64 0, .int .i64 0])).run Try.prog W = .ok bb W := fun W => by rw [← hbb]; exact rep_eq15 _ _ _ _ W
    have HBB : Hid (repEq rc rv 0 0 = bb) := hbb
    clear hbb
    go_wp2_with fail
    go_ret
    exact ⟨ret_bool (by rw [HB.out]; simp [kindOk, HA.out, HBB.out]), d0⟩
  by_cases h2 : kd = 2
  · subst h2
    go_wp2_with fail
    refine (specEntryOk_any sq cl tg k nm ot at_ va ep _ hn ho).mono ?_
    rintro e w1 ⟨rfl, b1⟩
    replace d0 := bw_call d0 b1
    cases ha : entOk ⟨sq, cl, tg, ⟨k, nm, ot, at_, va, ep⟩⟩
    · have HA : Hid _ := ha
      clear ha
      go_wp2_with fail
      go_ret
      exact ⟨ret_bool (by rw [HB.out]; simp [kindOk, HA.out]), d0⟩
    have HA : Hid _ := ha
    clear ha
    replace p0 := (b1.cell (p := ⟨w.heap.size, 0, none⟩) (cell_lt15 p0)).trans p0
    replace p1 := (b1.cell (p := ⟨w.heap.size, 1, none⟩) (cell_lt15 p1)).trans p1
    replace p2 := (b1.cell (p := ⟨w.heap.size, 2, none⟩) (cell_lt15 p2)).trans p2
    replace p3 := (b1.cell (p := ⟨w.heap.size, 3, none⟩) (cell_lt15 p3)).trans p3
    replace p4 := (b1.cell (p := ⟨w.heap.size, 4, none⟩) (cell_lt15 p4)).trans p4
    replace p5 := (b1.cell (p := ⟨w.heap.size, 5, none⟩) (cell_lt15 p5)).trans p5
    replace p6 := (b1.cell (p := ⟨w.heap.size, 6, none⟩) (cell_lt15 p6)).trans p6
    replace p7 := (b1.cell (p := ⟨w.heap.size, 7, none⟩) (cell_lt15 p7)).trans p7
    replace p8 := (b1.cell (p := ⟨w.heap.size, 8, none⟩) (cell_lt15 p8)).trans p8
    replace p9 := (b1.cell (p := ⟨w.heap.size, 9, none⟩) (cell_lt15 p9)).trans p9
    replace p10 := (b1.cell (p := ⟨w.heap.size, 10, none⟩) (cell_lt15 p10)).trans p10
    replace p11 := (b1.cell (p := ⟨w.heap.size, 11, none⟩) (cell_lt15 p11)).trans p11
    replace p12 := (b1.cell (p := ⟨w.heap.size, 12, none⟩) (cell_lt15 p12)).trans p12
    replace p13 := (b1.cell (p := ⟨w.heap.size, 13, none⟩) (cell_lt15 p13)).trans p13
    replace p14 := (b1.cell (p := ⟨w.heap.size, 14, none⟩) (cell_lt15 p14)).trans p14
    replace hz1 := (b1.cell (cell_lt15 hz1)).trans hz1
    replace hz2 := (b1.cell (cell_lt15 hz2)).trans hz2
    by_cases hs : s = 0
    case neg =>
      go_wp2_with fail
      go_ret
      exact ⟨ret_bool (by rw [HB.out]; simp [kindOk, HA.out, hs]), d0⟩
    subst hs
    obtain ⟨bb, hbb⟩ : ∃ b, repEq rc rv 0 0 = b := ⟨_, rfl⟩
    have HEQ : ∀ W : World, (Op.equalIn 10000 36 (.agg #[.int .i64 rc, .int .i64 rv]) (.agg #[.int .i64 0, .int .i64 0])).run Try.prog W = .ok bb W := fun W => by rw [← hbb]; exact rep_eq15 _ _ _ _ W
    have HBB : Hid (repEq rc rv 0 0 = bb) := hbb
    clear hbb
    go_wp2_with fail
    go_ret
    exact ⟨ret_bool (by rw [HB.out]; simp [kindOk, HA.out, HBB.out]), d0⟩
  by_cases h3 : kd = 3
  · subst h3
    obtain ⟨be, hbe⟩ : ∃ b, entEq ⟨sq, cl, tg, ⟨k, nm, ot, at_, va, ep⟩⟩ Ent.zero = b := ⟨_, rfl⟩
    have HEE : ∀ W : World, (Op.equalIn 10000 34 (.agg #[.int .i64 sq, .int .i64 cl, .int .i64 tg, .int .i64 k, .string nm, .string ot, .int .i64 at_, .int .i64 va, .int .i64 ep]) (.agg #[.int .i64 0, .int .i64 0, .int .i64 0, .int .i64 0, .string ⟨#[]⟩, .string ⟨#[]⟩, .int .i64 0, .int .i64 0, .int .i64 0])).run Try.prog W = .ok be W := fun W => by rw [← hbe]; exact ent_equal _ _ _ _ _ _ _ _ _ _ _ _ _ _ _ _ _ _ W
    have hge := Try.eqGuardType34
    have HBE : Hid (entEq ⟨sq, cl, tg, ⟨k, nm, ot, at_, va, ep⟩⟩ Ent.zero = be) := hbe
    clear hbe
    cases be
    · go_wp2_with fail
      go_ret
      exact ⟨ret_bool (by rw [HB.out]; simp [kindOk, HBE.out]), d0⟩
    go_wp2_with fail
    refine (l1In_any s 1 120 _).mono ?_
    rintro e w' ⟨rfl, rfl⟩
    obtain ⟨bi, hbi⟩ : ∃ b, inB s 1 120 = b := ⟨_, rfl⟩
    have HBI : Hid (inB s 1 120 = bi) := hbi
    rw [inB] at hbi
    rw [hbi]
    clear hbi
    cases bi
    · go_wp2_with fail
      go_ret
      exact ⟨ret_bool (by rw [HB.out]; simp [kindOk, HBE.out, HBI.out]), d0⟩
    obtain ⟨bb, hbb⟩ : ∃ b, repEq rc rv 0 0 = b := ⟨_, rfl⟩
    have HEQ : ∀ W : World, (Op.equalIn 10000 36 (.agg #[.int .i64 rc, .int .i64 rv]) (.agg #[.int .i64 0, .int .i64 0])).run Try.prog W = .ok bb W := fun W => by rw [← hbb]; exact rep_eq15 _ _ _ _ W
    have HBB : Hid (repEq rc rv 0 0 = bb) := hbb
    clear hbb
    go_wp2_with fail
    go_ret
    exact ⟨ret_bool (by rw [HB.out]; simp [kindOk, HBE.out, HBI.out, HBB.out]), d0⟩
  by_cases h4 : kd = 4
  · subst h4
    go_wp2_with fail
    refine (l15Asked_any sq cl tg k nm ot at_ va ep _ hn ho).mono ?_
    rintro e w1 ⟨rfl, b1⟩
    replace d0 := bw_call d0 b1
    cases ha : asked ⟨sq, cl, tg, ⟨k, nm, ot, at_, va, ep⟩⟩
    · have HA : Hid _ := ha
      clear ha
      go_wp2_with fail
      go_ret
      exact ⟨ret_bool (by rw [HB.out]; simp [kindOk, HA.out]), d0⟩
    have HA : Hid _ := ha
    clear ha
    replace p0 := (b1.cell (p := ⟨w.heap.size, 0, none⟩) (cell_lt15 p0)).trans p0
    replace p1 := (b1.cell (p := ⟨w.heap.size, 1, none⟩) (cell_lt15 p1)).trans p1
    replace p2 := (b1.cell (p := ⟨w.heap.size, 2, none⟩) (cell_lt15 p2)).trans p2
    replace p3 := (b1.cell (p := ⟨w.heap.size, 3, none⟩) (cell_lt15 p3)).trans p3
    replace p4 := (b1.cell (p := ⟨w.heap.size, 4, none⟩) (cell_lt15 p4)).trans p4
    replace p5 := (b1.cell (p := ⟨w.heap.size, 5, none⟩) (cell_lt15 p5)).trans p5
    replace p6 := (b1.cell (p := ⟨w.heap.size, 6, none⟩) (cell_lt15 p6)).trans p6
    replace p7 := (b1.cell (p := ⟨w.heap.size, 7, none⟩) (cell_lt15 p7)).trans p7
    replace p8 := (b1.cell (p := ⟨w.heap.size, 8, none⟩) (cell_lt15 p8)).trans p8
    replace p9 := (b1.cell (p := ⟨w.heap.size, 9, none⟩) (cell_lt15 p9)).trans p9
    replace p10 := (b1.cell (p := ⟨w.heap.size, 10, none⟩) (cell_lt15 p10)).trans p10
    replace p11 := (b1.cell (p := ⟨w.heap.size, 11, none⟩) (cell_lt15 p11)).trans p11
    replace p12 := (b1.cell (p := ⟨w.heap.size, 12, none⟩) (cell_lt15 p12)).trans p12
    replace p13 := (b1.cell (p := ⟨w.heap.size, 13, none⟩) (cell_lt15 p13)).trans p13
    replace p14 := (b1.cell (p := ⟨w.heap.size, 14, none⟩) (cell_lt15 p14)).trans p14
    replace hz1 := (b1.cell (cell_lt15 hz1)).trans hz1
    replace hz2 := (b1.cell (cell_lt15 hz2)).trans hz2
    by_cases ht : ds = cl
    case neg =>
      go_wp2_with fail
      go_ret
      exact ⟨ret_bool (by rw [HB.out]; simp [kindOk, HA.out, ht]), d0⟩
    subst ht
    go_wp2_with fail
    refine (l1In_any s 0 120 _).mono ?_
    rintro e w' ⟨rfl, rfl⟩
    obtain ⟨bi, hbi⟩ : ∃ b, inB s 0 120 = b := ⟨_, rfl⟩
    have HBI : Hid (inB s 0 120 = bi) := hbi
    rw [inB] at hbi
    rw [hbi]
    clear hbi
    cases bi
    · go_wp2_with fail
      go_ret
      exact ⟨ret_bool (by rw [HB.out]; simp [kindOk, HA.out, HBI.out]), d0⟩
    go_wp2_with fail
    refine (specReplyOk_any rc rv _).mono ?_
    rintro e w2 ⟨rfl, b2⟩
    replace d0 := bw_call d0 b2
    go_wp2_with fail
    go_ret
    exact ⟨ret_bool (by rw [HB.out]; simp [kindOk, HA.out, HBI.out]), d0⟩
  go_wp2_with fail
  go_ret
  exact ⟨ret_bool (by rw [HB.out]; simp [kindOk, h1, h2, h3, h4]), d0⟩
end Go.Proofs.Ytgabhnhfomekfaa

