/-
  Contracts and plain laws, one chapter behind the other.
-/
import Derived.Test.YtgabhnhfomekfaaM33
namespace Go.Proofs.Ytgabhnhfomekfaa
open Go.RowKit

set_option linter.unusedVariables false

set_option maxRecDepth 100000


theorem told_any (kd ds vw sq cl tg k : Int) (nm ot : ByteArray) (at_ va ep s rc rv : Int) (m : Mg) (h : told ⟨kd, ds, vw, ⟨sq, cl, tg, ⟨k, nm, ot, at_, va, ep⟩⟩, s, rc, rv⟩ = m) (w : World) :
    Calls Try.prog 28 #[.agg #[.int .i64 kd, .int .i64 ds, .int .i64 vw, .int .i64 sq, .int .i64 cl, .int .i64 tg, .int .i64 k, .string nm, .string ot, .int .i64 at_, .int .i64 va, .int .i64 ep, .int .i64 s, .int .i64 rc, .int .i64 rv]] w fun e w' => e = .returned (.agg #[.int .i64 m.kd, .int .i64 m.ds, .int .i64 m.vw, .int .i64 m.e.sq, .int .i64 m.e.cl, .int .i64 m.e.tg, .int .i64 m.e.o.k, .string m.e.o.nm, .string m.e.o.ot, .int .i64 m.e.o.at_, .int .i64 m.e.o.va, .int .i64 m.e.o.ep, .int .i64 m.s, .int .i64 m.rc, .int .i64 m.rv]) ∧ Below w.heap.size w w' := by
  subst h
  by_cases h1 : kd = 1
  · subst h1; exact told1_any ds vw sq cl tg k nm ot at_ va ep s rc rv w
  by_cases h2 : kd = 2
  · subst h2; exact told2_any ds vw sq cl tg k nm ot at_ va ep s rc rv w
  by_cases h3 : kd = 3
  · subst h3; exact told3_any ds vw sq cl tg k nm ot at_ va ep s rc rv w
  by_cases h4 : kd = 4
  · subst h4; exact told4_any ds vw sq cl tg k nm ot at_ va ep s rc rv w
  have e : told ⟨kd, ds, vw, ⟨sq, cl, tg, ⟨k, nm, ot, at_, va, ep⟩⟩, s, rc, rv⟩ = ⟨kd, ds, vw, Ent.zero, 0, 0, 0⟩ := by simp [told, h1, h2, h3, h4]
  rw [e]
  exact told0_any kd ds vw sq cl tg k nm ot at_ va ep s rc rv w h1 h2 h3 h4

set_option maxHeartbeats 3200000 in
theorem msg_equal (kd ds vw sq cl tg k : Int) (nm ot : ByteArray) (at_ va ep s rc rv : Int) (kd1 ds1 vw1 sq1 cl1 tg1 k1 at_1 va1 ep1 s1 rc1 rv1 : Int) (nm1 ot1 : ByteArray) (w : World) : (Op.equalIn 10000 38 (.agg #[.int .i64 kd, .int .i64 ds, .int .i64 vw, .int .i64 sq, .int .i64 cl, .int .i64 tg, .int .i64 k, .string nm, .string ot, .int .i64 at_, .int .i64 va, .int .i64 ep, .int .i64 s, .int .i64 rc, .int .i64 rv]) (.agg #[.int .i64 kd1, .int .i64 ds1, .int .i64 vw1, .int .i64 sq1, .int .i64 cl1, .int .i64 tg1, .int .i64 k1, .string nm1, .string ot1, .int .i64 at_1, .int .i64 va1, .int .i64 ep1, .int .i64 s1, .int .i64 rc1, .int .i64 rv1])).run Try.prog w = .ok (mgEq ⟨kd, ds, vw, ⟨sq, cl, tg, ⟨k, nm, ot, at_, va, ep⟩⟩, s, rc, rv⟩ ⟨kd1, ds1, vw1, ⟨sq1, cl1, tg1, ⟨k1, nm1, ot1, at_1, va1, ep1⟩⟩, s1, rc1, rv1⟩) w := by
  go_simp
  simp only [mgEq, entEq, oqEq, repEq, text_iff]
  by_cases e0 : kd = kd1
  case neg => simp [e0]
  rw [if_pos e0, decide_eq_true e0]
  by_cases e1 : ds = ds1
  case neg => simp [e1]
  rw [if_pos e1, decide_eq_true e1]
  by_cases e2 : vw = vw1
  case neg => simp [e2]
  rw [if_pos e2, decide_eq_true e2]
  by_cases e3 : sq = sq1
  case neg => simp [e3]
  rw [if_pos e3, decide_eq_true e3]
  by_cases e4 : cl = cl1
  case neg => simp [e4]
  rw [if_pos e4, decide_eq_true e4]
  by_cases e5 : tg = tg1
  case neg => simp [e5]
  rw [if_pos e5, decide_eq_true e5]
  by_cases e6 : k = k1
  case neg => simp [e6]
  rw [if_pos e6, decide_eq_true e6]
  by_cases e7 : nm = nm1
  case neg => simp [e7]
  rw [if_pos e7, decide_eq_true e7]
  by_cases e8 : ot = ot1
  case neg => simp [e8]
  rw [if_pos e8, decide_eq_true e8]
  by_cases e9 : at_ = at_1
  case neg => simp [e9]
  rw [if_pos e9, decide_eq_true e9]
  by_cases e10 : va = va1
  case neg => simp [e10]
  rw [if_pos e10, decide_eq_true e10]
  by_cases e11 : ep = ep1
  case neg => simp [e11]
  rw [if_pos e11, decide_eq_true e11]
  by_cases e12 : s = s1
  case neg => simp [e12]
  rw [if_pos e12, decide_eq_true e12]
  by_cases e13 : rc = rc1
  case neg => simp [e13]
  rw [if_pos e13, decide_eq_true e13]
  by_cases e14 : rv = rv1
  case neg => simp [e14]
  rw [if_pos e14, decide_eq_true e14]
  rfl

set_option maxHeartbeats 6400000 in
theorem implMsgOk_any (kd ds vw sq cl tg k : Int) (nm ot : ByteArray) (at_ va ep s rc rv : Int) (w : World) (hf : FitEnt ⟨sq, cl, tg, ⟨k, nm, ot, at_, va, ep⟩⟩) :
    Calls Try.prog 14 #[.agg #[.int .i64 kd, .int .i64 ds, .int .i64 vw, .int .i64 sq, .int .i64 cl, .int .i64 tg, .int .i64 k, .string nm, .string ot, .int .i64 at_, .int .i64 va, .int .i64 ep, .int .i64 s, .int .i64 rc, .int .i64 rv]] w fun e w' => e = .returned (.bool (msgOk ⟨kd, ds, vw, ⟨sq, cl, tg, ⟨k, nm, ot, at_, va, ep⟩⟩, s, rc, rv⟩)) ∧ Below w.heap.size w w' := by
  rw [msgOk_by]
  have HFT : Hid (FitEnt ⟨sq, cl, tg, ⟨k, nm, ot, at_, va, ep⟩⟩) := hf
  obtain ⟨m1, hm1⟩ : ∃ x, told ⟨kd, ds, vw, ⟨sq, cl, tg, ⟨k, nm, ot, at_, va, ep⟩⟩, s, rc, rv⟩ = x := ⟨_, rfl⟩
  have HB : Hid (msgBy ⟨kd, ds, vw, ⟨sq, cl, tg, ⟨k, nm, ot, at_, va, ep⟩⟩, s, rc, rv⟩ = (mgEq ⟨kd, ds, vw, ⟨sq, cl, tg, ⟨k, nm, ot, at_, va, ep⟩⟩, s, rc, rv⟩ m1 && inB vw 1 1000 && kindBy ⟨kd, ds, vw, ⟨sq, cl, tg, ⟨k, nm, ot, at_, va, ep⟩⟩, s, rc, rv⟩)) := by rw [Hid, msgBy, hm1]
  obtain ⟨W0, hW0, k0, d0, z0⟩ := box1 w #[.int .i64 kd, .int .i64 ds, .int .i64 vw, .int .i64 sq, .int .i64 cl, .int .i64 tg, .int .i64 k, .string nm, .string ot, .int .i64 at_, .int .i64 va, .int .i64 ep, .int .i64 s, .int .i64 rc, .int .i64 rv] 38
  have HW0 : Hid (W0 = _) := hW0
  have lw : w.heap.size < W0.heap.size := by omega
  have HT : ∀ q : BelowOf W0, Calls Try.prog 28 #[.agg #[.int .i64 kd, .int .i64 ds, .int .i64 vw, .int .i64 sq, .int .i64 cl, .int .i64 tg, .int .i64 k, .string nm, .string ot, .int .i64 at_, .int .i64 va, .int .i64 ep, .int .i64 s, .int .i64 rc, .int .i64 rv]] q.w' fun e w' => e = .returned (.agg #[.int .i64 m1.kd, .int .i64 m1.ds, .int .i64 m1.vw, .int .i64 m1.e.sq, .int .i64 m1.e.cl, .int .i64 m1.e.tg, .int .i64 m1.e.o.k, .string m1.e.o.nm, .string m1.e.o.ot, .int .i64 m1.e.o.at_, .int .i64 m1.e.o.va, .int .i64 m1.e.o.ep, .int .i64 m1.s, .int .i64 m1.rc, .int .i64 m1.rv]) ∧ Below q.w'.heap.size q.w' w' := fun q => told_any kd ds vw sq cl tg k nm ot at_ va ep s rc rv m1 hm1 q.w'
  have HV : ∀ q : BelowOf W0, Calls Try.prog 29 #[.int .i64 vw] q.w' fun e w' => e = .returned (.bool (inB vw 1 1000)) ∧ Below q.w'.heap.size q.w' w' := fun q => (viewNumberOk_any vw q.w').mono (by rintro e w' ⟨rfl, rfl⟩; exact ⟨rfl, Below.refl _ _⟩)
  clear hm1 hf
  obtain ⟨kd1, ds1, vw1, ⟨sq1, cl1, tg1, ⟨k1, nm1, ot1, at_1, va1, ep1⟩⟩, s1, rc1, rv1⟩ := m1
  simp only at HT
  obtain ⟨bb, hbb⟩ : ∃ b, mgEq ⟨kd, ds, vw, ⟨sq, cl, tg, ⟨k, nm, ot, at_, va, ep⟩⟩, s, rc, rv⟩ ⟨kd1, ds1, vw1, ⟨sq1, cl1, tg1, ⟨k1, nm1, ot1, at_1, va1, ep1⟩⟩, s1, rc1, rv1⟩ = b := ⟨_, rfl⟩
  have HEQ : ∀ W : World, (Op.equalIn 10000 38 (.agg #[.int .i64 kd, .int .i64 ds, .int .i64 vw, .int .i64 sq, .int .i64 cl, .int .i64 tg, .int .i64 k, .string nm, .string ot, .int .i64 at_, .int .i64 va, .int .i64 ep, .int .i64 s, .int .i64 rc, .int .i64 rv]) (.agg #[.int .i64 kd1, .int .i64 ds1, .int .i64 vw1, .int .i64 sq1, .int .i64 cl1, .int .i64 tg1, .int .i64 k1, .string nm1, .string ot1, .int .i64 at_1, .int .i64 va1, .int .i64 ep1, .int .i64 s1, .int .i64 rc1, .int .i64 rv1])).run Try.prog W = .ok bb W := fun W => by rw [← hbb]; exact msg_equal _ _ _ _ _ _ _ _ _ _ _ _ _ _ _ _ _ _ _ _ _ _ _ _ _ _ _ _ _ _ W
  rw [hbb] at HB
  have hg := Try.eqGuardType38
  clear hbb
  have hne := BelowOf.any W0
  have e0 := BelowOf.cell (show W0.cell? ⟨w.heap.size, 0, none⟩ = some (.int .i64 kd) from at_cell k0 0) lw
  have e1 := BelowOf.cell (show W0.cell? ⟨w.heap.size, 1, none⟩ = some (.int .i64 ds) from at_cell k0 1) lw
  have e2 := BelowOf.cell (show W0.cell? ⟨w.heap.size, 2, none⟩ = some (.int .i64 vw) from at_cell k0 2) lw
  have e3 := BelowOf.cell (show W0.cell? ⟨w.heap.size, 3, none⟩ = some (.int .i64 sq) from at_cell k0 3) lw
  have e4 := BelowOf.cell (show W0.cell? ⟨w.heap.size, 4, none⟩ = some (.int .i64 cl) from at_cell k0 4) lw
  have e5 := BelowOf.cell (show W0.cell? ⟨w.heap.size, 5, none⟩ = some (.int .i64 tg) from at_cell k0 5) lw
  have e6 := BelowOf.cell (show W0.cell? ⟨w.heap.size, 6, none⟩ = some (.int .i64 k) from at_cell k0 6) lw
  have e7 := BelowOf.cell (show W0.cell? ⟨w.heap.size, 7, none⟩ = some (.string nm) from at_cell k0 7) lw
  have e8 := BelowOf.cell (show W0.cell? ⟨w.heap.size, 8, none⟩ = some (.string ot) from at_cell k0 8) lw
  have e9 := BelowOf.cell (show W0.cell? ⟨w.heap.size, 9, none⟩ = some (.int .i64 at_) from at_cell k0 9) lw
  have e10 := BelowOf.cell (show W0.cell? ⟨w.heap.size, 10, none⟩ = some (.int .i64 va) from at_cell k0 10) lw
  have e11 := BelowOf.cell (show W0.cell? ⟨w.heap.size, 11, none⟩ = some (.int .i64 ep) from at_cell k0 11) lw
  have e12 := BelowOf.cell (show W0.cell? ⟨w.heap.size, 12, none⟩ = some (.int .i64 s) from at_cell k0 12) lw
  have e13 := BelowOf.cell (show W0.cell? ⟨w.heap.size, 13, none⟩ = some (.int .i64 rc) from at_cell k0 13) lw
  have e14 := BelowOf.cell (show W0.cell? ⟨w.heap.size, 14, none⟩ = some (.int .i64 rv) from at_cell k0 14) lw
  clear hW0 z0
  go_enter Try.func14, Try.ntmps14
  go_upto_region 1 with fail
  rw [← HW0.out]
  clear HW0
  cases bb
  · refine wp_region_of (by kernel_rfl) (by kernel_rfl) ?_
    repeat (go_big_quiet_step ((first | (go_at_call 28; exact calls_of (HT _)) | (go_at_call 29; exact calls_of (HV _)) | rfl)))
    refine wpQuiet_nil ?_
    intro w5 hw5
    obtain ⟨⟨wx, cx⟩, hwx⟩ := hw5
    have b5 : Below W0.heap.size W0 w5 := by rw [hwx]; exact cx
    replace d0 := bw_call d0 b5
    clear hwx cx wx hne HT HV HEQ hg e0 e1 e2 e3 e4 e5 e6 e7 e8 e9 e10 e11 e12 e13 e14
    go_wp2_with fail
    go_ret
    exact ⟨ret_bool (by rw [HB.out]; rfl), d0⟩
  obtain ⟨bv, hbv⟩ : ∃ b, inB vw 1 1000 = b := ⟨_, rfl⟩
  rw [hbv] at HV HB
  clear hbv
  cases bv
  · refine wp_region_of (by kernel_rfl) (by kernel_rfl) ?_
    repeat (go_big_quiet_step ((first | (go_at_call 28; exact calls_of (HT _)) | (go_at_call 29; exact calls_of (HV _)) | rfl)))
    refine wpQuiet_nil ?_
    intro w5 hw5
    obtain ⟨⟨wx, cx⟩, hwx⟩ := hw5
    have b5 : Below W0.heap.size W0 w5 := by rw [hwx]; exact cx
    replace d0 := bw_call d0 b5
    clear hwx cx wx hne HT HV HEQ hg e0 e1 e2 e3 e4 e5 e6 e7 e8 e9 e10 e11 e12 e13 e14
    go_wp2_with fail
    go_ret
    exact ⟨ret_bool (by rw [HB.out]; rfl), d0⟩
  refine wp_region_of (by kernel_rfl) (by kernel_rfl) ?_
  repeat (go_big_quiet_step ((first | (go_at_call 28; exact calls_of (HT _)) | (go_at_call 29; exact calls_of (HV _)) | rfl)))
  refine wpQuiet_nil ?_
  intro w5 hw5
  obtain ⟨⟨wx, cx⟩, hwx⟩ := hw5
  have b5 : Below W0.heap.size W0 w5 := by rw [hwx]; exact cx
  replace d0 := bw_call d0 b5
  replace k0 := (b5.block _ lw).trans k0
  clear hwx cx wx hne HT HV HEQ hg e0 e1 e2 e3 e4 e5 e6 e7 e8 e9 e10 e11 e12 e13 e14
  replace HB : Hid (msgBy ⟨kd, ds, vw, ⟨sq, cl, tg, ⟨k, nm, ot, at_, va, ep⟩⟩, s, rc, rv⟩ = kindBy ⟨kd, ds, vw, ⟨sq, cl, tg, ⟨k, nm, ot, at_, va, ep⟩⟩, s, rc, rv⟩) := by rw [Hid, HB.out]; rfl
  obtain ⟨⟨hn, ho⟩, -, -, -, fk, fa, fv, fe⟩ := HFT.out
  simp only at hn ho fk fa fv fe
  have p0 := at_cell k0 0
  have p1 := at_cell k0 1
  have p2 := at_cell k0 2
  have p3 := at_cell k0 3
  have p4 := at_cell k0 4
  have p5 := at_cell k0 5
  have p6 := at_cell k0 6
  have p7 := at_cell k0 7
  have p8 := at_cell k0 8
  have p9 := at_cell k0 9
  have p10 := at_cell k0 10
  have p11 := at_cell k0 11
  have p12 := at_cell k0 12
  have p13 := at_cell k0 13
  have p14 := at_cell k0 14
  by_cases h1 : kd = 1
  · subst h1
    go_wp2_with fail
    refine (houseIdOk_any ds _).mono ?_
    rintro e w' ⟨rfl, rfl⟩
    obtain ⟨bd, hbd⟩ : ∃ b, inB ds 0 3 = b := ⟨_, rfl⟩
    have HBD : Hid (inB ds 0 3 = bd) := hbd
    rw [hbd]
    clear hbd
    cases bd
    · go_wp2_with fail
      go_ret
      exact ⟨ret_bool (by rw [HB.out]; simp [kindBy, HBD.out]), d0⟩
    go_wp2_with fail
    refine (askedOk_any sq cl tg k nm ot at_ va ep _ HFT.out).mono ?_
    rintro e w1 ⟨rfl, b1⟩
    replace d0 := bw_call d0 b1
    go_wp2_with fail
    go_ret
    exact ⟨ret_bool (by rw [HB.out]; simp [kindBy, HBD.out]), d0⟩
  by_cases h2 : kd = 2
  · subst h2
    go_wp2_with fail
    refine (houseIdOk_any ds _).mono ?_
    rintro e w' ⟨rfl, rfl⟩
    obtain ⟨bd, hbd⟩ : ∃ b, inB ds 0 3 = b := ⟨_, rfl⟩
    have HBD : Hid (inB ds 0 3 = bd) := hbd
    rw [hbd]
    clear hbd
    cases bd
    · go_wp2_with fail
      go_ret
      exact ⟨ret_bool (by rw [HB.out]; simp [kindBy, HBD.out]), d0⟩
    go_wp2_with fail
    refine (implEntryOk_any sq cl tg k nm ot at_ va ep _ HFT.out).mono ?_
    rintro e w1 ⟨rfl, b1⟩
    replace d0 := bw_call d0 b1
    go_wp2_with fail
    go_ret
    exact ⟨ret_bool (by rw [HB.out]; simp [kindBy, HBD.out]), d0⟩
  by_cases h3 : kd = 3
  · subst h3
    go_wp2_with fail
    refine (houseIdOk_any ds _).mono ?_
    rintro e w' ⟨rfl, rfl⟩
    obtain ⟨bd, hbd⟩ : ∃ b, inB ds 0 3 = b := ⟨_, rfl⟩
    have HBD : Hid (inB ds 0 3 = bd) := hbd
    rw [hbd]
    clear hbd
    cases bd
    · go_wp2_with fail
      go_ret
      exact ⟨ret_bool (by rw [HB.out]; simp [kindBy, HBD.out]), d0⟩
    go_wp2_with fail
    refine (within_any s 1 120 _).mono ?_
    rintro e w' ⟨rfl, rfl⟩
    go_wp2_with fail
    go_ret
    exact ⟨ret_bool (by rw [HB.out]; simp [kindBy, HBD.out]), d0⟩
  by_cases h4 : kd = 4
  · subst h4
    by_cases ht : ds = cl
    case neg =>
      go_wp2_with fail
      go_ret
      exact ⟨ret_bool (by rw [HB.out]; simp [kindBy, ht]), d0⟩
    subst ht
    go_wp2_with fail
    refine (askedOk_any sq ds tg k nm ot at_ va ep _ HFT.out).mono ?_
    rintro e w1 ⟨rfl, b1⟩
    replace d0 := bw_call d0 b1
    have l1 := heap_lt k0
    replace k0 := (b1.block _ l1).trans k0
    obtain ⟨ba, hba⟩ : ∃ b, asked ⟨sq, ds, tg, ⟨k, nm, ot, at_, va, ep⟩⟩ = b := ⟨_, rfl⟩
    have HBA : Hid (asked ⟨sq, ds, tg, ⟨k, nm, ot, at_, va, ep⟩⟩ = ba) := hba
    rw [hba]
    clear hba
    clear p0 p1 p2 p3 p4 p5 p6 p7 p8 p9 p10 p11 p12 p13 p14
    have p0 := at_cell k0 0
    have p1 := at_cell k0 1
    have p2 := at_cell k0 2
    have p3 := at_cell k0 3
    have p4 := at_cell k0 4
    have p5 := at_cell k0 5
    have p6 := at_cell k0 6
    have p7 := at_cell k0 7
    have p8 := at_cell k0 8
    have p9 := at_cell k0 9
    have p10 := at_cell k0 10
    have p11 := at_cell k0 11
    have p12 := at_cell k0 12
    have p13 := at_cell k0 13
    have p14 := at_cell k0 14
    cases ba
    · go_wp2_with fail
      go_ret
      exact ⟨ret_bool (by rw [HB.out]; simp [kindBy, HBA.out]), d0⟩
    go_wp2_with fail
    refine (within_any s 0 120 _).mono ?_
    rintro e w' ⟨rfl, rfl⟩
    obtain ⟨bi, hbi⟩ : ∃ b, inB s 0 120 = b := ⟨_, rfl⟩
    have HBI : Hid (inB s 0 120 = bi) := hbi
    rw [hbi]
    clear hbi
    cases bi
    · go_wp2_with fail
      go_ret
      exact ⟨ret_bool (by rw [HB.out]; simp [kindBy, HBA.out, HBI.out]), d0⟩
    go_wp2_with fail
    refine (implReplyOk_any rc rv _).mono ?_
    rintro e w2 ⟨rfl, b2⟩
    replace d0 := bw_call d0 b2
    go_wp2_with fail
    go_ret
    exact ⟨ret_bool (by rw [HB.out]; simp [kindBy, HBA.out, HBI.out]), d0⟩
  go_wp2_with fail
  go_ret
  exact ⟨ret_bool (by rw [HB.out]; simp [kindBy, h1, h2, h3, h4]), d0⟩
end Go.Proofs.Ytgabhnhfomekfaa

