/-
  Chapter 10: the program's ReplyOk, ShowReply and ReadReply, at every argument.
-/
import Derived.Test.YtdkciaeibkhbgaaRep1
import Derived.Test.YtdkciaeibkhbgaaRows5
import Derived.Deep.DeepCutAuto
import Derived.Deep.RegionHeld3
import Derived.Test.YtdkciaeibkhbgaaSteps
namespace Go.Proofs.Ytdkciaeibkhbgaa
open Go.RowKit
set_option linter.unusedVariables false
set_option maxRecDepth 100000

theorem within_rep (x lo hi : Int) (w : World) :
    Calls Try.prog 43 #[.int .i64 x, .int .i64 lo, .int .i64 hi] w fun e w' => e = .returned (.bool (inB x lo hi)) ∧ w' = w := by
  by_cases h : lo ≤ x
  · go_enter Try.func43, Try.ntmps43
    go_wp2
    go_ret
    exact ⟨ret_bool (by simp [inB, h]), rfl⟩
  · go_enter Try.func43, Try.ntmps43
    go_wp2
    go_ret
    exact ⟨ret_bool (by simp [inB]; omega), rfl⟩

theorem implReplyOk_any (c v : Int) (w : World) :
    Calls Try.prog 21 #[.agg #[.int .i64 c, .int .i64 v]] w fun e w' => e = .returned (.bool (repOk c v)) ∧ Below w.heap.size w w' := by
  obtain ⟨W0, hW0, k0, d0, z0⟩ := box1 w #[.int .i64 c, .int .i64 v] 42
  have HW0 : Hid (W0 = _) := hW0
  have p0 := at_cell k0 0
  have p1 := at_cell k0 1
  have HB : Hid (repOk c v = (inB c 0 9 && inB v 0 (if c = 0 then 1000 else 0))) := repOk_by c v
  clear hW0 k0
  by_cases h0 : c = 0
  · subst h0
    rw [if_pos rfl] at HB
    go_enter Try.func21, Try.ntmps21
    go_wp2_with fail
    rw [← HW0.out]
    clear HW0
    refine (within_rep 0 0 9 _).mono ?_
    have hin : inB 0 0 9 = true := rfl
    rw [hin] at HB ⊢
    rintro e w' ⟨rfl, rfl⟩
    clear hin
    go_wp2_with fail
    refine (within_rep v 0 1000 _).mono ?_
    generalize inB v 0 1000 = b1 at *
    rintro e w' ⟨rfl, rfl⟩
    go_wp2_with fail
    go_ret
    exact ⟨ret_bool (by rw [HB.out]; rfl), d0⟩
  · rw [if_neg h0] at HB
    go_enter Try.func21, Try.ntmps21
    go_wp2_with fail
    rw [← HW0.out]
    clear HW0 h0
    refine (within_rep c 0 9 _).mono ?_
    generalize inB c 0 9 = b0 at *
    rintro e w' ⟨rfl, rfl⟩
    cases b0
    · go_wp2_with fail
      go_ret
      exact ⟨ret_bool (by rw [HB.out]; rfl), d0⟩
    go_wp2_with fail
    refine (within_rep v 0 0 _).mono ?_
    generalize inB v 0 0 = b1 at *
    rintro e w' ⟨rfl, rfl⟩
    go_wp2_with fail
    go_ret
    exact ⟨ret_bool (by rw [HB.out]; rfl), d0⟩

theorem implShowReply_any (c v : Int) (w : World) :
    Calls Try.prog 16 #[.agg #[.int .i64 c, .int .i64 v]] w fun e w' => e = .returned (.string (showRep c v)) ∧ Below w.heap.size w w' := by
  obtain ⟨W0, hW0, k0, d0, z0⟩ := box1 w #[.int .i64 c, .int .i64 v] 42
  have HW0 : Hid (W0 = _) := hW0
  have s0 := heap_lt k0
  clear hW0 z0
  go_enter Try.func16, Try.ntmps16
  go_wp2_with fail
  rw [← HW0.out]
  clear HW0
  refine (implReplyOk_any c v _).mono ?_
  rintro e w1 ⟨rfl, b1⟩
  replace k0 := (b1.block _ s0).trans k0
  replace d0 := bw_call d0 b1
  have t0 := heap_lt k0
  clear b1
  cases h : repOk c v
  · have HV : Hid (showRep c v = ByteArray.empty) := by rw [Hid, showRep, if_neg (by rw [h]; decide)]
    clear h
    go_wp2_with fail
    go_ret
    exact ⟨by rw [HV.out]; rfl, d0⟩
  · obtain ⟨hc, hv⟩ := repOk_bd c v h
    have HE : Hid (showRep c v = Nums.showS c 1 ++ Nums.showS v 2) := by rw [Hid, showRep, if_pos h]; rfl
    have q0 := BelowOf.cell (v := .int .i64 c) (at_cell k0 0) t0
    have q1 := BelowOf.cell (v := .int .i64 v) (at_cell k0 1) t0
    have hne := BelowOf.any w1
    have H1 : ∀ q : BelowOf w1, Calls Try.prog 36 #[.int .i64 c, .int .i64 1] q.w' fun e w' => e = .returned (.string (Nums.showS c 1)) ∧ Below q.w'.heap.size q.w' w' := fun q => implShow_any c 1 q.w' (by omega)
    have H2 : ∀ q : BelowOf w1, Calls Try.prog 36 #[.int .i64 v, .int .i64 2] q.w' fun e w' => e = .returned (.string (Nums.showS v 2)) ∧ Below q.w'.heap.size q.w' w' := fun q => implShow_any v 2 q.w' (by omega)
    have l1 := showS_len _ _ (ok1 c (by omega))
    have l2 := showS_len _ _ (ok2 v (by omega))
    generalize Nums.showS c 1 = s1 at *
    generalize Nums.showS v 2 = s2 at *
    clear k0 h
    go_wp2_with fail
    refine wp_region_of (by kernel_rfl) (by kernel_rfl) ?_
    repeat (go_big_quiet_step ((first | (go_at_call 36; with_reducible exact calls_of (H1 _)) | (go_at_call 36; with_reducible exact calls_of (H2 _)) | rfl)))
    refine wpQuiet_nil ?_
    intro w5 hw5
    obtain ⟨⟨wx, cx⟩, hwx⟩ := hw5
    have b5 : Below w1.heap.size w1 w5 := by rw [hwx]; exact cx
    clear hwx cx wx hne q0 q1 H1 H2
    replace d0 := bw_call d0 b5
    go_wp2_with fail
    go_ret
    exact ⟨by rw [HE.out]; rfl, d0⟩

/-- make([]int64, 0, 2). -/
theorem made_two : ∃ M : Array Value, (∀ W : World, (Instr.makeSlice 24 (.int .i64 0) (.int .i64 2)).run Try.prog W = .ok (.slice (some ⟨W.heap.size, 0, none⟩) 0 2) (W.alloc (.cells M 2))) ∧
    ∀ (W : World) (base : Nat), base ≤ W.heap.size → (W.alloc (.cells M 2)).ownsRow base 2 1 (.slice (some ⟨W.heap.size, 0, none⟩) 0 2) 0 [] := by
  obtain ⟨i0, hi, hz0, hz1, hz2⟩ := info_parts Try.infoI64
  refine ⟨madeCells (Value.int .i64 0).cells (2 * 1), fun W => ?_, fun W base hb => ?_⟩
  · have h := run_make (P := Try.prog) W 24 2 i0 (.int .i64 0) Try.underlying24 hi hz0 .i64 .i64 0 2 (by omega) (by omega) (by rw [hz2]; omega) (by omega)
    rw [hz1] at h
    simpa using h
  · exact ⟨rfl, .inr ⟨_, 2, _, rfl, hb, heap_alloc_new W _, Nat.zero_le _, by unfold maxLen; omega, by rw [size_madeCells], by simp⟩⟩

/-- The two numbers, where there are three bytes. -/
theorem okRead_a (s : ByteArray) : Nums.okRead s 0 1 = decide (1 ≤ s.size) := by
  rw [Bool.eq_iff_iff, Nums.okRead_iff, decide_eq_true_eq]; omega
theorem okRead_b (s : ByteArray) : Nums.okRead s 1 2 = decide (3 ≤ s.size) := by
  rw [Bool.eq_iff_iff, Nums.okRead_iff, decide_eq_true_eq]; omega

set_option maxHeartbeats 3200000 in
theorem numbersOf_two (s : ByteArray) (b : Nat) (w : World) (hs : s.size ≤ 1099511627776) (kb : w.heap[b]? = some (.cells #[.int .i64 1, .int .i64 2] 2 (0, 0))) :
    Calls Try.prog 40 #[.string s, .slice (some ⟨b, 0, none⟩) 2 2] w fun e w' => ∃ v, e = .returned (.tuple #[v, .bool (decide (s.size = 3))]) ∧ (s.size = 3 → w'.ownsRow w.heap.size 2 1 v 2 [.int .i64 (Nums.readN s 0 1), .int .i64 (Nums.readN s 1 2)]) ∧ Below w.heap.size w w' := by
  obtain ⟨i0, hI, hz0, hz1, hz2⟩ := info_parts Try.infoI64
  have hs2 : s.size ≤ maxLen := by unfold maxLen; omega
  obtain ⟨M, hmk, hown⟩ := made_two
  have own0 := hown w w.heap.size (Nat.le_refl _)
  have d0 : Below w.heap.size w (w.alloc (.cells M 2)) := bw_alloc (Below.refl _ _)
  have RA : ∀ W : World, Calls Try.prog 72 #[.string s, .int .i64 0, .int .i64 1] W fun e w' => e = .returned (.tuple #[.int .i64 (Nums.readN s 0 1), .bool (decide (1 ≤ s.size))]) ∧ w' = W := fun W => by have h := implRead_any s 0 1 W hs2 (by omega); rwa [okRead_a] at h
  have RB : ∀ W : World, Calls Try.prog 72 #[.string s, .int .i64 1, .int .i64 2] W fun e w' => e = .returned (.tuple #[.int .i64 (Nums.readN s 1 2), .bool (decide (3 ≤ s.size))]) ∧ w' = W := fun W => by have h := implRead_any s 1 2 W hs2 (by omega); rwa [okRead_b] at h
  generalize Nums.readN s 0 1 = c at *
  generalize Nums.readN s 1 2 = v at *
  have HRA : Hid _ := RA
  have HRB : Hid _ := RB
  clear hown RA RB
  go_enter Try.func40, Try.ntmps40
  go_wp2_with fail
  clear hmk
  generalize w.alloc (.cells M 2) = W1 at own0 d0 ⊢
  go_loopw [6, 7, 17] (fun q a' i' wr => Below w.heap.size w wr ∧ ((i' = .int .i64 0 ∧ a' = .int .i64 0 ∧ ∃ o cp : Nat, q = .slice (some ⟨o, 0, none⟩) 0 cp ∧ wr.ownsRow w.heap.size 2 1 q 0 []) ∨ (i' = .int .i64 1 ∧ a' = .int .i64 1 ∧ ∃ o cp : Nat, q = .slice (some ⟨o, 0, none⟩) 1 cp ∧ wr.ownsRow w.heap.size 2 1 q 1 [.int .i64 c]) ∨ (i' = .int .i64 2 ∧ a' = .int .i64 3 ∧ 3 ≤ s.size ∧ ∃ o cp : Nat, q = .slice (some ⟨o, 0, none⟩) 2 cp ∧ wr.ownsRow w.heap.size 2 1 q 2 [.int .i64 c, .int .i64 v]))) (fun _ _ i' _ => 2 - (intOf i').toNat)
  case atStart => exact ⟨d0, .inl ⟨rfl, rfl, _, _, rfl, own0⟩⟩
  case round =>
    clear own0 d0
    obtain ⟨hb, hrel⟩ := hrel
    have kr := (hb.block _ (heap_lt kb)).trans kb
    have c0 := at_cell kr 0
    have c1 := at_cell kr 1
    rcases hrel with ⟨rfl, rfl, o, cp, rfl, ow⟩ | ⟨rfl, rfl, o, cp, rfl, ow⟩ | ⟨rfl, rfl, h3, o, cp, rfl, ow⟩
    · have HB : Hid (Below w.heap.size w wr) := hb
      have HOW : Hid (wr.ownsRow w.heap.size 2 1 (.slice (some ⟨o, 0, none⟩) 0 cp) 0 []) := ow
      clear hb ow kr
      go_wp2_with fail
      refine (HRA.out _).mono ?_
      rintro e wx ⟨rfl, rfl⟩
      by_cases hq : 1 ≤ s.size
      · rw [decide_eq_true hq]
        have ow := HOW.out
        have hb := HB.out
        have hbs := hb.size
        have hgl := fun q hq => (ow.lt q hq).1
        clear c0 c1 HRA HRB
        go_wp2_with (at_builtin; refine wpList_append_own _ rfl _ _ 24 rfl w.heap.size 2 i0 (.int .i64 0) 1 8 Try.underlying24 hI hz0 hz1 hz2 rfl (by decide) _ _ _ rfl (ow.alloc _) ⟨wx.heap.size, 0, none⟩ 1 1 [.int .i64 c] rfl rfl ?c1 ?c2 ?c3 ?c4 ?c5 ?_)
        case c1 => exact new_one _ _ _
        case c2 => first | rfl | (intro u hu; simp only [List.mem_singleton] at hu; subst hu; rfl)
        case c3 => unfold maxLen; omega
        case c4 => omega
        case c5 => simp; omega
        intro v' w6 hown' hgrow' hnil'
        obtain ⟨g', cp', hv'⟩ : ∃ g' cp', v' = .slice (some ⟨g', 0, none⟩) 1 cp' := owns_form hown'
        subst hv'
        have hb6 : Below w.heap.size w w6 := (bw_alloc hb).grown hgrow' (by simp; omega) hgl
        have HO : Hid _ := And.intro hb6 hown'
        clear hown' hgrow' hnil' hb6 ow hb hgl
        go_wp2_with fail
        go_roundw
        case rel => exact ⟨HO.out.1, .inr (.inl ⟨rfl, rfl, _, _, rfl, HO.out.2⟩)⟩
        case measure => simp [intOf]
      · rw [decide_eq_false hq]
        have hn3 : ¬ s.size = 3 := by omega
        have HD : Hid (decide (s.size = 3) = false) := decide_eq_false hn3
        have hb2 := bw_alloc (o := .cells #[] 2) HB.out
        clear c0 c1 HRA HRB
        go_wp2_with fail
        exact bodyPost_ret (v := .tuple #[_, .bool false]) (by simp [results, Try.results40, go_sem]; rfl) rfl ⟨_, by rw [HD.out], fun h => absurd h hn3, by first | exact HB.out | exact hb2 | go_grown⟩
    · have HB : Hid (Below w.heap.size w wr) := hb
      have HOW : Hid (wr.ownsRow w.heap.size 2 1 (.slice (some ⟨o, 0, none⟩) 1 cp) 1 [.int .i64 c]) := ow
      clear hb ow kr
      go_wp2_with fail
      refine (HRB.out _).mono ?_
      rintro e wx ⟨rfl, rfl⟩
      by_cases hq : 3 ≤ s.size
      · rw [decide_eq_true hq]
        have ow := HOW.out
        have hb := HB.out
        have hbs := hb.size
        have hgl := fun q hq => (ow.lt q hq).1
        clear c0 c1 HRA HRB
        go_wp2_with (at_builtin; refine wpList_append_own _ rfl _ _ 24 rfl w.heap.size 2 i0 (.int .i64 0) 1 8 Try.underlying24 hI hz0 hz1 hz2 rfl (by decide) _ _ _ rfl (ow.alloc _) ⟨wx.heap.size, 0, none⟩ 1 1 [.int .i64 v] rfl rfl ?y1 ?y2 ?y3 ?y4 ?y5 ?_)
        case y1 => exact new_one _ _ _
        case y2 => first | rfl | (intro u hu; simp only [List.mem_singleton] at hu; subst hu; rfl)
        case y3 => unfold maxLen; omega
        case y4 => omega
        case y5 => simp; omega
        intro v' w6 hown' hgrow' hnil'
        obtain ⟨g', cp', hv'⟩ : ∃ g' cp', v' = .slice (some ⟨g', 0, none⟩) 2 cp' := owns_form hown'
        subst hv'
        have hb6 : Below w.heap.size w w6 := (bw_alloc hb).grown hgrow' (by simp; omega) hgl
        have HO : Hid _ := And.intro hb6 hown'
        clear hown' hgrow' hnil' hb6 ow hb hgl
        go_wp2_with fail
        go_roundw
        case rel => exact ⟨HO.out.1, .inr (.inr ⟨rfl, rfl, hq, _, _, rfl, HO.out.2⟩)⟩
        case measure => simp [intOf]
      · rw [decide_eq_false hq]
        have hn3 : ¬ s.size = 3 := by omega
        have HD : Hid (decide (s.size = 3) = false) := decide_eq_false hn3
        have hb2 := bw_alloc (o := .cells #[] 2) HB.out
        clear c0 c1 HRA HRB
        go_wp2_with fail
        exact bodyPost_ret (v := .tuple #[_, .bool false]) (by simp [results, Try.results40, go_sem]; rfl) rfl ⟨_, by rw [HD.out], fun h => absurd h hn3, by first | exact HB.out | exact hb2 | go_grown⟩
    · have HB : Hid (Below w.heap.size w wr) := hb
      have HOW : Hid (wr.ownsRow w.heap.size 2 1 (.slice (some ⟨o, 0, none⟩) 2 cp) 2 [.int .i64 c, .int .i64 v]) := ow
      have HD : Hid (decide (s.size = 3) = decide ((3 : Int) = (s.size : Int))) := by rw [Hid, decide_eq_decide]; omega
      clear hb ow kr c0 c1 HRA HRB
      go_wp2_with fail
      exact bodyPost_ret (v := .tuple #[.slice (some ⟨o, 0, none⟩) 2 cp, .bool ((3 : Int) == (s.size : Int))]) (by simp [results, Try.results40, go_sem]) rfl ⟨_, by rw [HD.out]; rfl, fun _ => HOW.out, HB.out⟩

set_option maxHeartbeats 3200000 in
theorem implReadReply_any (s : ByteArray) (w : World) (hs : s.size ≤ 1099511627776) :
    Calls Try.prog 18 #[.string s] w fun e w' => e = .returned (.tuple #[.agg #[.int .i64 (readRep s).1.1, .int .i64 (readRep s).1.2], .bool (readRep s).2]) ∧ Below w.heap.size w w' := by
  obtain ⟨W0, hW0, k0, k1, d0, q0⟩ := box2 w #[.int .i64 0, .int .i64 0] #[.int .i64 1, .int .i64 2] 42 2
  have HW0 : Hid (W0 = _) := hW0
  have HK1 : Hid (W0.heap[w.heap.size + 1]? = some (.cells #[.int .i64 1, .int .i64 2] 2 (0, 0))) := k1
  have HV : Hid (readRep s = if s.size = 3 ∧ repOk (Nums.readN s 0 1) (Nums.readN s 1 2) = true then ((Nums.readN s 0 1, Nums.readN s 1 2), true) else ((0, 0), false)) := rfl
  clear hW0 k1
  go_enter Try.func18, Try.ntmps18
  go_wp2_with fail
  rw [← HW0.out]
  clear HW0
  refine (numbersOf_two s (w.heap.size + 1) W0 hs HK1.out).mono ?_
  clear HK1
  rintro e w1 ⟨vv, rfl, hown, b1⟩
  have s0 := heap_lt k0
  replace k0 := (b1.block _ s0).trans k0
  replace d0 := bw_call d0 b1
  clear b1 s0
  by_cases h3 : ¬ s.size = 3
  · have HV2 : Hid (readRep s = ((0, 0), false)) := by rw [Hid, HV.out, if_neg (fun h => h3 h.1)]
    rw [decide_eq_false h3]
    have f0 := at_open k0 0
    have f1 := at_open k0 1
    have g0 := at_cell k0 0
    have g1 := at_cell k0 1
    have HS : Hid _ := set_rep k0 d0 (Nat.le_refl _) (.int .i64 0) (.int .i64 0)
    clear k0 d0 HV hown h3
    go_wp2_with fail
    exact bodyPost_ret (v := .tuple #[.agg #[.int .i64 0, .int .i64 0], .bool false]) (by simp [results, Try.results18, go_sem, at_cell HS.out.1]) rfl ⟨by rw [HV2.out], HS.out.2⟩
  have h3' : s.size = 3 := by omega
  rw [decide_eq_true h3']
  have ow := hown h3'
  clear hown h3
  generalize Nums.readN s 0 1 = c at *
  generalize Nums.readN s 1 2 = v at *
  obtain ⟨g, cp, rfl⟩ : ∃ g' cp', vv = .slice (some ⟨g', 0, none⟩) 2 cp' := owns_form ow
  have oc := ow.cells (g := g) rfl
  have c0 : w1.cell? ⟨g, 0, none⟩ = some (.int .i64 c) := by have h := oc 0 _ rfl; rwa [addr_add] at h
  have c1 : w1.cell? ⟨g, 1, none⟩ = some (.int .i64 v) := by have h := oc 1 _ rfl; rwa [addr_add] at h
  have hgl := (ow.lt g rfl).2
  clear oc
  have HOW : Hid _ := ow
  clear ow
  go_upto_region 4 with fail
  have e0 : w1.drew.cell? ⟨g, 0, none⟩ = some (.int .i64 c) := c0
  have e1 : w1.drew.cell? ⟨g, 1, none⟩ = some (.int .i64 v) := c1
  go_region_law (fail)
  all_goals
    clear c0 c1 e0 e1 HOW hgl
    go_wp2_with fail
    have bb : Below w1.heap.size w1 (w1.alloc (.cells #[.int .i64 c, .int .i64 v] 42)).drew := bw_drew (bw_alloc (Below.refl _ _))
    have k1 : (w1.alloc (.cells #[.int .i64 c, .int .i64 v] 42)).drew.heap[w1.heap.size]? = some (.cells #[.int .i64 c, .int .i64 v] 42 (0, 0)) := heap_alloc_new w1 _
    have kz := (bb.block _ (heap_lt k0)).trans k0
    have dd := bw_call d0 bb
    generalize (w1.alloc (.cells #[.int .i64 c, .int .i64 v] 42)).drew = W2 at *
    clear k0 d0 bb
    generalize w1.heap.size = n1 at *
    refine (implReplyOk_any c v _).mono ?_
    rintro e w5 ⟨rfl, b1⟩
    replace kz := (b1.block _ (heap_lt kz)).trans kz
    replace k1 := (b1.block _ (heap_lt k1)).trans k1
    replace dd := bw_call dd b1
    clear b1
    have f0 := at_open kz 0
    have f1 := at_open kz 1
    have g0 := at_cell kz 0
    have g1 := at_cell kz 1
    generalize repOk c v = q at *
    cases q
    · have HV2 : Hid (readRep s = ((0, 0), false)) := by rw [Hid, HV.out, if_neg (fun h => by cases h.2)]
      have HS : Hid _ := set_rep kz dd (Nat.le_refl _) (.int .i64 0) (.int .i64 0)
      clear kz k1 dd HV
      go_wp2_with fail
      exact bodyPost_ret (v := .tuple #[.agg #[.int .i64 0, .int .i64 0], .bool false]) (by simp [results, Try.results18, go_sem, at_cell HS.out.1]) rfl ⟨by rw [HV2.out], HS.out.2⟩
    · have HV2 : Hid (readRep s = ((c, v), true)) := by rw [Hid, HV.out, if_pos ⟨h3', rfl⟩]
      have HS : Hid _ := set_rep kz dd (Nat.le_refl _) (.int .i64 c) (.int .i64 v)
      have r0 := at_cell k1 0
      have r1 := at_cell k1 1
      clear kz k1 dd HV
      go_wp2_with fail
      exact bodyPost_ret (v := .tuple #[.agg #[.int .i64 c, .int .i64 v], .bool true]) (by simp [results, Try.results18, go_sem, at_cell HS.out.1]) rfl ⟨by rw [HV2.out], HS.out.2⟩

end Go.Proofs.Ytdkciaeibkhbgaa
