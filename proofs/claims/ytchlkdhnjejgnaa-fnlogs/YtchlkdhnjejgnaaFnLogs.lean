/-
  The law FnLogs answers true at every input that the row speaks of, and its arguments read afterwards as before; the walk goes over the callees' contracts.
-/
import Derived.Test.YtchlkdhnjejgnaaRows
import Derived.WalkKit
import Derived.Test.YtchlkdhnjejgnaaDrawEnt3
import Derived.Test.YtchlkdhnjejgnaaImEnt2
import Derived.Test.YtchlkdhnjejgnaaDrawNum
import Derived.ProofKit
import Derived.OpenShut
import Derived.ShutString
import Derived.ChangeOld
import Derived.Below
namespace Go.Proofs.Ytchlkdhnjejgnaa.fnLogs
open Go.ChangeShapes Go.WideShapes Go.ChangeAt Go.RowKit
open Go.ChangeMaps (open_string shut_string)
set_option linter.unusedVariables false

theorem own : ownKnob Try.prog.godebug = none := by kernel_rfl
theorem laidOut : laidOutB Try.prog = true := by kernel_rfl

def IsRow (k : IntKind) (w : World) (a : Option Addr) (len cap : Nat) (zs : List Int) : Prop :=
  (a = none ∧ len = 0 ∧ cap = 0 ∧ zs = []) ∨
  ∃ x, a = some x ∧ len ≤ cap ∧ cap ≤ maxLen ∧ zs.length = cap ∧ (∀ i, i < zs.length → w.cell? (x.add i) = some (.int k (zs.getD i 0))) ∧ ∀ n ∈ zs, (Lit.int k n).wf = true

set_option maxRecDepth 100000 in
set_option maxHeartbeats 8000000 in
theorem walk (a0 : Option Addr) (len0 cap0 : Nat) (z0 : List Int) (w : World) (w0 : IsRow .u8 w a0 len0 cap0 z0) :
    Calls Try.prog 4 #[.slice a0 len0 cap0] w fun e w' => e = .returned (.bool true) ∧ Below w.heap.size w w' := by
  have hs : Src w w.heap.size a0 len0 := src_of w0
  have hm := hs.1
  by_cases hbig : (4096 : Int) < (len0 : Int)
  · have hd : decide ((4096 : Int) < (len0 : Int)) = true := by simpa using hbig
    go_enter Try.func4, Try.ntmps4
    go_wp2_with (go_at_call 9; refine (big_any _ _ _ _ hm).mono ?_; rintro e w' ⟨rfl, rfl⟩)
    go_ret
    exact ⟨rfl, Below.refl _ _⟩
  have hd : decide ((4096 : Int) < (len0 : Int)) = false := by simpa using hbig
  have y0 : w.heap.size ≤ w.heap.size := Nat.le_refl _
  clear w0
  go_enter Try.func4, Try.ntmps4
  go_wp2_with fail
  refine (big_any _ _ _ _ hm).mono ?_
  rintro e w' ⟨rfl, rfl⟩
  go_wp2_with fail
  refine (drawBegins_any _ _ _ _ hs).mono ?_
  rintro e w1 ⟨va, vb, la, lb, rfl, ⟨ra, fa, na⟩, ⟨rb, fb, nb⟩, d⟩
  replace hs := hs.below d
  replace y0 := d.size
  have ya : w1.heap.size ≤ w1.heap.size := Nat.le_refl _
  have yb : w1.heap.size ≤ w1.heap.size := Nat.le_refl _
  obtain ⟨oa, ca, ea⟩ := ra.form
  subst ea
  obtain ⟨ob, cb, eb⟩ := rb.form
  subst eb
  obtain ⟨isv, his⟩ : ∃ x, begins la lb = x := ⟨_, rfl⟩
  have HIS : Hid (begins la lb = isv) := his
  clear his
  go_wp2_with fail
  refine (implBegins_any _ _ la lb _ fa fb (ra.mono ya) (rb.mono yb)).mono ?_
  rw [HIS.out]
  rintro e w2 ⟨rfl, b⟩
  replace d := bw_call d b
  replace hs := hs.below (b.mono y0)
  replace y0 := Nat.le_trans y0 b.size
  replace ra := ra.below (b.mono ya)
  replace ya := Nat.le_trans ya b.size
  replace rb := rb.below (b.mono yb)
  replace yb := Nat.le_trans yb b.size
  clear b
  go_wp2_with fail
  refine (drawSeqOf_any _ _ _ _ (hs.mono y0)).mono ?_
  rintro e w3 ⟨vl, l, c, t, rfl, rl, fl, nl, b⟩
  replace d := bw_call d b
  replace hs := hs.below (b.mono y0)
  replace y0 := Nat.le_trans y0 b.size
  replace ra := ra.below (b.mono ya)
  replace ya := Nat.le_trans ya b.size
  replace rb := rb.below (b.mono yb)
  replace yb := Nat.le_trans yb b.size
  clear b
  have yl : w3.heap.size ≤ w3.heap.size := Nat.le_refl _
  obtain ⟨ol, cl0, el⟩ := rl.form
  subst el
  obtain ⟨n, hn⟩ : ∃ x, seqOf l c t = x := ⟨_, rfl⟩
  have HNN : Hid (seqOf l c t = n) := hn
  clear hn
  go_wp2_with fail
  refine (implSeqOf_any _ l c t _ fl (rl.mono yl)).mono ?_
  rw [HNN.out]
  rintro e w4 ⟨rfl, b⟩
  replace d := bw_call d b
  replace hs := hs.below (b.mono y0)
  replace y0 := Nat.le_trans y0 b.size
  replace ra := ra.below (b.mono ya)
  replace ya := Nat.le_trans ya b.size
  replace rb := rb.below (b.mono yb)
  replace yb := Nat.le_trans yb b.size
  replace rl := rl.below (b.mono yl)
  replace yl := Nat.le_trans yl b.size
  clear b
  go_wp2_with fail
  refine (drawEntryOk_any _ _ _ _ (hs.mono y0)).mono ?_
  rintro e w5 ⟨⟨sq, ecl, tg, ⟨k, nm, ot, at_, va, ep⟩⟩, rfl, fe, b⟩
  replace d := bw_call d b
  replace hs := hs.below (b.mono y0)
  replace y0 := Nat.le_trans y0 b.size
  replace ra := ra.below (b.mono ya)
  replace ya := Nat.le_trans ya b.size
  replace rb := rb.below (b.mono yb)
  replace yb := Nat.le_trans yb b.size
  replace rl := rl.below (b.mono yl)
  replace yl := Nat.le_trans yl b.size
  clear b
  clear hs y0
  simp only
  have ffe := fe.fit
  have fhn : nm.size ≤ maxLen := ffe.1.1
  have fho : ot.size ≤ maxLen := ffe.1.2
  obtain ⟨oke, hoke⟩ : ∃ x, entOk ⟨sq, ecl, tg, ⟨k, nm, ot, at_, va, ep⟩⟩ = x := ⟨_, rfl⟩
  have HOKE : Hid (entOk ⟨sq, ecl, tg, ⟨k, nm, ot, at_, va, ep⟩⟩ = oke) := hoke
  obtain ⟨okl, hokl⟩ : ∃ x, logOk l = x := ⟨_, rfl⟩
  have HOKL : Hid (logOk l = okl) := hokl
  clear hoke hokl fe
  have b : Below w5.heap.size w5 (w5.alloc (.cells #[.int .i64 sq, .int .i64 ecl, .int .i64 tg, .int .i64 k, .string nm, .string ot, .int .i64 at_, .int .i64 va, .int .i64 ep] 56)) := bw_alloc (Below.refl _ _)
  have kO := heap_alloc_new w5 (.cells #[.int .i64 sq, .int .i64 ecl, .int .i64 tg, .int .i64 k, .string nm, .string ot, .int .i64 at_, .int .i64 va, .int .i64 ep] 56)
  have sO : w5.heap.size < (w5.alloc (.cells #[.int .i64 sq, .int .i64 ecl, .int .i64 tg, .int .i64 k, .string nm, .string ot, .int .i64 at_, .int .i64 va, .int .i64 ep] 56)).heap.size := by simp
  replace d := bw_call d b
  replace ra := ra.below (b.mono ya)
  replace ya := Nat.le_trans ya b.size
  replace rb := rb.below (b.mono yb)
  replace yb := Nat.le_trans yb b.size
  replace rl := rl.below (b.mono yl)
  replace yl := Nat.le_trans yl b.size
  clear b
  go_upto_region 8 with fail
  generalize w5.alloc (.cells #[.int .i64 sq, .int .i64 ecl, .int .i64 tg, .int .i64 k, .string nm, .string ot, .int .i64 at_, .int .i64 va, .int .i64 ep] 56) = W5 at *
  generalize w5.heap.size = nO at *
  have hne := BelowOf.any W5
  have pO0 := BelowOf.cell (at_cell kO 0) sO
  have pO1 := BelowOf.cell (at_cell kO 1) sO
  have pO2 := BelowOf.cell (at_cell kO 2) sO
  have pO3 := BelowOf.cell (at_cell kO 3) sO
  have pO4 := BelowOf.cell (at_cell kO 4) sO
  have pO5 := BelowOf.cell (at_cell kO 5) sO
  have pO6 := BelowOf.cell (at_cell kO 6) sO
  have pO7 := BelowOf.cell (at_cell kO 7) sO
  have pO8 := BelowOf.cell (at_cell kO 8) sO
  have H1 : ∀ q : BelowOf W5, Calls Try.prog 21 #[.slice oa la.length ca, .slice ob lb.length cb] q.w' fun e w' => e = .returned (.bool isv) ∧ Below q.w'.heap.size q.w' w' := fun q => by have h := specBegins_any _ _ la lb q.w' fa fb (ra.of ya q) (rb.of yb q); rwa [HIS.out] at h
  have H2 : ∀ q : BelowOf W5, Calls Try.prog 22 #[.slice ol l.length cl0, .int .i64 c, .int .i64 t] q.w' fun e w' => e = .returned (.int .i64 n) ∧ Below q.w'.heap.size q.w' w' := fun q => by have h := specSeqOf_any _ l c t q.w' fl (rl.of yl q); rwa [HNN.out] at h
  have H3 : ∀ q : BelowOf W5, Calls Try.prog 23 #[.slice ol l.length cl0] q.w' fun e w' => e = .returned (.bool okl) ∧ Below q.w'.heap.size q.w' w' := fun q => by have h := implLogOk_any _ l q.w' fl (rl.of yl q); rwa [HOKL.out] at h
  have H4 : ∀ q : BelowOf W5, Calls Try.prog 24 #[.slice ol l.length cl0] q.w' fun e w' => e = .returned (.bool okl) ∧ Below q.w'.heap.size q.w' w' := fun q => by have h := specLogOk_any _ l q.w' fl (rl.of yl q); rwa [HOKL.out] at h
  have H5 : ∀ q : BelowOf W5, Calls Try.prog 25 #[.agg #[.int .i64 sq, .int .i64 ecl, .int .i64 tg, .int .i64 k, .string nm, .string ot, .int .i64 at_, .int .i64 va, .int .i64 ep]] q.w' fun e w' => e = .returned (.bool oke) ∧ Below q.w'.heap.size q.w' w' := fun q => by have h := implEntryOk_any sq ecl tg k nm ot at_ va ep q.w' ffe; rwa [HOKE.out] at h
  have H6 : ∀ q : BelowOf W5, Calls Try.prog 26 #[.agg #[.int .i64 sq, .int .i64 ecl, .int .i64 tg, .int .i64 k, .string nm, .string ot, .int .i64 at_, .int .i64 va, .int .i64 ep]] q.w' fun e w' => e = .returned (.bool oke) ∧ Below q.w'.heap.size q.w' w' := fun q => by have h := specEntryOk_any sq ecl tg k nm ot at_ va ep q.w' fhn fho; rwa [HOKE.out] at h
  have j1 : (isv != isv) = false := by simp
  have j2 : (n != n) = false := by simp
  have j3 : (okl != okl) = false := by simp
  have j4 : (oke != oke) = false := by simp
  refine wp_region_of (by kernel_rfl) (by kernel_rfl) ?_
  repeat (go_big_quiet_step ((first | (go_at_call 21; exact calls_of (H1 _)) | (go_at_call 22; exact calls_of (H2 _)) | (go_at_call 23; exact calls_of (H3 _)) | (go_at_call 24; exact calls_of (H4 _)) | (go_at_call 25; exact calls_of (H5 _)) | (go_at_call 26; exact calls_of (H6 _)) | rfl)))
  refine wpQuiet_nil ?_
  intro w6 hw6
  obtain ⟨⟨wx, cx⟩, hwx⟩ := hw6
  have b : Below W5.heap.size W5 w6 := by rw [hwx]; exact cx
  clear hwx cx wx hne pO0 pO1 pO2 pO3 pO4 pO5 pO6 pO7 pO8 H1 H2 H3 H4 H5 H6 HOKE
  replace d := bw_call d b
  replace ra := ra.below (b.mono ya)
  replace ya := Nat.le_trans ya b.size
  replace rb := rb.below (b.mono yb)
  replace yb := Nat.le_trans yb b.size
  replace rl := rl.below (b.mono yl)
  replace yl := Nat.le_trans yl b.size
  replace kO := (b.block _ sO).trans kO
  replace sO := Nat.lt_of_lt_of_le sO b.size
  clear b
  clear kO sO
  go_upto_region 10 with fail
  go_cut [80] (fun v wx => v = .bool false ∧ Below w6.heap.size w6 wx)
  case first =>
    have HAA : Hid (begins la la = logOk la) := begins_self la
    obtain ⟨lka, hlka⟩ : ∃ x, logOk la = x := ⟨_, rfl⟩
    have HLKA : Hid (logOk la = lka) := hlka
    clear hlka
    have j5 : (lka != lka) = false := by simp
    cases isv
    · go_wp2_with fail
      refine (specLogOk_any _ la _ fa (ra.mono ya)).mono ?_
      rw [HLKA.out]
      rintro e w7 ⟨rfl, b7⟩
      have ra7 := (ra.below (b7.mono ya)).mono (Nat.le_trans ya b7.size)
      go_wp2_with fail
      refine (implBegins_any _ _ la la _ fa fa ra7 ra7).mono ?_
      rw [HAA.out, HLKA.out]
      rintro e w8 ⟨rfl, b8⟩
      go_wp2_with fail
      go_meet
      exact ⟨rfl, bw_call b7 b8⟩
    · have HBK : Hid _ := begins_back HIS.out
      obtain ⟨bv, hbv⟩ : ∃ x, decide (la.length = lb.length) = x := ⟨_, rfl⟩
      have HBV : Hid (decide (la.length = lb.length) = bv) := hbv
      have j6 : ((la.length : Int) == (lb.length : Int)) = bv := by rw [← hbv, Bool.eq_iff_iff]; simp; omega
      have j7 : (bv != bv) = false := by simp
      clear hbv
      go_wp2_with fail
      refine (implBegins_any _ _ lb la _ fb fa (rb.mono yb) (ra.mono ya)).mono ?_
      rw [HBK.out, HBV.out]
      rintro e w7 ⟨rfl, b7⟩
      have ra7 := (ra.below (b7.mono ya)).mono (Nat.le_trans ya b7.size)
      go_wp2_with fail
      refine (specLogOk_any _ la _ fa ra7).mono ?_
      rw [HLKA.out]
      rintro e w8 ⟨rfl, b8⟩
      have ra8 := (ra7.below b8).mono b8.size
      go_wp2_with fail
      refine (implBegins_any _ _ la la _ fa fa ra8 ra8).mono ?_
      rw [HAA.out, HLKA.out]
      rintro e w9 ⟨rfl, b9⟩
      go_wp2_with fail
      go_meet
      exact ⟨rfl, bw_call (bw_call b7 b8) b9⟩
  case rest =>
    obtain ⟨rfl, b⟩ := hcut
    replace d := bw_call d b
    replace ra := ra.below (b.mono ya)
    replace ya := Nat.le_trans ya b.size
    replace rb := rb.below (b.mono yb)
    replace yb := Nat.le_trans yb b.size
    replace rl := rl.below (b.mono yl)
    replace yl := Nat.le_trans yl b.size
    clear b
    clear ra ya
    clear rb yb
    clear HIS fa fb na nb j1 j4
    have hrl := rl.mono yl
    obtain ⟨o', cap', hv, -, hc, -⟩ := hrl
    simp only [Value.slice.injEq] at hv
    obtain ⟨rfl, -, rfl⟩ := hv
    have HC : Hid _ := nine_cells hc
    clear hc
    go_upto_region 12 with fail
    have hwcw : ∃ W, wc = W := ⟨_, rfl⟩
    go_cut [102] (fun v wx => v = .bool false ∧ wx = wc)
    case first =>
      by_cases hn0 : 0 < n
      · obtain ⟨i, hi, e1, e2, e3⟩ := seqOf_pos (l := l) (c := c) (t := t) (by rw [HNN.out]; exact hn0)
        have hni : n = (i : Int) + 1 := by rw [← HNN.out]; exact e1
        have hw1 : IntKind.i64.wrap (n - 1) = (i : Int) := by rw [IntKind.wrap_i64]; omega
        have hw2 : n - 1 = (i : Int) := by omega
        have hw3 : IntKind.i64.wrap (i : Int) = (i : Int) := by rw [IntKind.wrap_i64]; omega
        obtain ⟨g, off, eo, hg, a0, a1, a2, -⟩ := HC.out i hi
        rw [e2] at a1
        rw [e3] at a2
        have i0 : (0 : Int) ≤ (i : Int) := by omega
        have i1 : (i : Int) < (l.length : Int) := by omega
        have j8 : (c != c) = false := by simp
        have j9 : (t != t) = false := by simp
        subst eo
        clear e1 e2 e3 hni HC
        go_wp2_with fail
        go_meet
        exact ⟨rfl, rfl⟩
      · go_wp2_with fail
        go_meet
        exact ⟨rfl, rfl⟩
    case rest =>
      obtain ⟨rfl, hwc2⟩ := hcut
      subst hwc2
      go_wp2_with fail
      go_loopw [11] (fun i wr => ∃ k1 : Nat, k1 ≤ l.length ∧ i = .int .i64 k1 ∧ ReadsR 9 entC w3.heap.size wr (.slice ol l.length cl0) l ∧ w3.heap.size ≤ wr.heap.size ∧ Below w'.heap.size w' wr) (fun i _ => l.length - (intOf i).toNat)
      case atStart => exact ⟨0, Nat.zero_le _, rfl, rl, yl, d⟩
      case round =>
        clear rl yl d HC
        obtain ⟨k1, hk, rfl, rl, yl, d⟩ := hrel
        by_cases hlt : k1 < l.length
        · have i1 : (k1 : Int) < (l.length : Int) := by omega
          go_wp2_with fail
          refine (specLogOk_any _ l _ fl (rl.mono yl)).mono ?_
          rw [HOKL.out]
          rintro e w9 ⟨rfl, b⟩
          replace d := bw_call d b
          replace rl := rl.below (b.mono yl)
          replace yl := Nat.le_trans yl b.size
          clear b
          cases okl
          · go_wp2_with fail
            go_ret
            exact ⟨rfl, d⟩
          · have hrl := rl
            obtain ⟨o', cap', hv, -, hc, -⟩ := hrl
            simp only [Value.slice.injEq] at hv
            obtain ⟨rfl, -, rfl⟩ := hv
            obtain ⟨g, off, eo, hg, a0, a1, a2, -⟩ := nine_cells hc k1 hlt
            have HAT : Hid (l[k1].cl = c → l[k1].tg = t → n = l[k1].sq) := fun e1 e2 => by rw [← HNN.out]; exact seqOf_at HOKL.out k1 hlt e1 e2
            generalize l[k1].sq = q0 at a0 HAT
            generalize l[k1].cl = q1 at a1 HAT
            generalize l[k1].tg = q2 at a2 HAT
            have HRL : Hid _ := rl
            subst eo
            have i0 : (0 : Int) ≤ (k1 : Int) := by omega
            clear hc rl
            by_cases e1 : q1 = c
            · by_cases e2 : q2 = t
              · have e3 := HAT.out e1 e2
                subst e1
                subst e2
                subst e3
                clear HAT
                go_wp2_with fail
                go_roundw
                case rel => exact ⟨k1 + 1, by omega, by go_num, HRL.out, yl, d⟩
                case measure => simp [intOf]; omega
              · subst e1
                clear HAT
                go_wp2_with fail
                go_roundw
                case rel => exact ⟨k1 + 1, by omega, by go_num, HRL.out, yl, d⟩
                case measure => simp [intOf]; omega
            · clear HAT
              go_wp2_with fail
              go_roundw
              case rel => exact ⟨k1 + 1, by omega, by go_num, HRL.out, yl, d⟩
              case measure => simp [intOf]; omega
        · have i1 : ¬ (k1 : Int) < (l.length : Int) := by omega
          go_wp2_with fail
          go_ret
          exact ⟨rfl, d⟩

set_option maxRecDepth 100000 in
theorem lifted (os : Os) (started : os.Started) (H : Type) (enc : TypeId × Value → H) :
    ReturnsInHanded {} Try.checked os 4 .any (Rows.fnLogsSpec.pre6 enc Try.prog Try.f4 Rows.fnLogsRow.domain false) (Rows.fnLogsSpec.post enc Try.prog Try.f4 false true false false) := by
  refine returnsInHanded_of_change (C := Try.checked) own started (by kernel_rfl) Try.func4
    (ChangeSpec.witness6 (enc := enc) (C := Try.checked) false ⟨#[], #[.slice none 0 0], []⟩ 8 (by kernel_rfl) (by kernel_rfl) (by kernel_rfl) (by kernel_rfl)) ?_
  intro W base args ds gs before hval0 hW hcnd _
  have hval : ∀ (j : Nat) t v, Try.f4.params[j]? = some t → args[j]? = some v → Value.okWide Try.prog W .any base t v := hval0
  have hW' := hW
  obtain ⟨p, q, hA0, hV, rfl, hfz, hnd⟩ := hW
  have hA : DataW.TrodAll enc Try.prog W 0 (fun _ => true) true Try.f4.params.toList args.toList ds p := hA0
  rw [Try.params4] at hA hval
  obtain ⟨v0, vs0, d0, ds0, p0, q0, hargs, rfl, rfl, h0, r0⟩ := trodAll_cons hA
  obtain ⟨rfl, rfl, rfl⟩ := trodAll_nil r0
  obtain rfl : args = #[v0] := by cases args; simp_all
  obtain ⟨rfl, rfl⟩ := trodVars_none hV
  obtain ⟨a0, len0, cap0, rfl⟩ := okWide_slice Try.underlying22 (hval 0 22 v0 rfl rfl)
  have k0 := h0
  have lt0 : ∀ x ∈ p0, x.block < W.heap.size := by obtain ⟨m, hm⟩ := k0; exact DataW.trod_lt m _ _ _ hm
  obtain ⟨z0, w0⟩ : ∃ zs, IsRow .u8 W a0 len0 cap0 zs := by
    obtain ⟨fuel, hf⟩ := h0
    rcases open_ints Try.underlying22 Try.underlying5 (by kernel_rfl) hf with ⟨hcs, _⟩ | ⟨x, l, c, zs, hcs, _, hl, hm, hz, _, hcell, hwz⟩
    · simp [Value.cells] at hcs
      obtain ⟨rfl, rfl, rfl⟩ := hcs
      exact ⟨[], .inl ⟨rfl, rfl, rfl, rfl⟩⟩
    · simp [Value.cells] at hcs
      obtain ⟨rfl, rfl, rfl⟩ := hcs
      exact ⟨zs, .inr ⟨_, rfl, hl, hm, by simpa using hz, hcell, hwz⟩⟩
  clear hA0 hval0
  refine (walk a0 len0 cap0 z0 W w0).mono fun e W' ⟨he, bel⟩ => ?_
  subst he
  exact ⟨_, rfl, _, _, _, [], _, [], hW', trodAll_mk1 (shut_bool Try.underlying4 _), (trodAll_cons_mk (Below.trod laidOut (by kernel_rfl) (of_decide_eq_true (by kernel_rfl)) k0 bel lt0) trodAll_mk0), rfl, bel.frame _, fun h => by cases h⟩

theorem over : Rows.fnLogsRow.holds Try.pinned (OpenSpec.ofChange Rows.fnLogsSpec) :=
  OpenClaim.holds_of_wide 4 Try.f4 rfl rfl rfl rfl rfl rfl rfl ⟨rfl, rfl, rfl, rfl, rfl⟩ rfl rfl rfl rfl rfl (by kernel_rfl) Try.func4 (by kernel_rfl)
    (of_decide_eq_true (by kernel_rfl)) (by unfold Func.isWrapper; first | (rw [if_pos (by decide +kernel)]; kernel_rfl) | (rw [if_neg (by decide +kernel)]; exact ⟨rfl, rfl⟩))
    (fun os started H enc _ => lifted os started H enc)

theorem proved : Rows.FnLogsSaid := over
#print axioms proved
end Go.Proofs.Ytchlkdhnjejgnaa.fnLogs
