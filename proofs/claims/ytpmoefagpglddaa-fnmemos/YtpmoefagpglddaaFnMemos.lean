/-
  The law FnMemos answers true at every input that the row speaks of, and its arguments read afterwards as before; the walk goes over the callees' contracts.
-/
import Derived.Test.YtpmoefagpglddaaRows
import Derived.WalkKit
import Derived.Deep.RegionWith
import Derived.ProofKit
import Derived.OpenShut
import Derived.ShutString
import Derived.ChangeOld
import Derived.Below
import Derived.Test.YtpmoefagpglddaaM04
import Derived.Test.YtpmoefagpglddaaM06
import Derived.Test.YtpmoefagpglddaaM08
namespace Go.Proofs.Ytpmoefagpglddaa.fnMemos
open Go.ChangeShapes Go.WideShapes Go.ChangeAt Go.RowKit
open Go.ChangeMaps (open_string shut_string)
set_option linter.unusedVariables false

theorem own : ownKnob Try.prog.godebug = none := by kernel_rfl
theorem laidOut : laidOutB Try.prog = true := by kernel_rfl

def IsRow (k : IntKind) (w : World) (a : Option Addr) (len cap : Nat) (zs : List Int) : Prop :=
  (a = none ∧ len = 0 ∧ cap = 0 ∧ zs = []) ∨
  ∃ x, a = some x ∧ len ≤ cap ∧ cap ≤ maxLen ∧ zs.length = cap ∧ (∀ i, i < zs.length → w.cell? (x.add i) = some (.int k (zs.getD i 0))) ∧ ∀ n ∈ zs, (Lit.int k n).wf = true

set_option maxRecDepth 100000 in
set_option maxHeartbeats 8000000 in
theorem walk (a0 : Option Addr) (len0 cap0 : Nat) (z0 : List Int) (w : World) (w0 : IsRow .u8 w a0 len0 cap0 z0) :
    Calls Try.prog 3 #[.slice a0 len0 cap0] w fun e w' => e = .returned (.bool true) ∧ Below w.heap.size w w' := by
  have hs : Src w w.heap.size a0 len0 := src_of w0
  have hm := hs.1
  by_cases hbig : (4096 : Int) < (len0 : Int)
  · have hd : decide ((4096 : Int) < (len0 : Int)) = true := by simpa using hbig
    go_enter Try.func3, Try.ntmps3
    go_wp2_with (go_at_call 8; refine (big_any _ _ _ _ hm).mono ?_; rintro e w' ⟨rfl, rfl⟩)
    go_ret
    exact ⟨rfl, Below.refl _ _⟩
  have hd : decide ((4096 : Int) < (len0 : Int)) = false := by simpa using hbig
  have y0 : w.heap.size ≤ w.heap.size := Nat.le_refl _
  clear w0
  go_enter Try.func3, Try.ntmps3
  go_wp2_with fail
  refine (big_any _ _ _ _ hm).mono ?_
  rintro e w' ⟨rfl, rfl⟩
  go_wp2_with fail
  refine (drawNoted_any _ _ _ _ hs).mono ?_
  rintro e w1 ⟨m1, m2, ts, rs, client, tag, ra, rv, rfl, htb, rm, d⟩
  replace hs := hs.below d
  replace y0 := d.size
  have ym : w1.heap.size ≤ w1.heap.size := Nat.le_refl _
  obtain ⟨om1, cm1, om2, cm2, rfl, rfl⟩ := rm.forms
  obtain ⟨WA, hWA, kM, kP, b, zA⟩ := box2 w1 #[.slice om1 ts.length cm1, .slice om2 rs.length cm2] #[.int .i64 ra, .int .i64 rv] 27 29
  have HWA : Hid (WA = _) := hWA
  have sM := heap_lt kM
  have sP := heap_lt kP
  replace d := bw_call d b
  replace hs := hs.below (b.mono y0)
  replace y0 := Nat.le_trans y0 b.size
  replace rm := rm.below (b.mono ym)
  replace ym := Nat.le_trans ym b.size
  clear b
  obtain ⟨⟨⟨nts, nrs⟩, nv⟩, hfd⟩ : ∃ fd, notedM ts rs client tag (ra, rv) = fd := ⟨_, rfl⟩
  have HFD : Hid (notedM ts rs client tag (ra, rv) = ((nts, nrs), nv)) := hfd
  clear hfd hWA zA hbig hd hm
  go_upto_region 4 with fail
  rw [← HWA.out]
  clear HWA
  generalize w1.heap.size = nM at *
  have pkM0 := at_cell kM 0
  have pkM1 := at_cell kM 1
  have pkP0 := at_cell kP 0
  have pkP1 := at_cell kP 1
  go_wp2_with fail
  clear pkM0 pkM1
  clear pkP0 pkP1
  refine (implNoted_any _ _ ts rs client tag ra rv _ (rm.mono ym)).mono ?_
  rw [HFD.out]
  simp only
  rintro e w2 ⟨x1, x2, rfl, ox, b⟩
  replace d := bw_call d b
  replace hs := hs.below (b.mono y0)
  replace y0 := Nat.le_trans y0 b.size
  replace rm := rm.below (b.mono ym)
  replace ym := Nat.le_trans ym b.size
  replace kM := (b.block _ sM).trans kM
  replace sM := Nat.lt_of_lt_of_le sM b.size
  replace kP := (b.block _ sP).trans kP
  replace sP := Nat.lt_of_lt_of_le sP b.size
  clear b
  obtain ⟨ox1, cx1, ox2, cx2, rfl, rfl⟩ := ox.forms
  have rx := ox.reads
  have yx : w2.heap.size ≤ w2.heap.size := Nat.le_refl _
  clear ox
  obtain ⟨WX, hWX, kX, b, zX⟩ := box1 w2 #[.slice ox1 nts.length cx1, .slice ox2 nrs.length cx2] 27
  have HWX : Hid (WX = _) := hWX
  have sX := heap_lt kX
  replace d := bw_call d b
  replace hs := hs.below (b.mono y0)
  replace y0 := Nat.le_trans y0 b.size
  replace rm := rm.below (b.mono ym)
  replace ym := Nat.le_trans ym b.size
  replace kM := (b.block _ sM).trans kM
  replace sM := Nat.lt_of_lt_of_le sM b.size
  replace kP := (b.block _ sP).trans kP
  replace sP := Nat.lt_of_lt_of_le sP b.size
  replace rx := rx.below (b.mono yx)
  replace yx := Nat.le_trans yx b.size
  clear b
  clear hWX zX
  go_upto_region 5 with fail
  rw [← HWX.out]
  clear HWX
  generalize w2.heap.size = nX at *
  go_wp2_with fail
  refine (drawKnown_any _ _ _ _ (hs.mono y0)).mono ?_
  rintro e w3 ⟨q1, q2, qts, qrs, qc, qt, rfl, rq, b⟩
  replace d := bw_call d b
  replace hs := hs.below (b.mono y0)
  replace y0 := Nat.le_trans y0 b.size
  replace rm := rm.below (b.mono ym)
  replace ym := Nat.le_trans ym b.size
  replace kM := (b.block _ sM).trans kM
  replace sM := Nat.lt_of_lt_of_le sM b.size
  replace kP := (b.block _ sP).trans kP
  replace sP := Nat.lt_of_lt_of_le sP b.size
  replace rx := rx.below (b.mono yx)
  replace yx := Nat.le_trans yx b.size
  replace kX := (b.block _ sX).trans kX
  replace sX := Nat.lt_of_lt_of_le sX b.size
  clear b
  clear hs y0
  have yq : w3.heap.size ≤ w3.heap.size := Nat.le_refl _
  obtain ⟨oq1, cq1, oq2, cq2, rfl, rfl⟩ := rq.forms
  obtain ⟨WQ, hWQ, kQ, b, zQ⟩ := box1 w3 #[.slice oq1 qts.length cq1, .slice oq2 qrs.length cq2] 27
  have HWQ : Hid (WQ = _) := hWQ
  have sQ := heap_lt kQ
  replace d := bw_call d b
  replace rm := rm.below (b.mono ym)
  replace ym := Nat.le_trans ym b.size
  replace kM := (b.block _ sM).trans kM
  replace sM := Nat.lt_of_lt_of_le sM b.size
  replace kP := (b.block _ sP).trans kP
  replace sP := Nat.lt_of_lt_of_le sP b.size
  replace rx := rx.below (b.mono yx)
  replace yx := Nat.le_trans yx b.size
  replace kX := (b.block _ sX).trans kX
  replace sX := Nat.lt_of_lt_of_le sX b.size
  replace rq := rq.below (b.mono yq)
  replace yq := Nat.le_trans yq b.size
  clear b
  clear hWQ zQ
  go_upto_region 6 with fail
  rw [← HWQ.out]
  clear HWQ
  generalize w3.heap.size = nQ at *
  obtain ⟨kn, hkn⟩ : ∃ z, knownM qts qrs qc qt = z := ⟨_, rfl⟩
  have HKN : Hid (knownM qts qrs qc qt = kn) := hkn
  clear hkn
  have pkQ0 := at_cell kQ 0
  have pkQ1 := at_cell kQ 1
  go_wp2_with fail
  clear pkQ0 pkQ1
  refine (implKnown_any _ _ qts qrs qc qt _ (rq.mono yq)).mono ?_
  rw [HKN.out]
  rintro e w4 ⟨rfl, b⟩
  replace d := bw_call d b
  replace rm := rm.below (b.mono ym)
  replace ym := Nat.le_trans ym b.size
  replace kM := (b.block _ sM).trans kM
  replace sM := Nat.lt_of_lt_of_le sM b.size
  replace kP := (b.block _ sP).trans kP
  replace sP := Nat.lt_of_lt_of_le sP b.size
  replace rx := rx.below (b.mono yx)
  replace yx := Nat.le_trans yx b.size
  replace kX := (b.block _ sX).trans kX
  replace sX := Nat.lt_of_lt_of_le sX b.size
  replace rq := rq.below (b.mono yq)
  replace yq := Nat.le_trans yq b.size
  replace kQ := (b.block _ sQ).trans kQ
  replace sQ := Nat.lt_of_lt_of_le sQ b.size
  clear b
  go_wp2_with fail
  refine (implNewMemo_any _).mono ?_
  rintro e w5 ⟨n1, n2, rfl, on, b⟩
  replace d := bw_call d b
  replace rm := rm.below (b.mono ym)
  replace ym := Nat.le_trans ym b.size
  replace kM := (b.block _ sM).trans kM
  replace sM := Nat.lt_of_lt_of_le sM b.size
  replace kP := (b.block _ sP).trans kP
  replace sP := Nat.lt_of_lt_of_le sP b.size
  replace rx := rx.below (b.mono yx)
  replace yx := Nat.le_trans yx b.size
  replace kX := (b.block _ sX).trans kX
  replace sX := Nat.lt_of_lt_of_le sX b.size
  replace rq := rq.below (b.mono yq)
  replace yq := Nat.le_trans yq b.size
  replace kQ := (b.block _ sQ).trans kQ
  replace sQ := Nat.lt_of_lt_of_le sQ b.size
  clear b
  have rn := on.reads
  have yn : w5.heap.size ≤ w5.heap.size := Nat.le_refl _
  obtain ⟨on1, cn1, on2, cn2, hn1, hn2⟩ := on.forms
  have hn1' : n1 = .slice on1 4 cn1 := hn1
  have hn2' : n2 = .slice on2 4 cn2 := hn2
  subst hn1' hn2'
  clear hn1 hn2 on
  obtain ⟨WN, hWN, kN, b, zN⟩ := box1 w5 #[.slice on1 4 cn1, .slice on2 4 cn2] 27
  have HWN : Hid (WN = _) := hWN
  have sN := heap_lt kN
  replace d := bw_call d b
  replace rm := rm.below (b.mono ym)
  replace ym := Nat.le_trans ym b.size
  replace kM := (b.block _ sM).trans kM
  replace sM := Nat.lt_of_lt_of_le sM b.size
  replace kP := (b.block _ sP).trans kP
  replace sP := Nat.lt_of_lt_of_le sP b.size
  replace rx := rx.below (b.mono yx)
  replace yx := Nat.le_trans yx b.size
  replace kX := (b.block _ sX).trans kX
  replace sX := Nat.lt_of_lt_of_le sX b.size
  replace rq := rq.below (b.mono yq)
  replace yq := Nat.le_trans yq b.size
  replace kQ := (b.block _ sQ).trans kQ
  replace sQ := Nat.lt_of_lt_of_le sQ b.size
  replace rn := rn.below (b.mono yn)
  replace yn := Nat.le_trans yn b.size
  clear b
  clear hWN zN
  go_upto_region 8 with fail
  rw [← HWN.out]
  clear HWN
  generalize w5.heap.size = nN at *
  have pkM0 := at_cell kM 0
  have pkM1 := at_cell kM 1
  have pkP0 := at_cell kP 0
  have pkP1 := at_cell kP 1
  go_wp2_with fail
  clear pkM0 pkM1
  clear pkP0 pkP1
  refine (specNoted_any _ _ ts rs client tag ra rv _ (rm.mono ym)).mono ?_
  rw [HFD.out]
  simp only
  rintro e w6 ⟨y1, y2, rfl, oy, b⟩
  replace d := bw_call d b
  replace rm := rm.below (b.mono ym)
  replace ym := Nat.le_trans ym b.size
  replace kM := (b.block _ sM).trans kM
  replace sM := Nat.lt_of_lt_of_le sM b.size
  replace kP := (b.block _ sP).trans kP
  replace sP := Nat.lt_of_lt_of_le sP b.size
  replace rx := rx.below (b.mono yx)
  replace yx := Nat.le_trans yx b.size
  replace kX := (b.block _ sX).trans kX
  replace sX := Nat.lt_of_lt_of_le sX b.size
  replace rq := rq.below (b.mono yq)
  replace yq := Nat.le_trans yq b.size
  replace kQ := (b.block _ sQ).trans kQ
  replace sQ := Nat.lt_of_lt_of_le sQ b.size
  replace rn := rn.below (b.mono yn)
  replace yn := Nat.le_trans yn b.size
  replace kN := (b.block _ sN).trans kN
  replace sN := Nat.lt_of_lt_of_le sN b.size
  clear b
  have ry := oy.reads
  have yy : w6.heap.size ≤ w6.heap.size := Nat.le_refl _
  obtain ⟨oy1, cy1, oy2, cy2, rfl, rfl⟩ := oy.forms
  clear oy
  obtain ⟨WY, hWY, kY, b, zY⟩ := box1 w6 #[.slice oy1 nts.length cy1, .slice oy2 nrs.length cy2] 27
  have HWY : Hid (WY = _) := hWY
  have sY := heap_lt kY
  replace d := bw_call d b
  replace rm := rm.below (b.mono ym)
  replace ym := Nat.le_trans ym b.size
  replace kM := (b.block _ sM).trans kM
  replace sM := Nat.lt_of_lt_of_le sM b.size
  replace kP := (b.block _ sP).trans kP
  replace sP := Nat.lt_of_lt_of_le sP b.size
  replace rx := rx.below (b.mono yx)
  replace yx := Nat.le_trans yx b.size
  replace kX := (b.block _ sX).trans kX
  replace sX := Nat.lt_of_lt_of_le sX b.size
  replace rq := rq.below (b.mono yq)
  replace yq := Nat.le_trans yq b.size
  replace kQ := (b.block _ sQ).trans kQ
  replace sQ := Nat.lt_of_lt_of_le sQ b.size
  replace rn := rn.below (b.mono yn)
  replace yn := Nat.le_trans yn b.size
  replace kN := (b.block _ sN).trans kN
  replace sN := Nat.lt_of_lt_of_le sN b.size
  replace ry := ry.below (b.mono yy)
  replace yy := Nat.le_trans yy b.size
  clear b
  clear hWY zY
  go_upto_region 9 with fail
  rw [← HWY.out]
  clear HWY
  generalize w6.heap.size = nY at *
  obtain ⟨okm, hokm⟩ : ∃ z, memOk ts rs = z := ⟨_, rfl⟩
  have HOKM : Hid (memOk ts rs = okm) := hokm
  clear hokm
  have pX0 := BelowOf.cell (v := .slice ox1 nts.length cx1) (at_cell kX 0) sX
  have pX1 := BelowOf.cell (v := .slice ox2 nrs.length cx2) (at_cell kX 1) sX
  have pY0 := BelowOf.cell (v := .slice oy1 nts.length cy1) (at_cell kY 0) sY
  have pY1 := BelowOf.cell (v := .slice oy2 nrs.length cy2) (at_cell kY 1) sY
  have pQ0 := BelowOf.cell (v := .slice oq1 qts.length cq1) (at_cell kQ 0) sQ
  have pQ1 := BelowOf.cell (v := .slice oq2 qrs.length cq2) (at_cell kQ 1) sQ
  have pM0 := BelowOf.cell (v := .slice om1 ts.length cm1) (at_cell kM 0) sM
  have pM1 := BelowOf.cell (v := .slice om2 rs.length cm2) (at_cell kM 1) sM
  have pN0 := BelowOf.cell (v := .slice on1 4 cn1) (at_cell kN 0) sN
  have pN1 := BelowOf.cell (v := .slice on2 4 cn2) (at_cell kN 1) sN
  have hne := BelowOf.any WY
  have H1 : ∀ q : BelowOf WY, Calls Try.prog 15 #[.agg #[.slice ox1 nts.length cx1, .slice ox2 nrs.length cx2], .agg #[.slice oy1 nts.length cy1, .slice oy2 nrs.length cy2]] q.w' fun e w' => e = .returned (.bool true) ∧ Below q.w'.heap.size q.w' w' := fun q => by
    have h := likeMemo_any _ _ _ _ nts nrs nts nrs q.w' (rx.of yx q) (ry.of yy q)
    rwa [show (decide (nts = nts) && decide (nrs = nrs)) = true by simp] at h
  have H2 : ∀ q : BelowOf WY, Calls Try.prog 16 #[.agg #[.slice oq1 qts.length cq1, .slice oq2 qrs.length cq2], .int .i64 qc, .int .i64 qt] q.w' fun e w' => e = .returned (.int .i64 kn) ∧ Below q.w'.heap.size q.w' w' := fun q => by
    have h := specKnown_any _ _ qts qrs qc qt q.w' (rq.of yq q)
    rwa [HKN.out] at h
  have H3 : ∀ q : BelowOf WY, Calls Try.prog 17 #[.agg #[.slice om1 ts.length cm1, .slice om2 rs.length cm2]] q.w' fun e w' => e = .returned (.bool okm) ∧ Below q.w'.heap.size q.w' w' := fun q => by
    have h := implMemoOk_any _ _ ts rs q.w' (rm.of ym q)
    rwa [HOKM.out] at h
  have H4 : ∀ q : BelowOf WY, Calls Try.prog 18 #[.agg #[.slice om1 ts.length cm1, .slice om2 rs.length cm2]] q.w' fun e w' => e = .returned (.bool okm) ∧ Below q.w'.heap.size q.w' w' := fun q => by
    have h := specMemoOk_any _ _ ts rs q.w' (rm.of ym q)
    rwa [HOKM.out] at h
  have H5 : ∀ q : BelowOf WY, Calls Try.prog 18 #[.agg #[.slice on1 4 cn1, .slice on2 4 cn2]] q.w' fun e w' => e = .returned (.bool true) ∧ Below q.w'.heap.size q.w' w' := fun q => by
    have h := specMemoOk_any _ _ _ _ q.w' (rn.of yn q)
    rwa [memOk_zero] at h
  have j1 : (nv != nv) = false := by simp
  have j2 : (kn != kn) = false := by simp
  have j3 : (okm != okm) = false := by simp
  refine wp_region_of (by kernel_rfl) (by kernel_rfl) ?_
  repeat (go_big_quiet_step ((first | (go_at_call 15; with_reducible exact calls_of (H1 _)) | (go_at_call 16; with_reducible exact calls_of (H2 _)) | (go_at_call 17; with_reducible exact calls_of (H3 _)) | (go_at_call 18; with_reducible exact calls_of (H4 _)) | (go_at_call 18; with_reducible exact calls_of (H5 _)) | rfl)))
  refine wpQuiet_nil ?_
  intro w7 hw7
  obtain ⟨⟨wx, cx⟩, hwx⟩ := hw7
  have b : Below WY.heap.size WY w7 := by rw [hwx]; exact cx
  clear hwx cx wx hne pX0 pX1 pY0 pY1 pQ0 pQ1 pM0 pM1 pN0 pN1 H1 H2 H3 H4 H5 HKN
  replace d := bw_call d b
  replace rm := rm.below (b.mono ym)
  replace ym := Nat.le_trans ym b.size
  replace kM := (b.block _ sM).trans kM
  replace sM := Nat.lt_of_lt_of_le sM b.size
  replace kP := (b.block _ sP).trans kP
  replace sP := Nat.lt_of_lt_of_le sP b.size
  replace rx := rx.below (b.mono yx)
  replace yx := Nat.le_trans yx b.size
  replace kX := (b.block _ sX).trans kX
  replace sX := Nat.lt_of_lt_of_le sX b.size
  replace rq := rq.below (b.mono yq)
  replace yq := Nat.le_trans yq b.size
  replace kQ := (b.block _ sQ).trans kQ
  replace sQ := Nat.lt_of_lt_of_le sQ b.size
  replace rn := rn.below (b.mono yn)
  replace yn := Nat.le_trans yn b.size
  replace kN := (b.block _ sN).trans kN
  replace sN := Nat.lt_of_lt_of_le sN b.size
  replace ry := ry.below (b.mono yy)
  replace yy := Nat.le_trans yy b.size
  replace kY := (b.block _ sY).trans kY
  replace sY := Nat.lt_of_lt_of_le sY b.size
  clear b
  clear kY sY
  clear kQ sQ
  clear kN sN
  clear ry yy
  clear rq yq
  clear rn yn
  have pkM0 := at_cell kM 0
  have pkM1 := at_cell kM 1
  go_wp2_with fail
  clear pkM0 pkM1
  refine (specMemoOk_any _ _ ts rs _ (rm.mono ym)).mono ?_
  rw [HOKM.out]
  rintro e w8 ⟨rfl, b⟩
  replace d := bw_call d b
  replace rm := rm.below (b.mono ym)
  replace ym := Nat.le_trans ym b.size
  replace kM := (b.block _ sM).trans kM
  replace sM := Nat.lt_of_lt_of_le sM b.size
  replace kP := (b.block _ sP).trans kP
  replace sP := Nat.lt_of_lt_of_le sP b.size
  replace rx := rx.below (b.mono yx)
  replace yx := Nat.le_trans yx b.size
  replace kX := (b.block _ sX).trans kX
  replace sX := Nat.lt_of_lt_of_le sX b.size
  clear b
  cases okm
  · obtain ⟨hnt, hnr, hnv⟩ := noted_bad HFD.out HOKM.out
    subst hnt hnr hnv
    have pX0 := at_cell kX 0
    have pX1 := at_cell kX 1
    go_wp2_with fail
    refine (likeMemo_any _ _ _ _ [] [] [] [] _ (rx.mono yx) (OwnM.nil 0 _).reads).mono ?_
    rintro e w9 ⟨rfl, b⟩
    replace d := bw_call d b
    replace rm := rm.below (b.mono ym)
    replace ym := Nat.le_trans ym b.size
    replace kM := (b.block _ sM).trans kM
    replace sM := Nat.lt_of_lt_of_le sM b.size
    replace kP := (b.block _ sP).trans kP
    replace sP := Nat.lt_of_lt_of_le sP b.size
    replace rx := rx.below (b.mono yx)
    replace yx := Nat.le_trans yx b.size
    replace kX := (b.block _ sX).trans kX
    replace sX := Nat.lt_of_lt_of_le sX b.size
    clear b
    go_wp2_with fail
    go_ret
    exact ⟨rfl, d⟩
  cases nv
  · obtain ⟨hnt, hnr⟩ := noted_not HFD.out HOKM.out
    subst hnt hnr
    have pX0 := at_cell kX 0
    have pX1 := at_cell kX 1
    have pM0 := at_cell kM 0
    have pM1 := at_cell kM 1
    go_wp2_with fail
    refine (likeMemo_any _ _ _ _ nts nrs nts nrs _ (rx.mono yx) (rm.mono ym)).mono ?_
    rw [show (decide (nts = nts) && decide (nrs = nrs)) = true by simp]
    rintro e w9 ⟨rfl, b⟩
    replace d := bw_call d b
    replace rm := rm.below (b.mono ym)
    replace ym := Nat.le_trans ym b.size
    replace kM := (b.block _ sM).trans kM
    replace sM := Nat.lt_of_lt_of_le sM b.size
    replace kP := (b.block _ sP).trans kP
    replace sP := Nat.lt_of_lt_of_le sP b.size
    replace rx := rx.below (b.mono yx)
    replace yx := Nat.le_trans yx b.size
    replace kX := (b.block _ sX).trans kX
    replace sX := Nat.lt_of_lt_of_le sX b.size
    clear b
    go_wp2_with fail
    go_ret
    exact ⟨rfl, d⟩
  have HALL : Hid _ := noted_all HFD.out HOKM.out
  obtain ⟨⟨hc0, hc3⟩, ⟨ht1, ht2⟩, hnl, hrl, -⟩ := HALL.out
  obtain ⟨htl, hrl2⟩ := memOk_len HOKM.out
  obtain ⟨C, rfl⟩ := Int.eq_ofNat_of_zero_le hc0
  have hC4 : C < 4 := by omega
  have HNT : Hid (nts.length = 4) := hnl
  have HNR : Hid (nrs.length = 4) := hrl
  have HTL : Hid (ts.length = 4) := htl
  have HRL : Hid (rs.length = 4) := hrl2
  have rx8 := rx.mono yx
  have rm8 := rm.mono ym
  have HXT : Hid (∀ j : Nat, j < 4 → ∃ g off, ox1 = some ⟨g, off, none⟩ ∧ g < w8.heap.size ∧ w8.cell? ⟨g, off + j, none⟩ = some (.int .i64 (nts.getD j 0))) := fun j hj => by
    obtain ⟨o, cp, e, -, hc, -⟩ := rx8.t
    simp only [Value.slice.injEq] at e
    obtain ⟨rfl, -, -⟩ := e
    exact hc j _ (getD_some nts j (by omega))
  have HMT : Hid (∀ j : Nat, j < 4 → ∃ g off, om1 = some ⟨g, off, none⟩ ∧ g < w8.heap.size ∧ w8.cell? ⟨g, off + j, none⟩ = some (.int .i64 (ts.getD j 0))) := fun j hj => by
    obtain ⟨o, cp, e, -, hc, -⟩ := rm8.t
    simp only [Value.slice.injEq] at e
    obtain ⟨rfl, -, -⟩ := e
    exact hc j _ (getD_some ts j (by omega))
  have HXR : Hid (∀ j : Nat, j < 4 → ∃ g off, ox2 = some ⟨g, off, none⟩ ∧ g < w8.heap.size ∧ w8.cell? ⟨g, off + j * 2, none⟩ = some (.int .i64 (nrs.getD j (0, 0)).1) ∧ w8.cell? ⟨g, off + j * 2 + 1, none⟩ = some (.int .i64 (nrs.getD j (0, 0)).2)) := fun j hj => by
    obtain ⟨o, cp, e, -, hc, -⟩ := rx8.r
    simp only [Value.slice.injEq] at e
    obtain ⟨rfl, -, -⟩ := e
    exact two_at hc j (by omega)
  have HMR : Hid (∀ j : Nat, j < 4 → ∃ g off, om2 = some ⟨g, off, none⟩ ∧ g < w8.heap.size ∧ w8.cell? ⟨g, off + j * 2, none⟩ = some (.int .i64 (rs.getD j (0, 0)).1) ∧ w8.cell? ⟨g, off + j * 2 + 1, none⟩ = some (.int .i64 (rs.getD j (0, 0)).2)) := fun j hj => by
    obtain ⟨o, cp, e, -, hc, -⟩ := rm8.r
    simp only [Value.slice.injEq] at e
    obtain ⟨rfl, -, -⟩ := e
    exact two_at hc j (by omega)
  clear hnl hrl htl hrl2 hc0 hc3 htb
  go_wp2_with fail
  go_loopw [16] (fun i wr => ∃ k : Nat, k ≤ 4 ∧ i = .int .i64 k ∧ Below w8.heap.size w8 wr) (fun i _ => 4 - (intOf i).toNat)
  case atStart => exact ⟨0, Nat.zero_le _, rfl, Below.refl _ _⟩
  case round =>
    obtain ⟨k, hk, rfl, hb⟩ := hrel
    have kXr := (hb.block _ sX).trans kX
    have kMr := (hb.block _ sM).trans kM
    have kPr := (hb.block _ sP).trans kP
    have dr := bw_call d hb
    by_cases hlt : k < 4
    · by_cases hkC : k = C
      · have hb1 : ((k : Int) != (C : Int)) = false := by rw [hkC]; simp
        have HKC : Hid (k = C) := hkC
        clear hkC HXT HMT HXR HMR kXr kMr kPr
        go_wp2_with fail
        go_quiet (fail)
        go_wp2_with fail
        go_roundw
        case rel => exact ⟨k + 1, by omega, by go_num, ⟨hb.os, hb.tape, hb.output, hb.size, hb.block⟩⟩
        case measure => simp [intOf]; omega
      · have hb1 : ((k : Int) != (C : Int)) = true := by rw [bne_iff_ne]; omega
        obtain ⟨hsT, hsR⟩ := HALL.out.2.2.2.2.2.2.2.2.2 k (by omega)
        obtain ⟨g1, f1, rfl, q1, a1⟩ := HXT.out k hlt
        obtain ⟨g2, f2, rfl, q2, a2⟩ := HMT.out k hlt
        obtain ⟨g3, f3, rfl, q3, a3, a4⟩ := HXR.out k hlt
        obtain ⟨g4, f4, rfl, q4, a5, a6⟩ := HMR.out k hlt
        rw [hsT] at a1
        rw [hsR] at a3 a4
        generalize ts.getD k 0 = tv at a1 a2
        generalize rs.getD k (0, 0) = rr at a3 a4 a5 a6
        obtain ⟨rc, rw'⟩ := rr
        simp only at a3 a4 a5 a6
        replace a1 := (hb.cell (p := ⟨g1, f1 + k, none⟩) q1).trans a1
        replace a2 := (hb.cell (p := ⟨g2, f2 + k, none⟩) q2).trans a2
        replace a3 := (hb.cell (p := ⟨g3, f3 + k * 2, none⟩) q3).trans a3
        replace a4 := (hb.cell (p := ⟨g3, f3 + k * 2 + 1, none⟩) q3).trans a4
        replace a5 := (hb.cell (p := ⟨g4, f4 + k * 2, none⟩) q4).trans a5
        replace a6 := (hb.cell (p := ⟨g4, f4 + k * 2 + 1, none⟩) q4).trans a6
        have p0 := at_cell kXr 0
        have p1 := at_cell kXr 1
        have p2 := at_cell kMr 0
        have p3 := at_cell kMr 1
        have HEQ : ∀ W : World, (Op.equalIn 10000 29 (.agg #[.int .i64 rc, .int .i64 rw']) (.agg #[.int .i64 rc, .int .i64 rw'])).run Try.prog W = .ok true W := fun W => by have h := rep_equal rc rw' rc rw' W; rwa [show decide ((rc, rw') = (rc, rw')) = true by simp] at h
        have hg := Try.eqGuardType29
        have htt : (tv != tv) = false := by simp
        have i0 : (0 : Int) ≤ (k : Int) := by omega
        have i1 : (k : Int) < (nts.length : Int) := by have := HNT.out; omega
        have i2 : (k : Int) < (ts.length : Int) := by have := HTL.out; omega
        have i3 : (k : Int) < (nrs.length : Int) := by have := HNR.out; omega
        have i4 : (k : Int) < (rs.length : Int) := by have := HRL.out; omega
        clear HXT HMT HXR HMR hsT hsR kXr kMr kPr hkC rx8 rm8
        go_wp2_with fail
        go_quiet (fail)
        go_wp2_with fail
        go_roundw
        case rel => exact ⟨k + 1, by omega, by go_num, ⟨hb.os, hb.tape, hb.output, hb.size, hb.block⟩⟩
        case measure => simp [intOf]; omega
    · obtain ⟨-, -, -, -, hmok, hk1, hk2, hk0, hrep, -⟩ := HALL.out
      obtain ⟨g3, f3, rfl, q3, a3, a4⟩ := HXR.out C hC4
      rw [show C = ((C : Int)).toNat from rfl, hrep] at a3 a4
      rw [show ((C : Int)).toNat = C from rfl] at a3 a4
      simp only at a3 a4
      have lg3 : g3 < wr.heap.size := Nat.lt_of_lt_of_le q3 hb.size
      have c3 := BelowOf.cell ((hb.cell (p := ⟨g3, f3 + C * 2, none⟩) q3).trans a3) lg3
      have c4 := BelowOf.cell ((hb.cell (p := ⟨g3, f3 + C * 2 + 1, none⟩) q3).trans a4) lg3
      have lXr := heap_lt kXr
      have lMr := heap_lt kMr
      have lPr := heap_lt kPr
      have pX0 := BelowOf.cell (v := .slice ox1 nts.length cx1) (at_cell kXr 0) lXr
      have pX1 := BelowOf.cell (v := .slice (some ⟨g3, f3, none⟩) nrs.length cx2) (at_cell kXr 1) lXr
      have pM0 := BelowOf.cell (v := .slice om1 ts.length cm1) (at_cell kMr 0) lMr
      have pM1 := BelowOf.cell (v := .slice om2 rs.length cm2) (at_cell kMr 1) lMr
      have pP0 := BelowOf.cell (v := .int .i64 ra) (at_cell kPr 0) lPr
      have pP1 := BelowOf.cell (v := .int .i64 rv) (at_cell kPr 1) lPr
      have rxr := (rx8.below hb).mono hb.size
      have rmr := (rm8.below hb).mono hb.size
      have H1 : ∀ q : BelowOf wr, Calls Try.prog 17 #[.agg #[.slice ox1 nts.length cx1, .slice (some ⟨g3, f3, none⟩) nrs.length cx2]] q.w' fun e w' => e = .returned (.bool true) ∧ Below q.w'.heap.size q.w' w' := fun q => by
        have h := implMemoOk_any _ _ nts nrs q.w' (rxr.of (Nat.le_refl _) q)
        rwa [hmok] at h
      have H2 : ∀ q : BelowOf wr, Calls Try.prog 12 #[.agg #[.slice ox1 nts.length cx1, .slice (some ⟨g3, f3, none⟩) nrs.length cx2], .int .i64 C, .int .i64 tag] q.w' fun e w' => e = .returned (.int .i64 1) ∧ Below q.w'.heap.size q.w' w' := fun q => by
        have h := implKnown_any _ _ nts nrs C tag q.w' (rxr.of (Nat.le_refl _) q)
        rwa [hk1] at h
      have H4 : ∀ q : BelowOf wr, Calls Try.prog 12 #[.agg #[.slice om1 ts.length cm1, .slice om2 rs.length cm2], .int .i64 C, .int .i64 tag] q.w' fun e w' => e = .returned (.int .i64 0) ∧ Below q.w'.heap.size q.w' w' := fun q => by
        have h := implKnown_any _ _ ts rs C tag q.w' (rmr.of (Nat.le_refl _) q)
        rwa [hk0] at h
      have HEQ : ∀ W : World, (Op.equalIn 10000 29 (.agg #[.int .i64 ra, .int .i64 rv]) (.agg #[.int .i64 ra, .int .i64 rv])).run Try.prog W = .ok true W := fun W => by have h := rep_equal ra rv ra rv W; rwa [show decide ((ra, rv) = (ra, rv)) = true by simp] at h
      have hg := Try.eqGuardType29
      have hne := BelowOf.any wr
      have i0 : (0 : Int) ≤ (C : Int) := by omega
      have i3 : (C : Int) < (nrs.length : Int) := by have := HNR.out; omega
      have hk4 : ¬ (k : Int) < 4 := by omega
      by_cases ht : tag = 1
      · subst ht
        clear HXT HMT HXR HMR kXr kMr kPr rx8 rm8 hk1 hk2 hk0 hrep hmok a3 a4 HALL HFD HOKM
        go_wp2_with fail
        refine wp_region_of (by kernel_rfl) (by kernel_rfl) ?_
        repeat (go_big_quiet_step ((first | (go_at_call 17; with_reducible exact calls_of (H1 _)) | (go_at_call 12; with_reducible exact calls_of (H2 _)) | (go_at_call 12; with_reducible exact calls_of (H4 _)) | rfl)))
        refine wpQuiet_nil ?_
        intro w9 hw9
        obtain ⟨⟨wx, cx⟩, hwx⟩ := hw9
        have b9 : Below wr.heap.size wr w9 := by rw [hwx]; exact cx
        clear hwx cx wx hne c3 c4 pX0 pX1 pM0 pM1 pP0 pP1 H1 H2 H4 HEQ
        have d9 := bw_call dr b9
        go_wp2_with fail
        go_ret
        exact ⟨rfl, d9⟩
      · have H3 : ∀ q : BelowOf wr, Calls Try.prog 12 #[.agg #[.slice ox1 nts.length cx1, .slice (some ⟨g3, f3, none⟩) nrs.length cx2], .int .i64 C, .int .i64 (tag - 1)] q.w' fun e w' => e = .returned (.int .i64 2) ∧ Below q.w'.heap.size q.w' w' := fun q => by
          have h := implKnown_any _ _ nts nrs C (tag - 1) q.w' (rxr.of (Nat.le_refl _) q)
          rwa [hk2 ht] at h
        have htb1 : (tag == 1) = false := by rw [beq_eq_false_iff_ne]; exact ht
        have hwt : IntKind.i64.wrap (tag - 1) = tag - 1 := by rw [IntKind.wrap_i64]; omega
        clear HXT HMT HXR HMR kXr kMr kPr rx8 rm8 hk1 hk2 hk0 hrep hmok a3 a4 HALL HFD HOKM ht
        go_wp2_with fail
        refine wp_region_of (by kernel_rfl) (by kernel_rfl) ?_
        repeat (go_big_quiet_step ((first | (go_at_call 17; with_reducible exact calls_of (H1 _)) | (go_at_call 12; with_reducible exact calls_of (H2 _)) | (go_at_call 12; with_reducible exact calls_of (H3 _)) | (go_at_call 12; with_reducible exact calls_of (H4 _)) | rfl)))
        refine wpQuiet_nil ?_
        intro w9 hw9
        obtain ⟨⟨wx, cx⟩, hwx⟩ := hw9
        have b9 : Below wr.heap.size wr w9 := by rw [hwx]; exact cx
        clear hwx cx wx hne c3 c4 pX0 pX1 pM0 pM1 pP0 pP1 H1 H2 H3 H4 HEQ
        have d9 := bw_call dr b9
        go_wp2_with fail
        go_ret
        exact ⟨rfl, d9⟩

set_option maxRecDepth 100000 in
theorem lifted (os : Os) (started : os.Started) (H : Type) (enc : TypeId × Value → H) :
    ReturnsInHanded {} Try.checked os 3 .any (Rows.fnMemosSpec.pre6 enc Try.prog Try.f3 Rows.fnMemosRow.domain false) (Rows.fnMemosSpec.post enc Try.prog Try.f3 false true false false) := by
  refine returnsInHanded_of_change (C := Try.checked) own started (by kernel_rfl) Try.func3
    (ChangeSpec.witness6 (enc := enc) (C := Try.checked) false ⟨#[], #[.slice none 0 0], []⟩ 8 (by kernel_rfl) (by kernel_rfl) (by kernel_rfl) (by kernel_rfl)) ?_
  intro W base args ds gs before hval0 hW hcnd _
  have hval : ∀ (j : Nat) t v, Try.f3.params[j]? = some t → args[j]? = some v → Value.okWide Try.prog W .any base t v := hval0
  have hW' := hW
  obtain ⟨p, q, hA0, hV, rfl, hfz, hnd⟩ := hW
  have hA : DataW.TrodAll enc Try.prog W 0 (fun _ => true) true Try.f3.params.toList args.toList ds p := hA0
  rw [Try.params3] at hA hval
  obtain ⟨v0, vs0, d0, ds0, p0, q0, hargs, rfl, rfl, h0, r0⟩ := trodAll_cons hA
  obtain ⟨rfl, rfl, rfl⟩ := trodAll_nil r0
  obtain rfl : args = #[v0] := by cases args; simp_all
  obtain ⟨rfl, rfl⟩ := trodVars_none hV
  obtain ⟨a0, len0, cap0, rfl⟩ := okWide_slice Try.underlying22 (hval 0 22 v0 rfl rfl)
  have k0 := h0
  have lt0 : ∀ x ∈ p0, x.block < W.heap.size := by obtain ⟨m, hm⟩ := k0; exact DataW.trod_lt m _ _ _ hm
  obtain ⟨z0, w0⟩ : ∃ zs, IsRow .u8 W a0 len0 cap0 zs := by
    obtain ⟨fuel, hf⟩ := h0
    rcases open_ints Try.underlying22 Try.underlying5 (by kernel_rfl) hf with ⟨hcs, _⟩ | ⟨x, l, c, zs, hcs, _, hl, hm, hz, _, hcell, hwz⟩
    · simp [Value.cells] at hcs
      obtain ⟨rfl, rfl, rfl⟩ := hcs
      exact ⟨[], .inl ⟨rfl, rfl, rfl, rfl⟩⟩
    · simp [Value.cells] at hcs
      obtain ⟨rfl, rfl, rfl⟩ := hcs
      exact ⟨zs, .inr ⟨_, rfl, hl, hm, by simpa using hz, hcell, hwz⟩⟩
  clear hA0 hval0
  refine (walk a0 len0 cap0 z0 W w0).mono fun e W' ⟨he, bel⟩ => ?_
  subst he
  exact ⟨_, rfl, _, _, _, [], _, [], hW', trodAll_mk1 (shut_bool Try.underlying4 _), (trodAll_cons_mk (Below.trod laidOut (by kernel_rfl) (of_decide_eq_true (by kernel_rfl)) k0 bel lt0) trodAll_mk0), rfl, bel.frame _, fun h => by cases h⟩

theorem over : Rows.fnMemosRow.holds Try.pinned (OpenSpec.ofChange Rows.fnMemosSpec) :=
  OpenClaim.holds_of_wide 3 Try.f3 rfl rfl rfl rfl rfl rfl rfl ⟨rfl, rfl, rfl, rfl, rfl⟩ rfl rfl rfl rfl rfl (by kernel_rfl) Try.func3 (by kernel_rfl)
    (of_decide_eq_true (by kernel_rfl)) (by unfold Func.isWrapper; first | (rw [if_pos (by decide +kernel)]; kernel_rfl) | (rw [if_neg (by decide +kernel)]; exact ⟨rfl, rfl⟩))
    (fun os started H enc _ => lifted os started H enc)

theorem proved : Rows.FnMemosSaid := over
#print axioms proved
end Go.Proofs.Ytpmoefagpglddaa.fnMemos
