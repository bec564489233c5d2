/-
  The law FnPost answers true at every input that the row speaks of, and its arguments read afterwards as before; the walk goes over the callees' contracts.
-/
import Derived.Test.YtgabhnhfomekfaaRows
import Derived.WalkKit
import Derived.Deep.RegionWith
import Derived.ProofKit
import Derived.OpenShut
import Derived.ShutString
import Derived.ChangeOld
import Derived.Below
import Derived.Test.YtgabhnhfomekfaaM10
import Derived.Test.YtgabhnhfomekfaaM42
import Derived.Test.YtgabhnhfomekfaaM43
import Derived.Test.YtgabhnhfomekfaaM45
import Derived.Test.YtgabhnhfomekfaaM52
namespace Go.Proofs.Ytgabhnhfomekfaa.fnPost
open Go.ChangeShapes Go.WideShapes Go.ChangeAt Go.RowKit
open Go.ChangeMaps (open_string shut_string)
set_option linter.unusedVariables false

theorem own : ownKnob Try.prog.godebug = none := by kernel_rfl
theorem laidOut : laidOutB Try.prog = true := by kernel_rfl

def IsRow (k : IntKind) (w : World) (a : Option Addr) (len cap : Nat) (zs : List Int) : Prop :=
  (a = none ∧ len = 0 ∧ cap = 0 ∧ zs = []) ∨
  ∃ x, a = some x ∧ len ≤ cap ∧ cap ≤ maxLen ∧ zs.length = cap ∧ (∀ i, i < zs.length → w.cell? (x.add i) = some (.int k (zs.getD i 0))) ∧ ∀ n ∈ zs, (Lit.int k n).wf = true

set_option maxRecDepth 100000 in
set_option maxHeartbeats 8000000 in
theorem walk (a0 : Option Addr) (len0 cap0 : Nat) (z0 : List Int) (w : World) (w0 : IsRow .u8 w a0 len0 cap0 z0) :
    Calls Try.prog 3 #[.slice a0 len0 cap0] w fun e w' => e = .returned (.bool true) ∧ Below w.heap.size w w' := by
  have hs : Src w w.heap.size a0 len0 := src_of w0
  have hm := hs.1
  by_cases hbig : (4096 : Int) < (len0 : Int)
  · have hd : decide ((4096 : Int) < (len0 : Int)) = true := by simpa using hbig
    go_enter Try.func3, Try.ntmps3
    go_wp2_with (go_at_call 4; refine (big_any _ _ _ _ hm).mono ?_; rintro e w' ⟨rfl, rfl⟩)
    go_ret
    exact ⟨rfl, Below.refl _ _⟩
  have hd : decide ((4096 : Int) < (len0 : Int)) = false := by simpa using hbig
  have hl4 : len0 ≤ 4096 := by omega
  clear w0 hbig
  go_enter Try.func3, Try.ntmps3
  go_wp2_with fail
  refine (big_any _ _ _ _ hm).mono ?_
  rintro e w' ⟨rfl, rfl⟩
  go_wp2_with fail
  refine (drawPosted_any _ _ _ _ hs).mono ?_
  rintro e w1 ⟨g1, c1, g2, c2, la, lb, rfl, PA, PB, d⟩
  replace hs := hs.below d
  have y0 := d.size
  have ra := ReadsR.of_own mgC_len PA.own
  have yra : w1.heap.size ≤ w1.heap.size := Nat.le_refl _
  have rb := ReadsR.of_own mgC_len PB.own
  have yrb : w1.heap.size ≤ w1.heap.size := Nat.le_refl _
  have HA : Hid (la.length ≤ 1048576 ∧ FitPost la) := ⟨Nat.le_trans PA.few (by decide), PA.fits⟩
  have HB : Hid (lb.length ≤ 1048576 ∧ FitPost lb) := ⟨Nat.le_trans PB.few (by decide), PB.fits⟩
  clear PA PB
  obtain ⟨⟨X, is⟩, hP⟩ : ∃ x, posted la lb = x := ⟨_, rfl⟩
  have HX : Hid (posted la lb = (X, is)) := hP
  clear hP
  go_wp2_with fail
  refine (implPosted_any _ _ la lb _ HA.out.2 HB.out.2 HA.out.1 HB.out.1 (ra.mono yra) (rb.mono yrb)).mono ?_
  rw [HX.out]
  dsimp only
  rintro e w2 ⟨vx, rfl, ox, b⟩
  replace d := bw_call d b
  replace hs := hs.below (b.mono y0)
  replace y0 := Nat.le_trans y0 b.size
  replace ra := ra.below (b.mono yra)
  replace yra := Nat.le_trans yra b.size
  replace rb := rb.below (b.mono yrb)
  replace yrb := Nat.le_trans yrb b.size
  clear b
  obtain ⟨o1, cx, rfl⟩ := own_slice ox
  have HRX : Hid _ := own_form15 ox
  have rx := ReadsR.of_own mgC_len ox
  have yrx : w2.heap.size ≤ w2.heap.size := Nat.le_refl _
  clear ox
  go_wp2_with fail
  refine (drawTaken_any _ _ _ _ (hs.mono y0)).mono ?_
  rintro e w3 ⟨g3, c3, lp, ap, rfl, PP, hap, b⟩
  replace d := bw_call d b
  replace hs := hs.below (b.mono y0)
  replace y0 := Nat.le_trans y0 b.size
  replace ra := ra.below (b.mono yra)
  replace yra := Nat.le_trans yra b.size
  replace rb := rb.below (b.mono yrb)
  replace yrb := Nat.le_trans yrb b.size
  replace rx := rx.below (b.mono yrx)
  replace yrx := Nat.le_trans yrx b.size
  clear b
  have rp := ReadsR.of_own mgC_len PP.own
  have yrp : w3.heap.size ≤ w3.heap.size := Nat.le_refl _
  have HP : Hid (lp.length ≤ 1048576 ∧ FitPost lp) := ⟨Nat.le_trans PP.few (by decide), PP.fits⟩
  clear PP
  obtain ⟨⟨Y, ⟨kd, ds, vw, ⟨sq, cl, tg, ⟨k, nm, ot, at_, va, ep⟩⟩, s, rc, rv⟩, took⟩, hT⟩ : ∃ x, taken lp ap = x := ⟨_, rfl⟩
  have HT : Hid (taken lp ap = (Y, ⟨kd, ds, vw, ⟨sq, cl, tg, ⟨k, nm, ot, at_, va, ep⟩⟩, s, rc, rv⟩, took)) := hT
  clear hT
  go_wp2_with fail
  refine (implTaken_any _ lp ap _ HP.out.2 HP.out.1 (rp.mono yrp)).mono ?_
  rw [HT.out]
  dsimp only
  rintro e w4 ⟨vy, rfl, oy, b⟩
  replace d := bw_call d b
  replace hs := hs.below (b.mono y0)
  replace y0 := Nat.le_trans y0 b.size
  replace ra := ra.below (b.mono yra)
  replace yra := Nat.le_trans yra b.size
  replace rb := rb.below (b.mono yrb)
  replace yrb := Nat.le_trans yrb b.size
  replace rx := rx.below (b.mono yrx)
  replace yrx := Nat.le_trans yrx b.size
  replace rp := rp.below (b.mono yrp)
  replace yrp := Nat.le_trans yrp b.size
  clear b
  obtain ⟨o2, cy, rfl⟩ := own_slice oy
  have HRY : Hid _ := own_form15 oy
  have ry := ReadsR.of_own mgC_len oy
  have yry : w4.heap.size ≤ w4.heap.size := Nat.le_refl _
  clear oy
  have b : Below w4.heap.size w4 (w4.alloc (.cells #[.int .i64 kd, .int .i64 ds, .int .i64 vw, .int .i64 sq, .int .i64 cl, .int .i64 tg, .int .i64 k, .string nm, .string ot, .int .i64 at_, .int .i64 va, .int .i64 ep, .int .i64 s, .int .i64 rc, .int .i64 rv] 38)) := bw_alloc (Below.refl _ _)
  have kM := heap_alloc_new w4 (.cells #[.int .i64 kd, .int .i64 ds, .int .i64 vw, .int .i64 sq, .int .i64 cl, .int .i64 tg, .int .i64 k, .string nm, .string ot, .int .i64 at_, .int .i64 va, .int .i64 ep, .int .i64 s, .int .i64 rc, .int .i64 rv] 38)
  have sM : w4.heap.size < (w4.alloc (.cells #[.int .i64 kd, .int .i64 ds, .int .i64 vw, .int .i64 sq, .int .i64 cl, .int .i64 tg, .int .i64 k, .string nm, .string ot, .int .i64 at_, .int .i64 va, .int .i64 ep, .int .i64 s, .int .i64 rc, .int .i64 rv] 38)).heap.size := by simp
  replace d := bw_call d b
  replace hs := hs.below (b.mono y0)
  replace y0 := Nat.le_trans y0 b.size
  replace ra := ra.below (b.mono yra)
  replace yra := Nat.le_trans yra b.size
  replace rb := rb.below (b.mono yrb)
  replace yrb := Nat.le_trans yrb b.size
  replace rx := rx.below (b.mono yrx)
  replace yrx := Nat.le_trans yrx b.size
  replace rp := rp.below (b.mono yrp)
  replace yrp := Nat.le_trans yrp b.size
  replace ry := ry.below (b.mono yry)
  replace yry := Nat.le_trans yry b.size
  clear b
  go_wp2_with fail
  generalize w4.alloc (.cells #[.int .i64 kd, .int .i64 ds, .int .i64 vw, .int .i64 sq, .int .i64 cl, .int .i64 tg, .int .i64 k, .string nm, .string ot, .int .i64 at_, .int .i64 va, .int .i64 ep, .int .i64 s, .int .i64 rc, .int .i64 rv] 38) = W4 at *
  generalize w4.heap.size = nM at *
  refine (drawTwice_any _ _ _ _ (hs.mono y0)).mono ?_
  rintro e w5 ⟨g4, c4, lq, aq, rfl, PQ, haq, b⟩
  replace d := bw_call d b
  replace hs := hs.below (b.mono y0)
  replace y0 := Nat.le_trans y0 b.size
  replace ra := ra.below (b.mono yra)
  replace yra := Nat.le_trans yra b.size
  replace rb := rb.below (b.mono yrb)
  replace yrb := Nat.le_trans yrb b.size
  replace rx := rx.below (b.mono yrx)
  replace yrx := Nat.le_trans yrx b.size
  replace rp := rp.below (b.mono yrp)
  replace yrp := Nat.le_trans yrp b.size
  replace ry := ry.below (b.mono yry)
  replace yry := Nat.le_trans yry b.size
  replace kM := (b.block _ sM).trans kM
  replace sM := Nat.lt_of_lt_of_le sM b.size
  clear b
  have rq := ReadsR.of_own mgC_len PQ.own
  have yrq : w5.heap.size ≤ w5.heap.size := Nat.le_refl _
  have HQ : Hid (lq.length ≤ 1048576 ∧ FitPost lq) := ⟨Nat.le_trans PQ.few (by decide), PQ.fits⟩
  clear PQ
  obtain ⟨⟨Z, two⟩, hZ⟩ : ∃ x, twice lq aq = x := ⟨_, rfl⟩
  have HZ : Hid (twice lq aq = (Z, two)) := hZ
  clear hZ
  go_wp2_with fail
  refine (implTwice_any _ lq aq _ HQ.out.2 HQ.out.1 (rq.mono yrq)).mono ?_
  rw [HZ.out]
  dsimp only
  rintro e w6 ⟨vz, rfl, oz, b⟩
  replace d := bw_call d b
  replace hs := hs.below (b.mono y0)
  replace y0 := Nat.le_trans y0 b.size
  replace ra := ra.below (b.mono yra)
  replace yra := Nat.le_trans yra b.size
  replace rb := rb.below (b.mono yrb)
  replace yrb := Nat.le_trans yrb b.size
  replace rx := rx.below (b.mono yrx)
  replace yrx := Nat.le_trans yrx b.size
  replace rp := rp.below (b.mono yrp)
  replace yrp := Nat.le_trans yrp b.size
  replace ry := ry.below (b.mono yry)
  replace yry := Nat.le_trans yry b.size
  replace kM := (b.block _ sM).trans kM
  replace sM := Nat.lt_of_lt_of_le sM b.size
  replace rq := rq.below (b.mono yrq)
  replace yrq := Nat.le_trans yrq b.size
  clear b
  obtain ⟨o3, cz, rfl⟩ := own_slice oz
  have HRZ : Hid _ := own_form15 oz
  have rz := ReadsR.of_own mgC_len oz
  have yrz : w6.heap.size ≤ w6.heap.size := Nat.le_refl _
  clear oz
  go_wp2_with fail
  refine (drawMsgOk_any _ _ _ _ (hs.mono y0)).mono ?_
  rintro e w7 ⟨⟨kdg, dsg, vwg, ⟨sqg, clg, tgg, ⟨kg, nmg, otg, at_g, vag, epg⟩⟩, sg, rcg, rvg⟩, rfl, fg, b⟩
  simp only [mgV]
  replace d := bw_call d b
  replace hs := hs.below (b.mono y0)
  replace y0 := Nat.le_trans y0 b.size
  replace ra := ra.below (b.mono yra)
  replace yra := Nat.le_trans yra b.size
  replace rb := rb.below (b.mono yrb)
  replace yrb := Nat.le_trans yrb b.size
  replace rx := rx.below (b.mono yrx)
  replace yrx := Nat.le_trans yrx b.size
  replace rp := rp.below (b.mono yrp)
  replace yrp := Nat.le_trans yrp b.size
  replace ry := ry.below (b.mono yry)
  replace yry := Nat.le_trans yry b.size
  replace kM := (b.block _ sM).trans kM
  replace sM := Nat.lt_of_lt_of_le sM b.size
  replace rq := rq.below (b.mono yrq)
  replace yrq := Nat.le_trans yrq b.size
  replace rz := rz.below (b.mono yrz)
  replace yrz := Nat.le_trans yrz b.size
  clear b
  have HG : Hid (FitMsg ⟨kdg, dsg, vwg, ⟨sqg, clg, tgg, ⟨kg, nmg, otg, at_g, vag, epg⟩⟩, sg, rcg, rvg⟩) := fg.fit
  clear fg
  have b : Below w7.heap.size w7 (w7.alloc (.cells #[.int .i64 kdg, .int .i64 dsg, .int .i64 vwg, .int .i64 sqg, .int .i64 clg, .int .i64 tgg, .int .i64 kg, .string nmg, .string otg, .int .i64 at_g, .int .i64 vag, .int .i64 epg, .int .i64 sg, .int .i64 rcg, .int .i64 rvg] 38)) := bw_alloc (Below.refl _ _)
  have kG := heap_alloc_new w7 (.cells #[.int .i64 kdg, .int .i64 dsg, .int .i64 vwg, .int .i64 sqg, .int .i64 clg, .int .i64 tgg, .int .i64 kg, .string nmg, .string otg, .int .i64 at_g, .int .i64 vag, .int .i64 epg, .int .i64 sg, .int .i64 rcg, .int .i64 rvg] 38)
  have sG : w7.heap.size < (w7.alloc (.cells #[.int .i64 kdg, .int .i64 dsg, .int .i64 vwg, .int .i64 sqg, .int .i64 clg, .int .i64 tgg, .int .i64 kg, .string nmg, .string otg, .int .i64 at_g, .int .i64 vag, .int .i64 epg, .int .i64 sg, .int .i64 rcg, .int .i64 rvg] 38)).heap.size := by simp
  replace d := bw_call d b
  replace hs := hs.below (b.mono y0)
  replace y0 := Nat.le_trans y0 b.size
  replace ra := ra.below (b.mono yra)
  replace yra := Nat.le_trans yra b.size
  replace rb := rb.below (b.mono yrb)
  replace yrb := Nat.le_trans yrb b.size
  replace rx := rx.below (b.mono yrx)
  replace yrx := Nat.le_trans yrx b.size
  replace rp := rp.below (b.mono yrp)
  replace yrp := Nat.le_trans yrp b.size
  replace ry := ry.below (b.mono yry)
  replace yry := Nat.le_trans yry b.size
  replace kM := (b.block _ sM).trans kM
  replace sM := Nat.lt_of_lt_of_le sM b.size
  replace rq := rq.below (b.mono yrq)
  replace yrq := Nat.le_trans yrq b.size
  replace rz := rz.below (b.mono yrz)
  replace yrz := Nat.le_trans yrz b.size
  clear b
  go_wp2_with fail
  generalize w7.alloc (.cells #[.int .i64 kdg, .int .i64 dsg, .int .i64 vwg, .int .i64 sqg, .int .i64 clg, .int .i64 tgg, .int .i64 kg, .string nmg, .string otg, .int .i64 at_g, .int .i64 vag, .int .i64 epg, .int .i64 sg, .int .i64 rcg, .int .i64 rvg] 38) = W7 at *
  generalize w7.heap.size = nG at *
  refine (specPosted_any _ _ la lb _ HA.out.2 HB.out.2 (ra.mono yra) (rb.mono yrb)).mono ?_
  rw [HX.out]
  dsimp only
  rintro e w8 ⟨vu, rfl, ou, b⟩
  replace d := bw_call d b
  replace hs := hs.below (b.mono y0)
  replace y0 := Nat.le_trans y0 b.size
  replace ra := ra.below (b.mono yra)
  replace yra := Nat.le_trans yra b.size
  replace rb := rb.below (b.mono yrb)
  replace yrb := Nat.le_trans yrb b.size
  replace rx := rx.below (b.mono yrx)
  replace yrx := Nat.le_trans yrx b.size
  replace rp := rp.below (b.mono yrp)
  replace yrp := Nat.le_trans yrp b.size
  replace ry := ry.below (b.mono yry)
  replace yry := Nat.le_trans yry b.size
  replace kM := (b.block _ sM).trans kM
  replace sM := Nat.lt_of_lt_of_le sM b.size
  replace rq := rq.below (b.mono yrq)
  replace yrq := Nat.le_trans yrq b.size
  replace rz := rz.below (b.mono yrz)
  replace yrz := Nat.le_trans yrz b.size
  replace kG := (b.block _ sG).trans kG
  replace sG := Nat.lt_of_lt_of_le sG b.size
  clear b
  obtain ⟨ou1, cu, rfl⟩ := own_slice ou
  have ru := ReadsR.of_own mgC_len ou
  have yru : w8.heap.size ≤ w8.heap.size := Nat.le_refl _
  clear ou
  clear HA HB
  obtain ⟨mo, hmo⟩ : ∃ x, msgOk ⟨kdg, dsg, vwg, ⟨sqg, clg, tgg, ⟨kg, nmg, otg, at_g, vag, epg⟩⟩, sg, rcg, rvg⟩ = x := ⟨_, rfl⟩
  have HIM : ∀ q : BelowOf w8, Calls Try.prog 14 #[.agg #[.int .i64 kdg, .int .i64 dsg, .int .i64 vwg, .int .i64 sqg, .int .i64 clg, .int .i64 tgg, .int .i64 kg, .string nmg, .string otg, .int .i64 at_g, .int .i64 vag, .int .i64 epg, .int .i64 sg, .int .i64 rcg, .int .i64 rvg]] q.w' fun e w' => e = .returned (.bool mo) ∧ Below q.w'.heap.size q.w' w' := fun q => by rw [← hmo]; exact implMsgOk_any kdg dsg vwg sqg clg tgg kg nmg otg at_g vag epg sg rcg rvg q.w' HG.out.1
  have HSM : ∀ q : BelowOf w8, Calls Try.prog 15 #[.agg #[.int .i64 kdg, .int .i64 dsg, .int .i64 vwg, .int .i64 sqg, .int .i64 clg, .int .i64 tgg, .int .i64 kg, .string nmg, .string otg, .int .i64 at_g, .int .i64 vag, .int .i64 epg, .int .i64 sg, .int .i64 rcg, .int .i64 rvg]] q.w' fun e w' => e = .returned (.bool mo) ∧ Below q.w'.heap.size q.w' w' := fun q => by rw [← hmo]; exact specMsgOk_any kdg dsg vwg sqg clg tgg kg nmg otg at_g vag epg sg rcg rvg q.w' HG.out.1.1.1 HG.out.1.1.2
  have HLP : ∀ q : BelowOf w8, Calls Try.prog 13 #[.slice o1 X.length cx, .slice ou1 X.length cu] q.w' fun e w' => e = .returned (.bool true) ∧ Below q.w'.heap.size q.w' w' := fun q => likePost_same _ _ X q.w' ((rx.mono yrx).onto q) ((ru.mono yru).onto q)
  have dg0 := BelowOf.cell (at_cell kG 0) sG
  have dg1 := BelowOf.cell (at_cell kG 1) sG
  have dg2 := BelowOf.cell (at_cell kG 2) sG
  have dg3 := BelowOf.cell (at_cell kG 3) sG
  have dg4 := BelowOf.cell (at_cell kG 4) sG
  have dg5 := BelowOf.cell (at_cell kG 5) sG
  have dg6 := BelowOf.cell (at_cell kG 6) sG
  have dg7 := BelowOf.cell (at_cell kG 7) sG
  have dg8 := BelowOf.cell (at_cell kG 8) sG
  have dg9 := BelowOf.cell (at_cell kG 9) sG
  have dg10 := BelowOf.cell (at_cell kG 10) sG
  have dg11 := BelowOf.cell (at_cell kG 11) sG
  have dg12 := BelowOf.cell (at_cell kG 12) sG
  have dg13 := BelowOf.cell (at_cell kG 13) sG
  have dg14 := BelowOf.cell (at_cell kG 14) sG
  have hne := BelowOf.any w8
  have hxx : ∀ z : Bool, (z != z) = false := fun z => by simp
  go_wp2_with fail
  refine wp_region_of (by kernel_rfl) (by kernel_rfl) ?_
  repeat (go_big_quiet_step ((first | (go_at_call 13; exact calls_of (HLP _)) | (go_at_call 14; exact calls_of (HIM _)) | (go_at_call 15; exact calls_of (HSM _)) | rfl)))
  refine wpQuiet_nil ?_
  intro w9 hw9
  obtain ⟨⟨wx, cx9⟩, hwx⟩ := hw9
  have b : Below w8.heap.size w8 w9 := by rw [hwx]; exact cx9
  clear hwx cx9 wx hne HIM HSM HLP dg0 dg1 dg2 dg3 dg4 dg5 dg6 dg7 dg8 dg9 dg10 dg11 dg12 dg13 dg14
  replace d := bw_call d b
  replace hs := hs.below (b.mono y0)
  replace y0 := Nat.le_trans y0 b.size
  replace ra := ra.below (b.mono yra)
  replace yra := Nat.le_trans yra b.size
  replace rb := rb.below (b.mono yrb)
  replace yrb := Nat.le_trans yrb b.size
  replace rx := rx.below (b.mono yrx)
  replace yrx := Nat.le_trans yrx b.size
  replace rp := rp.below (b.mono yrp)
  replace yrp := Nat.le_trans yrp b.size
  replace ry := ry.below (b.mono yry)
  replace yry := Nat.le_trans yry b.size
  replace kM := (b.block _ sM).trans kM
  replace sM := Nat.lt_of_lt_of_le sM b.size
  replace rq := rq.below (b.mono yrq)
  replace yrq := Nat.le_trans yrq b.size
  replace rz := rz.below (b.mono yrz)
  replace yrz := Nat.le_trans yrz b.size
  replace kG := (b.block _ sG).trans kG
  replace sG := Nat.lt_of_lt_of_le sG b.size
  replace ru := ru.below (b.mono yru)
  replace yru := Nat.le_trans yru b.size
  clear b
  clear ru yru
  clear kG sG
  clear HG hmo
  go_wp2_with fail
  refine (specTaken_any _ lp ap _ HP.out.2 (rp.mono yrp)).mono ?_
  rw [HT.out]
  dsimp only
  rintro e w10 ⟨vt, rfl, ov, b⟩
  replace d := bw_call d b
  replace hs := hs.below (b.mono y0)
  replace y0 := Nat.le_trans y0 b.size
  replace ra := ra.below (b.mono yra)
  replace yra := Nat.le_trans yra b.size
  replace rb := rb.below (b.mono yrb)
  replace yrb := Nat.le_trans yrb b.size
  replace rx := rx.below (b.mono yrx)
  replace yrx := Nat.le_trans yrx b.size
  replace rp := rp.below (b.mono yrp)
  replace yrp := Nat.le_trans yrp b.size
  replace ry := ry.below (b.mono yry)
  replace yry := Nat.le_trans yry b.size
  replace kM := (b.block _ sM).trans kM
  replace sM := Nat.lt_of_lt_of_le sM b.size
  replace rq := rq.below (b.mono yrq)
  replace yrq := Nat.le_trans yrq b.size
  replace rz := rz.below (b.mono yrz)
  replace yrz := Nat.le_trans yrz b.size
  clear b
  obtain ⟨ot1, ct, rfl⟩ := own_slice ov
  have rt := ReadsR.of_own mgC_len ov
  have yrt : w10.heap.size ≤ w10.heap.size := Nat.le_refl _
  clear ov
  have b : Below w10.heap.size w10 (w10.alloc (.cells #[.int .i64 kd, .int .i64 ds, .int .i64 vw, .int .i64 sq, .int .i64 cl, .int .i64 tg, .int .i64 k, .string nm, .string ot, .int .i64 at_, .int .i64 va, .int .i64 ep, .int .i64 s, .int .i64 rc, .int .i64 rv] 38)) := bw_alloc (Below.refl _ _)
  have kW := heap_alloc_new w10 (.cells #[.int .i64 kd, .int .i64 ds, .int .i64 vw, .int .i64 sq, .int .i64 cl, .int .i64 tg, .int .i64 k, .string nm, .string ot, .int .i64 at_, .int .i64 va, .int .i64 ep, .int .i64 s, .int .i64 rc, .int .i64 rv] 38)
  have sW : w10.heap.size < (w10.alloc (.cells #[.int .i64 kd, .int .i64 ds, .int .i64 vw, .int .i64 sq, .int .i64 cl, .int .i64 tg, .int .i64 k, .string nm, .string ot, .int .i64 at_, .int .i64 va, .int .i64 ep, .int .i64 s, .int .i64 rc, .int .i64 rv] 38)).heap.size := by simp
  replace d := bw_call d b
  replace hs := hs.below (b.mono y0)
  replace y0 := Nat.le_trans y0 b.size
  replace ra := ra.below (b.mono yra)
  replace yra := Nat.le_trans yra b.size
  replace rb := rb.below (b.mono yrb)
  replace yrb := Nat.le_trans yrb b.size
  replace rx := rx.below (b.mono yrx)
  replace yrx := Nat.le_trans yrx b.size
  replace rp := rp.below (b.mono yrp)
  replace yrp := Nat.le_trans yrp b.size
  replace ry := ry.below (b.mono yry)
  replace yry := Nat.le_trans yry b.size
  replace kM := (b.block _ sM).trans kM
  replace sM := Nat.lt_of_lt_of_le sM b.size
  replace rq := rq.below (b.mono yrq)
  replace yrq := Nat.le_trans yrq b.size
  replace rz := rz.below (b.mono yrz)
  replace yrz := Nat.le_trans yrz b.size
  replace rt := rt.below (b.mono yrt)
  replace yrt := Nat.le_trans yrt b.size
  clear b
  go_wp2_with fail
  generalize w10.alloc (.cells #[.int .i64 kd, .int .i64 ds, .int .i64 vw, .int .i64 sq, .int .i64 cl, .int .i64 tg, .int .i64 k, .string nm, .string ot, .int .i64 at_, .int .i64 va, .int .i64 ep, .int .i64 s, .int .i64 rc, .int .i64 rv] 38) = WT at *
  generalize w10.heap.size = nW at *
  refine (likePost_same _ _ Y _ (ry.mono yry) (rt.mono yrt)).mono ?_
  rintro e w11 ⟨rfl, b⟩
  replace d := bw_call d b
  replace hs := hs.below (b.mono y0)
  replace y0 := Nat.le_trans y0 b.size
  replace ra := ra.below (b.mono yra)
  replace yra := Nat.le_trans yra b.size
  replace rb := rb.below (b.mono yrb)
  replace yrb := Nat.le_trans yrb b.size
  replace rx := rx.below (b.mono yrx)
  replace yrx := Nat.le_trans yrx b.size
  replace rp := rp.below (b.mono yrp)
  replace yrp := Nat.le_trans yrp b.size
  replace ry := ry.below (b.mono yry)
  replace yry := Nat.le_trans yry b.size
  replace kM := (b.block _ sM).trans kM
  replace sM := Nat.lt_of_lt_of_le sM b.size
  replace rq := rq.below (b.mono yrq)
  replace yrq := Nat.le_trans yrq b.size
  replace rz := rz.below (b.mono yrz)
  replace yrz := Nat.le_trans yrz b.size
  replace rt := rt.below (b.mono yrt)
  replace yrt := Nat.le_trans yrt b.size
  replace kW := (b.block _ sW).trans kW
  replace sW := Nat.lt_of_lt_of_le sW b.size
  clear b
  have pm0 := at_cell kM 0
  have pw0 := at_cell kW 0
  have pm1 := at_cell kM 1
  have pw1 := at_cell kW 1
  have pm2 := at_cell kM 2
  have pw2 := at_cell kW 2
  have pm3 := at_cell kM 3
  have pw3 := at_cell kW 3
  have pm4 := at_cell kM 4
  have pw4 := at_cell kW 4
  have pm5 := at_cell kM 5
  have pw5 := at_cell kW 5
  have pm6 := at_cell kM 6
  have pw6 := at_cell kW 6
  have pm7 := at_cell kM 7
  have pw7 := at_cell kW 7
  have pm8 := at_cell kM 8
  have pw8 := at_cell kW 8
  have pm9 := at_cell kM 9
  have pw9 := at_cell kW 9
  have pm10 := at_cell kM 10
  have pw10 := at_cell kW 10
  have pm11 := at_cell kM 11
  have pw11 := at_cell kW 11
  have pm12 := at_cell kM 12
  have pw12 := at_cell kW 12
  have pm13 := at_cell kM 13
  have pw13 := at_cell kW 13
  have pm14 := at_cell kM 14
  have pw14 := at_cell kW 14
  go_wp2_with (first | (refine wpList_neq15 rfl _ _ _ rfl ⟨kd, ds, vw, ⟨sq, cl, tg, ⟨k, nm, ot, at_, va, ep⟩⟩, s, rc, rv⟩ ⟨kd, ds, vw, ⟨sq, cl, tg, ⟨k, nm, ot, at_, va, ep⟩⟩, s, rc, rv⟩ rfl rfl ?_; rw [mgEq_self]) | fail)
  clear pm0 pw0 pm1 pw1 pm2 pw2 pm3 pw3 pm4 pw4 pm5 pw5 pm6 pw6 pm7 pw7 pm8 pw8 pm9 pw9 pm10 pw10 pm11 pw11 pm12 pw12 pm13 pw13 pm14 pw14
  clear rt yrt
  clear kW sW
  refine (specTwice_any _ lq aq _ HQ.out.2 (rq.mono yrq)).mono ?_
  rw [HZ.out]
  dsimp only
  rintro e w12 ⟨vs, rfl, os, b⟩
  replace d := bw_call d b
  replace hs := hs.below (b.mono y0)
  replace y0 := Nat.le_trans y0 b.size
  replace ra := ra.below (b.mono yra)
  replace yra := Nat.le_trans yra b.size
  replace rb := rb.below (b.mono yrb)
  replace yrb := Nat.le_trans yrb b.size
  replace rx := rx.below (b.mono yrx)
  replace yrx := Nat.le_trans yrx b.size
  replace rp := rp.below (b.mono yrp)
  replace yrp := Nat.le_trans yrp b.size
  replace ry := ry.below (b.mono yry)
  replace yry := Nat.le_trans yry b.size
  replace kM := (b.block _ sM).trans kM
  replace sM := Nat.lt_of_lt_of_le sM b.size
  replace rq := rq.below (b.mono yrq)
  replace yrq := Nat.le_trans yrq b.size
  replace rz := rz.below (b.mono yrz)
  replace yrz := Nat.le_trans yrz b.size
  clear b
  obtain ⟨os1, cs1, rfl⟩ := own_slice os
  have rs := ReadsR.of_own mgC_len os
  have yrs : w12.heap.size ≤ w12.heap.size := Nat.le_refl _
  clear os
  go_wp2_with fail
  refine (likePost_same _ _ Z _ (rz.mono yrz) (rs.mono yrs)).mono ?_
  rintro e w13 ⟨rfl, b⟩
  replace d := bw_call d b
  replace hs := hs.below (b.mono y0)
  replace y0 := Nat.le_trans y0 b.size
  replace ra := ra.below (b.mono yra)
  replace yra := Nat.le_trans yra b.size
  replace rb := rb.below (b.mono yrb)
  replace yrb := Nat.le_trans yrb b.size
  replace rx := rx.below (b.mono yrx)
  replace yrx := Nat.le_trans yrx b.size
  replace rp := rp.below (b.mono yrp)
  replace yrp := Nat.le_trans yrp b.size
  replace ry := ry.below (b.mono yry)
  replace yry := Nat.le_trans yry b.size
  replace kM := (b.block _ sM).trans kM
  replace sM := Nat.lt_of_lt_of_le sM b.size
  replace rq := rq.below (b.mono yrq)
  replace yrq := Nat.le_trans yrq b.size
  replace rz := rz.below (b.mono yrz)
  replace yrz := Nat.le_trans yrz b.size
  replace rs := rs.below (b.mono yrs)
  replace yrs := Nat.le_trans yrs b.size
  clear b
  clear rs yrs
  clear HP HQ
  go_upto_region 19 with fail
  go_cut [148] (fun t wx => t = .bool false ∧ Below w13.heap.size w13 wx)
  case first => as_aux_lemma =>
    cases is
    · go_wp2_with fail
      go_meet
      exact ⟨rfl, Below.refl _ _⟩
    · have hX := posted_true HX.out
      have hlx := rx.le15
      have hXl : X.length = la.length + lb.length := by rw [hX, List.length_append]
      have r1 : ReadsR 15 mgC w2.heap.size w13 (.slice o1 la.length cx) la := by
        have h := reads_take15 rx la.length (by omega)
        have e : X.take la.length = la := by rw [hX, List.take_left]
        rwa [e] at h
      have e2 : X.drop la.length = lb := by rw [hX, List.drop_left]
      have hlm := hlx.2.2
      unfold maxLen at hlm
      have hw1 : IntKind.i64.wrap ((la.length : Int) + (lb.length : Int)) = (X.length : Int) := by rw [IntKind.wrap_i64]; omega
      have j0 : (0 : Int) ≤ (la.length : Int) := by omega
      have j1 : (la.length : Int) ≤ (cx : Int) := by omega
      have j2 : (la.length : Int) ≤ (X.length : Int) := by omega
      have j3 : (X.length : Int) ≤ (cx : Int) := by omega
      rcases HRX.out with ⟨ho, h0, hc0⟩ | ⟨gx, ho⟩
      · have ea : la = [] := List.eq_nil_of_length_eq_zero (by omega)
        have eb : lb = [] := List.eq_nil_of_length_eq_zero (by omega)
        have ex : X = [] := List.eq_nil_of_length_eq_zero h0
        subst ho ea eb ex hc0
        clear hX hlx hXl r1 e2 hlm hw1 j0 j1 j2 j3 h0
        go_wp2_with fail
        refine (likePost_same _ _ [] _ (reads_nil15 _ _ _ _) (reads_nil15 _ _ _ _)).mono ?_
        rintro e w14 ⟨rfl, b⟩
        go_wp2_with fail
        refine (likePost_same _ _ [] _ (reads_nil15 _ _ _ _) (reads_nil15 _ _ _ _)).mono ?_
        rintro e w15 ⟨rfl, b2⟩
        go_wp2_with fail
        go_meet
        exact ⟨rfl, bw_call b b2⟩
      · subst ho
        by_cases hcc : la.length = cx
        · have r2 : ReadsR 15 mgC w2.heap.size w13 (.slice (some ⟨gx, 0, none⟩) (X.length - la.length) 0) lb := by
            have h0 : lb.length = 0 := by omega
            have e : X.length - la.length = 0 := by omega
            rw [List.eq_nil_of_length_eq_zero h0, e]
            exact reads_nil15 _ _ _ _
          subst hcc
          clear hX hlx hXl e2 hlm
          go_wp2_with fail
          refine (likePost_same _ _ la _ (r1.mono yrx) (ra.mono yra)).mono ?_
          rintro e w14 ⟨rfl, b⟩
          have r3 := (r2.mono yrx).onto ⟨w14, b⟩
          have r4 := (rb.mono yrb).onto ⟨w14, b⟩
          go_wp2_with fail
          refine (likePost_same _ _ lb _ r3 r4).mono ?_
          rintro e w15 ⟨rfl, b2⟩
          go_wp2_with fail
          go_meet
          exact ⟨rfl, bw_call b b2⟩
        · have r2 : ReadsR 15 mgC w2.heap.size w13 (.slice (some ⟨gx, la.length * 15, none⟩) (X.length - la.length) (cx - la.length)) lb := by
            have h := reads_drop15 rx la.length (by omega)
            rw [e2, Nat.zero_add] at h
            exact h
          have hcc2 : ¬ (cx - la.length = 0) := by omega
          clear hX hlx hXl e2 hlm
          go_wp2_with fail
          refine (likePost_same _ _ la _ (r1.mono yrx) (ra.mono yra)).mono ?_
          rintro e w14 ⟨rfl, b⟩
          have r3 := (r2.mono yrx).onto ⟨w14, b⟩
          have r4 := (rb.mono yrb).onto ⟨w14, b⟩
          go_wp2_with fail
          refine (likePost_same _ _ lb _ r3 r4).mono ?_
          rintro e w15 ⟨rfl, b2⟩
          go_wp2_with fail
          go_meet
          exact ⟨rfl, bw_call b b2⟩
  case rest =>
    obtain ⟨rfl, b⟩ := hcut
    replace d := bw_call d b
    replace hs := hs.below (b.mono y0)
    replace y0 := Nat.le_trans y0 b.size
    replace ra := ra.below (b.mono yra)
    replace yra := Nat.le_trans yra b.size
    replace rb := rb.below (b.mono yrb)
    replace yrb := Nat.le_trans yrb b.size
    replace rx := rx.below (b.mono yrx)
    replace yrx := Nat.le_trans yrx b.size
    replace rp := rp.below (b.mono yrp)
    replace yrp := Nat.le_trans yrp b.size
    replace ry := ry.below (b.mono yry)
    replace yry := Nat.le_trans yry b.size
    replace kM := (b.block _ sM).trans kM
    replace sM := Nat.lt_of_lt_of_le sM b.size
    replace rq := rq.below (b.mono yrq)
    replace yrq := Nat.le_trans yrq b.size
    replace rz := rz.below (b.mono yrz)
    replace yrz := Nat.le_trans yrz b.size
    clear b
    clear rx yrx
    clear ra yra
    clear rb yrb
    clear HX HRX
    go_upto_region 21 with fail
    go_cut [178] (fun t wx => t = .bool false ∧ Below wc.heap.size wc wx)
    case first => as_aux_lemma =>
      cases two
      · go_wp2_with fail
        go_quiet (fail)
        go_wp2_with fail
        go_meet
        exact ⟨rfl, by first | exact Below.refl _ _ | exact ⟨rfl, rfl, rfl, Nat.le_refl _, fun _ _ => rfl⟩⟩
      · obtain ⟨ha0, hak, hZ⟩ := twice_true HZ.out
        obtain ⟨A, rfl⟩ := Int.eq_ofNat_of_zero_le ha0
        replace hak : A < lq.length := by simpa using hak
        have hZ2 : Z = lq ++ [lq[A]] := by simpa using hZ
        have hlz := rz.le15
        have hlq := rq.le15
        have hZl : Z.length = lq.length + 1 := by rw [hZ2, List.length_append]; rfl
        have hlm := hlz.2.2
        unfold maxLen at hlm
        have rz1 : ReadsR 15 mgC w6.heap.size wc (.slice o3 lq.length cz) lq := by
          have h := reads_take15 rz lq.length (by omega)
          have e : Z.take lq.length = lq := by rw [hZ2, List.take_left]
          rwa [e] at h
        obtain ⟨oz', cz', ez, -, hcz, -⟩ := rz
        simp only [Value.slice.injEq] at ez
        obtain ⟨rfl, -, rfl⟩ := ez
        obtain ⟨gz, fz, rfl, qz, Z0⟩ := mg_cells hcz lq.length (by omega)
        have eZ : Z[lq.length]'(by omega) = lq[A] := by simp [hZ2]
        rw [eZ] at Z0
        have rqk := rq
        obtain ⟨oq', cq', eq', -, hcq, -⟩ := rq
        simp only [Value.slice.injEq] at eq'
        obtain ⟨rfl, -, rfl⟩ := eq'
        obtain ⟨gq, fq, eqq, qq, Q0⟩ := mg_cells hcq A hak
        simp only [Option.some.injEq, Addr.mk.injEq, and_true] at eqq
        obtain ⟨rfl, rfl⟩ := eqq
        simp only [Nat.zero_add] at Q0
        have HLQ : ∀ q : BelowOf wc, Calls Try.prog 13 #[.slice (some ⟨gz, fz, none⟩) lq.length cz, .slice (some ⟨g4, 0, none⟩) lq.length c4] q.w' fun e w' => e = .returned (.bool true) ∧ Below q.w'.heap.size q.w' w' := fun q => likePost_same _ _ lq q.w' ((rz1.mono yrz).onto q) ((rqk.mono yrq).onto q)
        clear hZ hZ2 eZ hcz hcq rz1 rqk HRZ HZ
        generalize lq[A] = x at Z0 Q0
        obtain ⟨kdx, dsx, vwx, ⟨sqx, clx, tgx, ⟨kx, nmx, otx, atx_, vax, epx⟩⟩, sx, rcx, rvx⟩ := x
        simp only at Z0 Q0
        obtain ⟨zz0, zz1, zz2, zz3, zz4, zz5, zz6, zz7, zz8, zz9, zz10, zz11, zz12, zz13, zz14⟩ := Z0
        obtain ⟨qq0, qq1, qq2, qq3, qq4, qq5, qq6, qq7, qq8, qq9, qq10, qq11, qq12, qq13, qq14⟩ := Q0
        have lz : gz < wc.heap.size := Nat.lt_of_lt_of_le qz yrz
        have lqq : g4 < wc.heap.size := Nat.lt_of_lt_of_le qq yrq
        have zf0 := BelowOf.cell zz0 lz
        have qf0 := BelowOf.cell qq0 lqq
        have zf1 := BelowOf.cell zz1 lz
        have qf1 := BelowOf.cell qq1 lqq
        have zf2 := BelowOf.cell zz2 lz
        have qf2 := BelowOf.cell qq2 lqq
        have zf3 := BelowOf.cell zz3 lz
        have qf3 := BelowOf.cell qq3 lqq
        have zf4 := BelowOf.cell zz4 lz
        have qf4 := BelowOf.cell qq4 lqq
        have zf5 := BelowOf.cell zz5 lz
        have qf5 := BelowOf.cell qq5 lqq
        have zf6 := BelowOf.cell zz6 lz
        have qf6 := BelowOf.cell qq6 lqq
        have zf7 := BelowOf.cell zz7 lz
        have qf7 := BelowOf.cell qq7 lqq
        have zf8 := BelowOf.cell zz8 lz
        have qf8 := BelowOf.cell qq8 lqq
        have zf9 := BelowOf.cell zz9 lz
        have qf9 := BelowOf.cell qq9 lqq
        have zf10 := BelowOf.cell zz10 lz
        have qf10 := BelowOf.cell qq10 lqq
        have zf11 := BelowOf.cell zz11 lz
        have qf11 := BelowOf.cell qq11 lqq
        have zf12 := BelowOf.cell zz12 lz
        have qf12 := BelowOf.cell qq12 lqq
        have zf13 := BelowOf.cell zz13 lz
        have qf13 := BelowOf.cell qq13 lqq
        have zf14 := BelowOf.cell zz14 lz
        have qf14 := BelowOf.cell qq14 lqq
        have hw1 : IntKind.i64.wrap ((lq.length : Int) + 1) = (Z.length : Int) := by rw [IntKind.wrap_i64]; omega
        have j0 : (0 : Int) ≤ (lq.length : Int) := by omega
        have j1 : (lq.length : Int) < (Z.length : Int) := by omega
        have j2 : (lq.length : Int) ≤ (cz : Int) := by omega
        have j3 : (0 : Int) ≤ (A : Int) := by omega
        have j4 : (A : Int) < (lq.length : Int) := by omega
        have hne := BelowOf.any wc
        clear hlz hlq hZl hlm zz0 qq0 zz1 qq1 zz2 qq2 zz3 qq3 zz4 qq4 zz5 qq5 zz6 qq6 zz7 qq7 zz8 qq8 zz9 qq9 zz10 qq10 zz11 qq11 zz12 qq12 zz13 qq13 zz14 qq14
        go_wp2_with fail
        refine wp_region_of (by kernel_rfl) (by kernel_rfl) ?_
        repeat (first
          | (go_big_quiet_want; refine quiet_neq15 _ _ _ rfl ⟨kdx, dsx, vwx, ⟨sqx, clx, tgx, ⟨kx, nmx, otx, atx_, vax, epx⟩⟩, sx, rcx, rvx⟩ ⟨kdx, dsx, vwx, ⟨sqx, clx, tgx, ⟨kx, nmx, otx, atx_, vax, epx⟩⟩, sx, rcx, rvx⟩ rfl rfl ?_; rw [mgEq_self]; simp only [Act.put, List.setIfInBounds_toArray, List.set_cons_succ, List.set_cons_zero, Bool.not_true]; go_big_quiet_on)
          | go_big_quiet_step ((first | (go_at_call 13; exact calls_of (HLQ _)) | rfl)))
        refine wpQuiet_nil ?_
        intro w14 hw14
        obtain ⟨⟨wx, cx9⟩, hwx⟩ := hw14
        have b : Below wc.heap.size wc w14 := by rw [hwx]; exact cx9
        clear hwx cx9 wx hne HLQ zf0 qf0 zf1 qf1 zf2 qf2 zf3 qf3 zf4 qf4 zf5 qf5 zf6 qf6 zf7 qf7 zf8 qf8 zf9 qf9 zf10 qf10 zf11 qf11 zf12 qf12 zf13 qf13 zf14 qf14
        go_wp2_with fail
        go_meet
        exact ⟨rfl, b⟩
    case rest =>
      obtain ⟨rfl, b⟩ := hcut
      replace d := bw_call d b
      replace hs := hs.below (b.mono y0)
      replace y0 := Nat.le_trans y0 b.size
      replace rp := rp.below (b.mono yrp)
      replace yrp := Nat.le_trans yrp b.size
      replace ry := ry.below (b.mono yry)
      replace yry := Nat.le_trans yry b.size
      replace kM := (b.block _ sM).trans kM
      replace sM := Nat.lt_of_lt_of_le sM b.size
      replace rq := rq.below (b.mono yrq)
      replace yrq := Nat.le_trans yrq b.size
      replace rz := rz.below (b.mono yrz)
      replace yrz := Nat.le_trans yrz b.size
      clear b
      clear rq yrq
      clear rz yrz
      clear HZ HRZ haq
      go_upto_region 23 with fail
      cases took
      · rcases taken_false HT.out with hY | hY
        · subst hY
          go_wp2_with fail
          refine (likePost_same _ _ _ _ (ry.mono yry) (rp.mono yrp)).mono ?_
          rintro e w16 ⟨rfl, b⟩
          replace d := bw_call d b
          replace hs := hs.below (b.mono y0)
          replace y0 := Nat.le_trans y0 b.size
          replace rp := rp.below (b.mono yrp)
          replace yrp := Nat.le_trans yrp b.size
          replace ry := ry.below (b.mono yry)
          replace yry := Nat.le_trans yry b.size
          replace kM := (b.block _ sM).trans kM
          replace sM := Nat.lt_of_lt_of_le sM b.size
          clear b
          go_wp2_with fail
          go_ret
          exact ⟨rfl, d⟩
        · subst hY
          by_cases hp0 : lp.length = 0
          · have ep : lp = [] := List.eq_nil_of_length_eq_zero hp0
            subst ep
            go_wp2_with fail
            refine (likePost_same _ _ [] _ (reads_nil15 _ _ _ _) (reads_nil15 _ _ _ _)).mono ?_
            rintro e w16 ⟨rfl, b⟩
            replace d := bw_call d b
            replace hs := hs.below (b.mono y0)
            replace y0 := Nat.le_trans y0 b.size
            replace rp := rp.below (b.mono yrp)
            replace yrp := Nat.le_trans yrp b.size
            replace ry := ry.below (b.mono yry)
            replace yry := Nat.le_trans yry b.size
            replace kM := (b.block _ sM).trans kM
            replace sM := Nat.lt_of_lt_of_le sM b.size
            clear b
            go_wp2_with fail
            go_ret
            exact ⟨rfl, d⟩
          · go_wp2_with fail
            refine (likePost_len _ _ [] lp _ (ry.mono yry) (rp.mono yrp) (by simp only [List.length_nil]; omega)).mono ?_
            rintro e w16 ⟨rfl, b⟩
            replace d := bw_call d b
            replace hs := hs.below (b.mono y0)
            replace y0 := Nat.le_trans y0 b.size
            replace rp := rp.below (b.mono yrp)
            replace yrp := Nat.le_trans yrp b.size
            replace ry := ry.below (b.mono yry)
            replace yry := Nat.le_trans yry b.size
            replace kM := (b.block _ sM).trans kM
            replace sM := Nat.lt_of_lt_of_le sM b.size
            clear b
            go_wp2_with fail
            go_ret
            exact ⟨rfl, d⟩
      · obtain ⟨ha0, hak, hY, hM⟩ := taken_true HT.out
        obtain ⟨A, rfl⟩ := Int.eq_ofNat_of_zero_le ha0
        replace hak : A < lp.length := by simpa using hak
        have hY2 : Y = lp.take A ++ lp.drop (A + 1) := by simpa using hY
        have hM2 : lp[A] = ⟨kd, ds, vw, ⟨sq, cl, tg, ⟨k, nm, ot, at_, va, ep⟩⟩, s, rc, rv⟩ := by simpa using hM.symm
        have hly := ry.le15
        have hlp := rp.le15
        have hYl : Y.length + 1 = lp.length := by rw [hY2, List.length_append, List.length_take, List.length_drop]; omega
        have hlm := hlp.2.2
        unfold maxLen at hlm
        have htk : (lp.take A).length = A := by rw [List.length_take]; omega
        have ry1 : ReadsR 15 mgC nM wc (.slice o2 A cy) (lp.take A) := by
          have h := reads_take15 ry A (by omega)
          have e : Y.take A = lp.take A := by rw [hY2, List.take_left' htk]
          rwa [e] at h
        have eyd : Y.drop A = lp.drop (A + 1) := by rw [hY2, List.drop_left' htk]
        have rp1 := reads_take15 rp A (by omega)
        have rpk := rp
        obtain ⟨op', cp', ep', -, hcp, -⟩ := rp
        simp only [Value.slice.injEq] at ep'
        obtain ⟨rfl, -, rfl⟩ := ep'
        obtain ⟨gp, fp, epp, qp, P0⟩ := mg_cells hcp A hak
        simp only [Option.some.injEq, Addr.mk.injEq, and_true] at epp
        obtain ⟨rfl, rfl⟩ := epp
        simp only [Nat.zero_add] at P0
        rw [hM2] at P0
        simp only at P0
        obtain ⟨pp0, pp1, pp2, pp3, pp4, pp5, pp6, pp7, pp8, pp9, pp10, pp11, pp12, pp13, pp14⟩ := P0
        have lpp : g3 < wc.heap.size := Nat.lt_of_lt_of_le qp yrp
        have pf0 := BelowOf.cell pp0 lpp
        have mf0 := BelowOf.cell (at_cell kM 0) sM
        have pf1 := BelowOf.cell pp1 lpp
        have mf1 := BelowOf.cell (at_cell kM 1) sM
        have pf2 := BelowOf.cell pp2 lpp
        have mf2 := BelowOf.cell (at_cell kM 2) sM
        have pf3 := BelowOf.cell pp3 lpp
        have mf3 := BelowOf.cell (at_cell kM 3) sM
        have pf4 := BelowOf.cell pp4 lpp
        have mf4 := BelowOf.cell (at_cell kM 4) sM
        have pf5 := BelowOf.cell pp5 lpp
        have mf5 := BelowOf.cell (at_cell kM 5) sM
        have pf6 := BelowOf.cell pp6 lpp
        have mf6 := BelowOf.cell (at_cell kM 6) sM
        have pf7 := BelowOf.cell pp7 lpp
        have mf7 := BelowOf.cell (at_cell kM 7) sM
        have pf8 := BelowOf.cell pp8 lpp
        have mf8 := BelowOf.cell (at_cell kM 8) sM
        have pf9 := BelowOf.cell pp9 lpp
        have mf9 := BelowOf.cell (at_cell kM 9) sM
        have pf10 := BelowOf.cell pp10 lpp
        have mf10 := BelowOf.cell (at_cell kM 10) sM
        have pf11 := BelowOf.cell pp11 lpp
        have mf11 := BelowOf.cell (at_cell kM 11) sM
        have pf12 := BelowOf.cell pp12 lpp
        have mf12 := BelowOf.cell (at_cell kM 12) sM
        have pf13 := BelowOf.cell pp13 lpp
        have mf13 := BelowOf.cell (at_cell kM 13) sM
        have pf14 := BelowOf.cell pp14 lpp
        have mf14 := BelowOf.cell (at_cell kM 14) sM
        have hw1 : IntKind.i64.wrap ((A : Int) + 1) = (A : Int) + 1 := by rw [IntKind.wrap_i64]; omega
        have hw2 : ((A : Int) + 1).toNat = A + 1 := by omega
        have j0 : (0 : Int) ≤ (A : Int) := by omega
        have j1 : (A : Int) < (lp.length : Int) := by omega
        have j2 : (A : Int) ≤ (cy : Int) := by omega
        have j3 : (A : Int) ≤ (c3 : Int) := by omega
        have j4 : (A : Int) ≤ (Y.length : Int) := by omega
        have j5 : (Y.length : Int) ≤ (cy : Int) := by omega
        have j6 : (0 : Int) ≤ (A : Int) + 1 := by omega
        have j7 : (A : Int) + 1 ≤ (lp.length : Int) := by omega
        have j8 : (lp.length : Int) ≤ (c3 : Int) := by omega
        have HL1 : ∀ q : BelowOf wc, Calls Try.prog 13 #[.slice o2 A cy, .slice (some ⟨g3, 0, none⟩) A c3] q.w' fun e w' => e = .returned (.bool true) ∧ Below q.w'.heap.size q.w' w' := fun q => likePost_same _ _ _ q.w' ((ry1.mono yry).onto q) ((rp1.mono yrp).onto q)
        have hne := BelowOf.any wc
        by_cases hca : A = cy
        · rcases HRY.out with ⟨ho, h0, hc0⟩ | ⟨gy, ho⟩
          · subst ho
            clear h0 hc0
            have hcb : Y.length = cy := by omega
            by_cases hcp2 : A + 1 = c3
            · as_aux_lemma =>
              subst hca hcp2
              have hcb2 := hcb
              have ry2 : ReadsR 15 mgC nM wc (.slice (none) (Y.length - A) 0) (lp.drop (A + 1)) := by
                have e : Y.length - A = 0 := by omega
                rw [e, List.drop_of_length_le (by omega)]
                exact reads_nil15 _ _ _ _
              have rp2 : ReadsR 15 mgC w3.heap.size wc (.slice (some ⟨g3, 0, none⟩) (lp.length - (A + 1)) 0) (lp.drop (A + 1)) := by
                have e : lp.length - (A + 1) = 0 := by omega
                rw [e, List.drop_of_length_le (by omega)]
                exact reads_nil15 _ _ _ _
              have HL2 : ∀ q : BelowOf wc, Calls Try.prog 13 #[(.slice (none) (Y.length - A) 0), (.slice (some ⟨g3, 0, none⟩) (lp.length - (A + 1)) 0)] q.w' fun e w' => e = .returned (.bool true) ∧ Below q.w'.heap.size q.w' w' := fun q => likePost_same _ _ _ q.w' ((ry2.mono yry).onto q) ((rp2.mono yrp).onto q)
              try clear hcb2
              try clear hcb
              clear ry2 rp2 ry1 rp1 rpk ry hY hY2 hM hM2 hly hlp hYl hlm htk eyd hcp
              go_wp2_with fail
              refine wp_region_of (by kernel_rfl) (by kernel_rfl) ?_
              repeat (first
                | (go_big_quiet_want; refine quiet_eql15 _ _ _ rfl ⟨kd, ds, vw, ⟨sq, cl, tg, ⟨k, nm, ot, at_, va, ep⟩⟩, s, rc, rv⟩ ⟨kd, ds, vw, ⟨sq, cl, tg, ⟨k, nm, ot, at_, va, ep⟩⟩, s, rc, rv⟩ rfl rfl ?_; rw [mgEq_self]; simp only [Act.put, List.setIfInBounds_toArray, List.set_cons_succ, List.set_cons_zero]; go_big_quiet_on)
                | go_big_quiet_step ((first | (go_at_call 13; first | with_reducible exact calls_of (HL1 _) | with_reducible exact calls_of (HL2 _)) | rfl)))
              refine wpQuiet_nil ?_
              intro w16 hw16
              obtain ⟨⟨wx, cx9⟩, hwx⟩ := hw16
              have b : Below wc.heap.size wc w16 := by rw [hwx]; exact cx9
              clear hwx cx9 wx hne HL1 HL2 pf0 mf0 pf1 mf1 pf2 mf2 pf3 mf3 pf4 mf4 pf5 mf5 pf6 mf6 pf7 mf7 pf8 mf8 pf9 mf9 pf10 mf10 pf11 mf11 pf12 mf12 pf13 mf13 pf14 mf14
              have d16 := bw_call d b
              go_wp2_with fail
              go_ret
              exact ⟨rfl, d16⟩
            · as_aux_lemma =>
              subst hca
              have hcb2 := hcb
              have ry2 : ReadsR 15 mgC nM wc (.slice (none) (Y.length - A) 0) (lp.drop (A + 1)) := by
                have e : Y.length - A = 0 := by omega
                rw [e, List.drop_of_length_le (by omega)]
                exact reads_nil15 _ _ _ _
              have rp2 : ReadsR 15 mgC w3.heap.size wc (.slice (some ⟨g3, (A + 1) * 15, none⟩) (lp.length - (A + 1)) (c3 - (A + 1))) (lp.drop (A + 1)) := by
                have h := reads_drop15 rpk (A + 1) (by omega)
                rw [Nat.zero_add] at h
                exact h
              have HL2 : ∀ q : BelowOf wc, Calls Try.prog 13 #[(.slice (none) (Y.length - A) 0), (.slice (some ⟨g3, (A + 1) * 15, none⟩) (lp.length - (A + 1)) (c3 - (A + 1)))] q.w' fun e w' => e = .returned (.bool true) ∧ Below q.w'.heap.size q.w' w' := fun q => likePost_same _ _ _ q.w' ((ry2.mono yry).onto q) ((rp2.mono yrp).onto q)
              try clear hcb2
              try clear hcb
              clear ry2 rp2 ry1 rp1 rpk ry hY hY2 hM hM2 hly hlp hYl hlm htk eyd hcp
              go_wp2_with fail
              refine wp_region_of (by kernel_rfl) (by kernel_rfl) ?_
              repeat (first
                | (go_big_quiet_want; refine quiet_eql15 _ _ _ rfl ⟨kd, ds, vw, ⟨sq, cl, tg, ⟨k, nm, ot, at_, va, ep⟩⟩, s, rc, rv⟩ ⟨kd, ds, vw, ⟨sq, cl, tg, ⟨k, nm, ot, at_, va, ep⟩⟩, s, rc, rv⟩ rfl rfl ?_; rw [mgEq_self]; simp only [Act.put, List.setIfInBounds_toArray, List.set_cons_succ, List.set_cons_zero]; go_big_quiet_on)
                | go_big_quiet_step ((first | (go_at_call 13; first | with_reducible exact calls_of (HL1 _) | with_reducible exact calls_of (HL2 _)) | rfl)))
              refine wpQuiet_nil ?_
              intro w16 hw16
              obtain ⟨⟨wx, cx9⟩, hwx⟩ := hw16
              have b : Below wc.heap.size wc w16 := by rw [hwx]; exact cx9
              clear hwx cx9 wx hne HL1 HL2 pf0 mf0 pf1 mf1 pf2 mf2 pf3 mf3 pf4 mf4 pf5 mf5 pf6 mf6 pf7 mf7 pf8 mf8 pf9 mf9 pf10 mf10 pf11 mf11 pf12 mf12 pf13 mf13 pf14 mf14
              have d16 := bw_call d b
              go_wp2_with fail
              go_ret
              exact ⟨rfl, d16⟩
          · subst ho
            have hcb : Y.length = cy := by omega
            by_cases hcp2 : A + 1 = c3
            · as_aux_lemma =>
              subst hca hcp2
              have hcb2 := hcb
              have ry2 : ReadsR 15 mgC nM wc (.slice (some ⟨gy, 0, none⟩) (Y.length - A) 0) (lp.drop (A + 1)) := by
                have e : Y.length - A = 0 := by omega
                rw [e, List.drop_of_length_le (by omega)]
                exact reads_nil15 _ _ _ _
              have rp2 : ReadsR 15 mgC w3.heap.size wc (.slice (some ⟨g3, 0, none⟩) (lp.length - (A + 1)) 0) (lp.drop (A + 1)) := by
                have e : lp.length - (A + 1) = 0 := by omega
                rw [e, List.drop_of_length_le (by omega)]
                exact reads_nil15 _ _ _ _
              have HL2 : ∀ q : BelowOf wc, Calls Try.prog 13 #[(.slice (some ⟨gy, 0, none⟩) (Y.length - A) 0), (.slice (some ⟨g3, 0, none⟩) (lp.length - (A + 1)) 0)] q.w' fun e w' => e = .returned (.bool true) ∧ Below q.w'.heap.size q.w' w' := fun q => likePost_same _ _ _ q.w' ((ry2.mono yry).onto q) ((rp2.mono yrp).onto q)
              try clear hcb2
              try clear hcb
              clear ry2 rp2 ry1 rp1 rpk ry hY hY2 hM hM2 hly hlp hYl hlm htk eyd hcp
              go_wp2_with fail
              refine wp_region_of (by kernel_rfl) (by kernel_rfl) ?_
              repeat (first
                | (go_big_quiet_want; refine quiet_eql15 _ _ _ rfl ⟨kd, ds, vw, ⟨sq, cl, tg, ⟨k, nm, ot, at_, va, ep⟩⟩, s, rc, rv⟩ ⟨kd, ds, vw, ⟨sq, cl, tg, ⟨k, nm, ot, at_, va, ep⟩⟩, s, rc, rv⟩ rfl rfl ?_; rw [mgEq_self]; simp only [Act.put, List.setIfInBounds_toArray, List.set_cons_succ, List.set_cons_zero]; go_big_quiet_on)
                | go_big_quiet_step ((first | (go_at_call 13; first | with_reducible exact calls_of (HL1 _) | with_reducible exact calls_of (HL2 _)) | rfl)))
              refine wpQuiet_nil ?_
              intro w16 hw16
              obtain ⟨⟨wx, cx9⟩, hwx⟩ := hw16
              have b : Below wc.heap.size wc w16 := by rw [hwx]; exact cx9
              clear hwx cx9 wx hne HL1 HL2 pf0 mf0 pf1 mf1 pf2 mf2 pf3 mf3 pf4 mf4 pf5 mf5 pf6 mf6 pf7 mf7 pf8 mf8 pf9 mf9 pf10 mf10 pf11 mf11 pf12 mf12 pf13 mf13 pf14 mf14
              have d16 := bw_call d b
              go_wp2_with fail
              go_ret
              exact ⟨rfl, d16⟩
            · as_aux_lemma =>
              subst hca
              have hcb2 := hcb
              have ry2 : ReadsR 15 mgC nM wc (.slice (some ⟨gy, 0, none⟩) (Y.length - A) 0) (lp.drop (A + 1)) := by
                have e : Y.length - A = 0 := by omega
                rw [e, List.drop_of_length_le (by omega)]
                exact reads_nil15 _ _ _ _
              have rp2 : ReadsR 15 mgC w3.heap.size wc (.slice (some ⟨g3, (A + 1) * 15, none⟩) (lp.length - (A + 1)) (c3 - (A + 1))) (lp.drop (A + 1)) := by
                have h := reads_drop15 rpk (A + 1) (by omega)
                rw [Nat.zero_add] at h
                exact h
              have HL2 : ∀ q : BelowOf wc, Calls Try.prog 13 #[(.slice (some ⟨gy, 0, none⟩) (Y.length - A) 0), (.slice (some ⟨g3, (A + 1) * 15, none⟩) (lp.length - (A + 1)) (c3 - (A + 1)))] q.w' fun e w' => e = .returned (.bool true) ∧ Below q.w'.heap.size q.w' w' := fun q => likePost_same _ _ _ q.w' ((ry2.mono yry).onto q) ((rp2.mono yrp).onto q)
              try clear hcb2
              try clear hcb
              clear ry2 rp2 ry1 rp1 rpk ry hY hY2 hM hM2 hly hlp hYl hlm htk eyd hcp
              go_wp2_with fail
              refine wp_region_of (by kernel_rfl) (by kernel_rfl) ?_
              repeat (first
                | (go_big_quiet_want; refine quiet_eql15 _ _ _ rfl ⟨kd, ds, vw, ⟨sq, cl, tg, ⟨k, nm, ot, at_, va, ep⟩⟩, s, rc, rv⟩ ⟨kd, ds, vw, ⟨sq, cl, tg, ⟨k, nm, ot, at_, va, ep⟩⟩, s, rc, rv⟩ rfl rfl ?_; rw [mgEq_self]; simp only [Act.put, List.setIfInBounds_toArray, List.set_cons_succ, List.set_cons_zero]; go_big_quiet_on)
                | go_big_quiet_step ((first | (go_at_call 13; first | with_reducible exact calls_of (HL1 _) | with_reducible exact calls_of (HL2 _)) | rfl)))
              refine wpQuiet_nil ?_
              intro w16 hw16
              obtain ⟨⟨wx, cx9⟩, hwx⟩ := hw16
              have b : Below wc.heap.size wc w16 := by rw [hwx]; exact cx9
              clear hwx cx9 wx hne HL1 HL2 pf0 mf0 pf1 mf1 pf2 mf2 pf3 mf3 pf4 mf4 pf5 mf5 pf6 mf6 pf7 mf7 pf8 mf8 pf9 mf9 pf10 mf10 pf11 mf11 pf12 mf12 pf13 mf13 pf14 mf14
              have d16 := bw_call d b
              go_wp2_with fail
              go_ret
              exact ⟨rfl, d16⟩
        · rcases HRY.out with ⟨ho, h0, hc0⟩ | ⟨gy, ho⟩
          · omega
          subst ho
          by_cases hcp2 : A + 1 = c3
          · as_aux_lemma =>
            subst hcp2
            have ry2 : ReadsR 15 mgC nM wc (.slice (some ⟨gy, A * 15, none⟩) (Y.length - A) (cy - A)) (lp.drop (A + 1)) := by
              have h := reads_drop15 ry A (by omega)
              rw [eyd, Nat.zero_add] at h
              exact h
            have rp2 : ReadsR 15 mgC w3.heap.size wc (.slice (some ⟨g3, 0, none⟩) (lp.length - (A + 1)) 0) (lp.drop (A + 1)) := by
              have e : lp.length - (A + 1) = 0 := by omega
              rw [e, List.drop_of_length_le (by omega)]
              exact reads_nil15 _ _ _ _
            have HL2 : ∀ q : BelowOf wc, Calls Try.prog 13 #[(.slice (some ⟨gy, A * 15, none⟩) (Y.length - A) (cy - A)), (.slice (some ⟨g3, 0, none⟩) (lp.length - (A + 1)) 0)] q.w' fun e w' => e = .returned (.bool true) ∧ Below q.w'.heap.size q.w' w' := fun q => likePost_same _ _ _ q.w' ((ry2.mono yry).onto q) ((rp2.mono yrp).onto q)
            try clear hcb2
            try clear hcb
            clear ry2 rp2 ry1 rp1 rpk ry hY hY2 hM hM2 hly hlp hYl hlm htk eyd hcp
            go_wp2_with fail
            refine wp_region_of (by kernel_rfl) (by kernel_rfl) ?_
            repeat (first
              | (go_big_quiet_want; refine quiet_eql15 _ _ _ rfl ⟨kd, ds, vw, ⟨sq, cl, tg, ⟨k, nm, ot, at_, va, ep⟩⟩, s, rc, rv⟩ ⟨kd, ds, vw, ⟨sq, cl, tg, ⟨k, nm, ot, at_, va, ep⟩⟩, s, rc, rv⟩ rfl rfl ?_; rw [mgEq_self]; simp only [Act.put, List.setIfInBounds_toArray, List.set_cons_succ, List.set_cons_zero]; go_big_quiet_on)
              | go_big_quiet_step ((first | (go_at_call 13; first | with_reducible exact calls_of (HL1 _) | with_reducible exact calls_of (HL2 _)) | rfl)))
            refine wpQuiet_nil ?_
            intro w16 hw16
            obtain ⟨⟨wx, cx9⟩, hwx⟩ := hw16
            have b : Below wc.heap.size wc w16 := by rw [hwx]; exact cx9
            clear hwx cx9 wx hne HL1 HL2 pf0 mf0 pf1 mf1 pf2 mf2 pf3 mf3 pf4 mf4 pf5 mf5 pf6 mf6 pf7 mf7 pf8 mf8 pf9 mf9 pf10 mf10 pf11 mf11 pf12 mf12 pf13 mf13 pf14 mf14
            have d16 := bw_call d b
            go_wp2_with fail
            go_ret
            exact ⟨rfl, d16⟩
          · as_aux_lemma =>
            have ry2 : ReadsR 15 mgC nM wc (.slice (some ⟨gy, A * 15, none⟩) (Y.length - A) (cy - A)) (lp.drop (A + 1)) := by
              have h := reads_drop15 ry A (by omega)
              rw [eyd, Nat.zero_add] at h
              exact h
            have rp2 : ReadsR 15 mgC w3.heap.size wc (.slice (some ⟨g3, (A + 1) * 15, none⟩) (lp.length - (A + 1)) (c3 - (A + 1))) (lp.drop (A + 1)) := by
              have h := reads_drop15 rpk (A + 1) (by omega)
              rw [Nat.zero_add] at h
              exact h
            have HL2 : ∀ q : BelowOf wc, Calls Try.prog 13 #[(.slice (some ⟨gy, A * 15, none⟩) (Y.length - A) (cy - A)), (.slice (some ⟨g3, (A + 1) * 15, none⟩) (lp.length - (A + 1)) (c3 - (A + 1)))] q.w' fun e w' => e = .returned (.bool true) ∧ Below q.w'.heap.size q.w' w' := fun q => likePost_same _ _ _ q.w' ((ry2.mono yry).onto q) ((rp2.mono yrp).onto q)
            try clear hcb2
            try clear hcb
            clear ry2 rp2 ry1 rp1 rpk ry hY hY2 hM hM2 hly hlp hYl hlm htk eyd hcp
            go_wp2_with fail
            refine wp_region_of (by kernel_rfl) (by kernel_rfl) ?_
            repeat (first
              | (go_big_quiet_want; refine quiet_eql15 _ _ _ rfl ⟨kd, ds, vw, ⟨sq, cl, tg, ⟨k, nm, ot, at_, va, ep⟩⟩, s, rc, rv⟩ ⟨kd, ds, vw, ⟨sq, cl, tg, ⟨k, nm, ot, at_, va, ep⟩⟩, s, rc, rv⟩ rfl rfl ?_; rw [mgEq_self]; simp only [Act.put, List.setIfInBounds_toArray, List.set_cons_succ, List.set_cons_zero]; go_big_quiet_on)
              | go_big_quiet_step ((first | (go_at_call 13; first | with_reducible exact calls_of (HL1 _) | with_reducible exact calls_of (HL2 _)) | rfl)))
            refine wpQuiet_nil ?_
            intro w16 hw16
            obtain ⟨⟨wx, cx9⟩, hwx⟩ := hw16
            have b : Below wc.heap.size wc w16 := by rw [hwx]; exact cx9
            clear hwx cx9 wx hne HL1 HL2 pf0 mf0 pf1 mf1 pf2 mf2 pf3 mf3 pf4 mf4 pf5 mf5 pf6 mf6 pf7 mf7 pf8 mf8 pf9 mf9 pf10 mf10 pf11 mf11 pf12 mf12 pf13 mf13 pf14 mf14
            have d16 := bw_call d b
            go_wp2_with fail
            go_ret
            exact ⟨rfl, d16⟩

set_option maxRecDepth 100000 in
theorem lifted (os : Os) (started : os.Started) (H : Type) (enc : TypeId × Value → H) :
    ReturnsInHanded {} Try.checked os 3 .any (Rows.fnPostSpec.pre6 enc Try.prog Try.f3 Rows.fnPostRow.domain false) (Rows.fnPostSpec.post enc Try.prog Try.f3 false true false false) := by
  refine returnsInHanded_of_change (C := Try.checked) own started (by kernel_rfl) Try.func3
    (ChangeSpec.witness6 (enc := enc) (C := Try.checked) false ⟨#[], #[.slice none 0 0], []⟩ 8 (by kernel_rfl) (by kernel_rfl) (by kernel_rfl) (by kernel_rfl)) ?_
  intro W base args ds gs before hval0 hW hcnd _
  have hval : ∀ (j : Nat) t v, Try.f3.params[j]? = some t → args[j]? = some v → Value.okWide Try.prog W .any base t v := hval0
  have hW' := hW
  obtain ⟨p, q, hA0, hV, rfl, hfz, hnd⟩ := hW
  have hA : DataW.TrodAll enc Try.prog W 0 (fun _ => true) true Try.f3.params.toList args.toList ds p := hA0
  rw [Try.params3] at hA hval
  obtain ⟨v0, vs0, d0, ds0, p0, q0, hargs, rfl, rfl, h0, r0⟩ := trodAll_cons hA
  obtain ⟨rfl, rfl, rfl⟩ := trodAll_nil r0
  obtain rfl : args = #[v0] := by cases args; simp_all
  obtain ⟨rfl, rfl⟩ := trodVars_none hV
  obtain ⟨a0, len0, cap0, rfl⟩ := okWide_slice Try.underlying22 (hval 0 22 v0 rfl rfl)
  have k0 := h0
  have lt0 : ∀ x ∈ p0, x.block < W.heap.size := by obtain ⟨m, hm⟩ := k0; exact DataW.trod_lt m _ _ _ hm
  obtain ⟨z0, w0⟩ : ∃ zs, IsRow .u8 W a0 len0 cap0 zs := by
    obtain ⟨fuel, hf⟩ := h0
    rcases open_ints Try.underlying22 Try.underlying5 (by kernel_rfl) hf with ⟨hcs, _⟩ | ⟨x, l, c, zs, hcs, _, hl, hm, hz, _, hcell, hwz⟩
    · simp [Value.cells] at hcs
      obtain ⟨rfl, rfl, rfl⟩ := hcs
      exact ⟨[], .inl ⟨rfl, rfl, rfl, rfl⟩⟩
    · simp [Value.cells] at hcs
      obtain ⟨rfl, rfl, rfl⟩ := hcs
      exact ⟨zs, .inr ⟨_, rfl, hl, hm, by simpa using hz, hcell, hwz⟩⟩
  clear hA0 hval0
  refine (walk a0 len0 cap0 z0 W w0).mono fun e W' ⟨he, bel⟩ => ?_
  subst he
  exact ⟨_, rfl, _, _, _, [], _, [], hW', trodAll_mk1 (shut_bool Try.underlying4 _), (trodAll_cons_mk (Below.trod laidOut (by kernel_rfl) (of_decide_eq_true (by kernel_rfl)) k0 bel lt0) trodAll_mk0), rfl, bel.frame _, fun h => by cases h⟩

theorem over : Rows.fnPostRow.holds Try.pinned (OpenSpec.ofChange Rows.fnPostSpec) :=
  OpenClaim.holds_of_wide 3 Try.f3 rfl rfl rfl rfl rfl rfl rfl ⟨rfl, rfl, rfl, rfl, rfl⟩ rfl rfl rfl rfl rfl (by kernel_rfl) Try.func3 (by kernel_rfl)
    (of_decide_eq_true (by kernel_rfl)) (by unfold Func.isWrapper; first | (rw [if_pos (by decide +kernel)]; kernel_rfl) | (rw [if_neg (by decide +kernel)]; exact ⟨rfl, rfl⟩))
    (fun os started H enc _ => lifted os started H enc)

theorem proved : Rows.FnPostSaid := over
#print axioms proved
end Go.Proofs.Ytgabhnhfomekfaa.fnPost
