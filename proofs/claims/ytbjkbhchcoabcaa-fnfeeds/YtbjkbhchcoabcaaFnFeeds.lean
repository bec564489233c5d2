/-
  The law FnFeeds answers true at every input that the row speaks of, and its arguments read afterwards as before; the walk goes over the callees' contracts.
-/
import Derived.Test.YtbjkbhchcoabcaaRows
import Derived.WalkKit
import Derived.Test.YtbjkbhchcoabcaaDrawFeed2
import Derived.Test.YtbjkbhchcoabcaaFeedLaw
import Derived.Test.YtbjkbhchcoabcaaImFedAll
import Derived.Test.YtbjkbhchcoabcaaTexts
import Derived.Test.YtbjkbhchcoabcaaJoined
import Derived.ProofKit
import Derived.OpenShut
import Derived.ShutString
import Derived.ChangeOld
import Derived.Below
namespace Go.Proofs.Ytbjkbhchcoabcaa.fnFeeds
open Go.ChangeShapes Go.WideShapes Go.ChangeAt Go.RowKit
open Go.ChangeMaps (open_string shut_string)
set_option linter.unusedVariables false

theorem own : ownKnob Try.prog.godebug = none := by kernel_rfl
theorem laidOut : laidOutB Try.prog = true := by kernel_rfl

def IsRow (k : IntKind) (w : World) (a : Option Addr) (len cap : Nat) (zs : List Int) : Prop :=
  (a = none ∧ len = 0 ∧ cap = 0 ∧ zs = []) ∨
  ∃ x, a = some x ∧ len ≤ cap ∧ cap ≤ maxLen ∧ zs.length = cap ∧ (∀ i, i < zs.length → w.cell? (x.add i) = some (.int k (zs.getD i 0))) ∧ ∀ n ∈ zs, (Lit.int k n).wf = true

set_option maxRecDepth 100000 in
set_option maxHeartbeats 8000000 in
theorem walk (a0 : Option Addr) (len0 cap0 : Nat) (z0 : List Int) (w : World) (w0 : IsRow .u8 w a0 len0 cap0 z0) :
    Calls Try.prog 6 #[.slice a0 len0 cap0] w fun e w' => e = .returned (.bool true) ∧ Below w.heap.size w w' := by
  have hs : Src w w.heap.size a0 len0 := src_of w0
  have hm := hs.1
  by_cases hbig : (4096 : Int) < (len0 : Int)
  · have hd : decide ((4096 : Int) < (len0 : Int)) = true := by simpa using hbig
    go_enter Try.func6, Try.ntmps6
    go_wp2_with (go_at_call 8; refine (big_any _ _ _ _ hm).mono ?_; rintro e w' ⟨rfl, rfl⟩)
    go_ret
    exact ⟨rfl, Below.refl _ _⟩
  have hd : decide ((4096 : Int) < (len0 : Int)) = false := by simpa using hbig
  have y0 : w.heap.size ≤ w.heap.size := Nat.le_refl _
  clear w0
  go_enter Try.func6, Try.ntmps6
  go_wp2_with fail
  refine (big_any _ _ _ _ hm).mono ?_
  rintro e w' ⟨rfl, rfl⟩
  go_wp2_with fail
  refine (drawFedAll_any _ _ _ _ hs).mono ?_
  rintro e w1 ⟨r, k, pv, ps, rfl, ⟨hr, hk0, hk1, hpl, hpz⟩, op, hpn, d⟩
  have rp := Reads.of_own op
  have yp : w1.heap.size ≤ w1.heap.size := Nat.le_refl _
  replace hs := hs.below d
  replace y0 := d.size
  have HPZ : Hid (∀ p ∈ ps, p.size ≤ 204) := hpz
  clear op hpz hpn
  -- f's box
  have b : Below w1.heap.size w1 (w1.alloc (.cells #[.string r, .int .i64 k] 45)) := bw_alloc (Below.refl _ _)
  have kF := heap_alloc_new w1 (.cells #[.string r, .int .i64 k] 45)
  have sF : w1.heap.size < (w1.alloc (.cells #[.string r, .int .i64 k] 45)).heap.size := by simp
  replace d := bw_call d b
  replace hs := hs.below (b.mono y0)
  replace y0 := Nat.le_trans y0 b.size
  replace rp := rp.below (b.mono yp)
  replace yp := Nat.le_trans yp b.size
  clear b
  go_wp2_with fail
  generalize w1.alloc (.cells #[.string r, .int .i64 k] 45) = WF at *
  generalize w1.heap.size = nF at *
  have hlen : (fedAll r k ps).2.length ≤ 53150 := fedAll_len r k ps
  obtain ⟨⟨⟨nr, nk⟩, ys⟩, hfd⟩ : ∃ fd, fedAll r k ps = fd := ⟨_, rfl⟩
  have HFD : Hid (fedAll r k ps = ((nr, nk), ys)) := hfd
  refine (implFedAll_any r pv ps k _ (by omega) (fun p hp => by have := HPZ.out p hp; omega) (rp.mono yp)).mono ?_
  rw [hfd] at hlen ⊢
  clear hfd
  simp only at hlen ⊢
  rintro e w2 ⟨lv, rfl, ol, hln, b⟩
  replace d := bw_call d b
  replace hs := hs.below (b.mono y0)
  replace y0 := Nat.le_trans y0 b.size
  replace rp := rp.below (b.mono yp)
  replace yp := Nat.le_trans yp b.size
  replace kF := (b.block _ sF).trans kF
  replace sF := Nat.lt_of_lt_of_le sF b.size
  clear b
  have rl := Reads.of_own ol
  have yl : w2.heap.size ≤ w2.heap.size := Nat.le_refl _
  clear ol hln
  -- g's box
  have b : Below w2.heap.size w2 (w2.alloc (.cells #[.string nr, .int .i64 nk] 45)) := bw_alloc (Below.refl _ _)
  have kG := heap_alloc_new w2 (.cells #[.string nr, .int .i64 nk] 45)
  have sG : w2.heap.size < (w2.alloc (.cells #[.string nr, .int .i64 nk] 45)).heap.size := by simp
  replace d := bw_call d b
  replace hs := hs.below (b.mono y0)
  replace y0 := Nat.le_trans y0 b.size
  replace rp := rp.below (b.mono yp)
  replace yp := Nat.le_trans yp b.size
  replace kF := (b.block _ sF).trans kF
  replace sF := Nat.lt_of_lt_of_le sF b.size
  replace rl := rl.below (b.mono yl)
  replace yl := Nat.le_trans yl b.size
  clear b
  go_wp2_with fail
  generalize w2.alloc (.cells #[.string nr, .int .i64 nk] 45) = WG at *
  generalize w2.heap.size = nG at *
  refine (drawFed_any _ _ _ _ (hs.mono y0)).mono ?_
  rintro e w3 ⟨r2, k2, bs, rfl, ⟨hr2, hk20, hk21, hbs⟩, b⟩
  replace d := bw_call d b
  replace hs := hs.below (b.mono y0)
  replace y0 := Nat.le_trans y0 b.size
  replace rp := rp.below (b.mono yp)
  replace yp := Nat.le_trans yp b.size
  replace kF := (b.block _ sF).trans kF
  replace sF := Nat.lt_of_lt_of_le sF b.size
  replace rl := rl.below (b.mono yl)
  replace yl := Nat.le_trans yl b.size
  replace kG := (b.block _ sG).trans kG
  replace sG := Nat.lt_of_lt_of_le sG b.size
  clear b
  clear hs y0
  -- h's box
  have b : Below w3.heap.size w3 (w3.alloc (.cells #[.string r2, .int .i64 k2] 45)) := bw_alloc (Below.refl _ _)
  have kH := heap_alloc_new w3 (.cells #[.string r2, .int .i64 k2] 45)
  have sH : w3.heap.size < (w3.alloc (.cells #[.string r2, .int .i64 k2] 45)).heap.size := by simp
  replace d := bw_call d b
  replace rp := rp.below (b.mono yp)
  replace yp := Nat.le_trans yp b.size
  replace kF := (b.block _ sF).trans kF
  replace sF := Nat.lt_of_lt_of_le sF b.size
  replace rl := rl.below (b.mono yl)
  replace yl := Nat.le_trans yl b.size
  replace kG := (b.block _ sG).trans kG
  replace sG := Nat.lt_of_lt_of_le sG b.size
  clear b
  go_wp2_with fail
  generalize w3.alloc (.cells #[.string r2, .int .i64 k2] 45) = WH at *
  generalize w3.heap.size = nH at *
  obtain ⟨⟨⟨mr, mk⟩, zs⟩, hfe⟩ : ∃ fd, fed r2 k2 bs = fd := ⟨_, rfl⟩
  have HFE : Hid (fed r2 k2 bs = ((mr, mk), zs)) := hfe
  refine (implFed_any r2 bs k2 _ (by omega) (by omega)).mono ?_
  rw [hfe]
  clear hfe
  simp only
  rintro e w4 ⟨mv, rfl, om, hmn, b⟩
  replace d := bw_call d b
  replace rp := rp.below (b.mono yp)
  replace yp := Nat.le_trans yp b.size
  replace kF := (b.block _ sF).trans kF
  replace sF := Nat.lt_of_lt_of_le sF b.size
  replace rl := rl.below (b.mono yl)
  replace yl := Nat.le_trans yl b.size
  replace kG := (b.block _ sG).trans kG
  replace sG := Nat.lt_of_lt_of_le sG b.size
  replace kH := (b.block _ sH).trans kH
  replace sH := Nat.lt_of_lt_of_le sH b.size
  clear b
  have rm := Reads.of_own om
  have ym : w4.heap.size ≤ w4.heap.size := Nat.le_refl _
  clear om hmn
  -- x's box
  have b : Below w4.heap.size w4 (w4.alloc (.cells #[.string mr, .int .i64 mk] 45)) := bw_alloc (Below.refl _ _)
  have kX := heap_alloc_new w4 (.cells #[.string mr, .int .i64 mk] 45)
  have sX : w4.heap.size < (w4.alloc (.cells #[.string mr, .int .i64 mk] 45)).heap.size := by simp
  replace d := bw_call d b
  replace rp := rp.below (b.mono yp)
  replace yp := Nat.le_trans yp b.size
  replace kF := (b.block _ sF).trans kF
  replace sF := Nat.lt_of_lt_of_le sF b.size
  replace rl := rl.below (b.mono yl)
  replace yl := Nat.le_trans yl b.size
  replace kG := (b.block _ sG).trans kG
  replace sG := Nat.lt_of_lt_of_le sG b.size
  replace kH := (b.block _ sH).trans kH
  replace sH := Nat.lt_of_lt_of_le sH b.size
  replace rm := rm.below (b.mono ym)
  replace ym := Nat.le_trans ym b.size
  clear b
  have p0 := at_cell kF 0
  have p1 := at_cell kF 1
  go_wp2_with fail
  generalize w4.alloc (.cells #[.string mr, .int .i64 mk] 45) = WX at *
  generalize w4.heap.size = nX at *
  clear p0 p1
  refine (specFedAll_any r pv ps k _ (by omega) (fun p hp => by have := HPZ.out p hp; omega) (rp.mono yp)).mono ?_
  rw [HFD.out]
  simp only
  rintro e w5 ⟨tv, rfl, ot, htn, b⟩
  replace d := bw_call d b
  replace rp := rp.below (b.mono yp)
  replace yp := Nat.le_trans yp b.size
  replace kF := (b.block _ sF).trans kF
  replace sF := Nat.lt_of_lt_of_le sF b.size
  replace rl := rl.below (b.mono yl)
  replace yl := Nat.le_trans yl b.size
  replace kG := (b.block _ sG).trans kG
  replace sG := Nat.lt_of_lt_of_le sG b.size
  replace kH := (b.block _ sH).trans kH
  replace sH := Nat.lt_of_lt_of_le sH b.size
  replace rm := rm.below (b.mono ym)
  replace ym := Nat.le_trans ym b.size
  replace kX := (b.block _ sX).trans kX
  replace sX := Nat.lt_of_lt_of_le sX b.size
  clear b
  have rt := Reads.of_own ot
  have yt : w5.heap.size ≤ w5.heap.size := Nat.le_refl _
  clear ot htn
  -- y's box
  have b : Below w5.heap.size w5 (w5.alloc (.cells #[.string nr, .int .i64 nk] 45)) := bw_alloc (Below.refl _ _)
  have kY := heap_alloc_new w5 (.cells #[.string nr, .int .i64 nk] 45)
  have sY : w5.heap.size < (w5.alloc (.cells #[.string nr, .int .i64 nk] 45)).heap.size := by simp
  replace d := bw_call d b
  replace rp := rp.below (b.mono yp)
  replace yp := Nat.le_trans yp b.size
  replace kF := (b.block _ sF).trans kF
  replace sF := Nat.lt_of_lt_of_le sF b.size
  replace rl := rl.below (b.mono yl)
  replace yl := Nat.le_trans yl b.size
  replace kG := (b.block _ sG).trans kG
  replace sG := Nat.lt_of_lt_of_le sG b.size
  replace kH := (b.block _ sH).trans kH
  replace sH := Nat.lt_of_lt_of_le sH b.size
  replace rm := rm.below (b.mono ym)
  replace ym := Nat.le_trans ym b.size
  replace kX := (b.block _ sX).trans kX
  replace sX := Nat.lt_of_lt_of_le sX b.size
  replace rt := rt.below (b.mono yt)
  replace yt := Nat.le_trans yt b.size
  clear b
  go_wp2_with fail
  generalize w5.alloc (.cells #[.string nr, .int .i64 nk] 45) = WY at *
  generalize w5.heap.size = nY at *
  -- both tell the same
  have hne := BelowOf.any WY
  have gF0 := BelowOf.cell (at_cell kF 0) sF
  have gF1 := BelowOf.cell (at_cell kF 1) sF
  have gG0 := BelowOf.cell (at_cell kG 0) sG
  have gG1 := BelowOf.cell (at_cell kG 1) sG
  have gY0 := BelowOf.cell (at_cell kY 0) sY
  have gY1 := BelowOf.cell (at_cell kY 1) sY
  have HLT : ∀ p : BelowOf WY, Calls Try.prog 28 #[lv, tv] p.w' fun e w' => e = .returned (.bool true) ∧ Below p.w'.heap.size p.w' w' := fun p => by
    have h := likeTexts_any lv tv ys ys p.w' (((rl.mono yl).below p.h).mono p.h.size) (((rt.mono yt).below p.h).mono p.h.size)
    rwa [show decide (ys = ys) = true by simp] at h
  have hr4 : r.size ≤ 1099511627776 := by omega
  refine wp_region_of (by kernel_rfl) (by kernel_rfl) ?_
  repeat (go_big_quiet_step ((first | (go_at_call 28; exact calls_of (HLT _)) | (go_at_call 37; exact calls_of (implFeedOk_any r k _ hr4)) | (go_at_call 38; exact calls_of (specFeedOk_any r k _ hr4)) | rfl)))
  refine wpQuiet_nil ?_
  intro w6 hw6
  obtain ⟨⟨wx, cx⟩, hwx⟩ := hw6
  have b : Below WY.heap.size WY w6 := by rw [hwx]; exact cx
  clear hwx cx wx hne gF0 gF1 gG0 gG1 gY0 gY1 HLT
  replace d := bw_call d b
  replace rp := rp.below (b.mono yp)
  replace yp := Nat.le_trans yp b.size
  replace kF := (b.block _ sF).trans kF
  replace sF := Nat.lt_of_lt_of_le sF b.size
  replace rl := rl.below (b.mono yl)
  replace yl := Nat.le_trans yl b.size
  replace kG := (b.block _ sG).trans kG
  replace sG := Nat.lt_of_lt_of_le sG b.size
  replace kH := (b.block _ sH).trans kH
  replace sH := Nat.lt_of_lt_of_le sH b.size
  replace rm := rm.below (b.mono ym)
  replace ym := Nat.le_trans ym b.size
  replace kX := (b.block _ sX).trans kX
  replace sX := Nat.lt_of_lt_of_le sX b.size
  replace rt := rt.below (b.mono yt)
  replace yt := Nat.le_trans yt b.size
  replace kY := (b.block _ sY).trans kY
  replace sY := Nat.lt_of_lt_of_le sY b.size
  clear b
  clear rt yt kY sY
  have p0 := at_cell kH 0
  have p1 := at_cell kH 1
  go_wp2_with fail
  clear p0 p1
  refine (specFed_any r2 bs k2 _ (by omega) (by omega)).mono ?_
  rw [HFE.out]
  simp only
  rintro e w7 ⟨nv, rfl, on, hnn, b⟩
  replace d := bw_call d b
  replace rp := rp.below (b.mono yp)
  replace yp := Nat.le_trans yp b.size
  replace kF := (b.block _ sF).trans kF
  replace sF := Nat.lt_of_lt_of_le sF b.size
  replace rl := rl.below (b.mono yl)
  replace yl := Nat.le_trans yl b.size
  replace kG := (b.block _ sG).trans kG
  replace sG := Nat.lt_of_lt_of_le sG b.size
  replace kH := (b.block _ sH).trans kH
  replace sH := Nat.lt_of_lt_of_le sH b.size
  replace rm := rm.below (b.mono ym)
  replace ym := Nat.le_trans ym b.size
  replace kX := (b.block _ sX).trans kX
  replace sX := Nat.lt_of_lt_of_le sX b.size
  clear b
  have rn := Reads.of_own on
  have yn : w7.heap.size ≤ w7.heap.size := Nat.le_refl _
  clear on hnn
  -- y's box
  have b : Below w7.heap.size w7 (w7.alloc (.cells #[.string mr, .int .i64 mk] 45)) := bw_alloc (Below.refl _ _)
  have kV := heap_alloc_new w7 (.cells #[.string mr, .int .i64 mk] 45)
  have sV : w7.heap.size < (w7.alloc (.cells #[.string mr, .int .i64 mk] 45)).heap.size := by simp
  replace d := bw_call d b
  replace rp := rp.below (b.mono yp)
  replace yp := Nat.le_trans yp b.size
  replace kF := (b.block _ sF).trans kF
  replace sF := Nat.lt_of_lt_of_le sF b.size
  replace rl := rl.below (b.mono yl)
  replace yl := Nat.le_trans yl b.size
  replace kG := (b.block _ sG).trans kG
  replace sG := Nat.lt_of_lt_of_le sG b.size
  replace kH := (b.block _ sH).trans kH
  replace sH := Nat.lt_of_lt_of_le sH b.size
  replace rm := rm.below (b.mono ym)
  replace ym := Nat.le_trans ym b.size
  replace kX := (b.block _ sX).trans kX
  replace sX := Nat.lt_of_lt_of_le sX b.size
  replace rn := rn.below (b.mono yn)
  replace yn := Nat.le_trans yn b.size
  clear b
  go_wp2_with fail
  generalize w7.alloc (.cells #[.string mr, .int .i64 mk] 45) = WV at *
  generalize w7.heap.size = nV at *
  refine (likeTexts_any mv nv zs zs _ (rm.mono ym) (rn.mono yn)).mono ?_
  rintro e w8 ⟨rfl, b⟩
  rw [show decide (zs = zs) = true by simp]
  replace d := bw_call d b
  replace rp := rp.below (b.mono yp)
  replace yp := Nat.le_trans yp b.size
  replace kF := (b.block _ sF).trans kF
  replace sF := Nat.lt_of_lt_of_le sF b.size
  replace rl := rl.below (b.mono yl)
  replace yl := Nat.le_trans yl b.size
  replace kG := (b.block _ sG).trans kG
  replace sG := Nat.lt_of_lt_of_le sG b.size
  replace kH := (b.block _ sH).trans kH
  replace sH := Nat.lt_of_lt_of_le sH b.size
  replace rm := rm.below (b.mono ym)
  replace ym := Nat.le_trans ym b.size
  replace kX := (b.block _ sX).trans kX
  replace sX := Nat.lt_of_lt_of_le sX b.size
  replace rn := rn.below (b.mono yn)
  replace yn := Nat.le_trans yn b.size
  replace kV := (b.block _ sV).trans kV
  replace sV := Nat.lt_of_lt_of_le sV b.size
  clear b
  clear rm ym rn yn kH sH
  have p0 := at_cell kX 0
  have p1 := at_cell kX 1
  have p2 := at_cell kV 0
  have p3 := at_cell kV 1
  have p4 := at_cell kF 0
  have p5 := at_cell kF 1
  go_wp2_with fail
  clear kX sX kV sV
  clear p0 p1 p2 p3
  refine (specFeedOk_any r k _ (by omega)).mono ?_
  rintro e w9 ⟨rfl, b⟩
  replace d := bw_call d b
  replace rp := rp.below (b.mono yp)
  replace yp := Nat.le_trans yp b.size
  replace kF := (b.block _ sF).trans kF
  replace sF := Nat.lt_of_lt_of_le sF b.size
  replace rl := rl.below (b.mono yl)
  replace yl := Nat.le_trans yl b.size
  replace kG := (b.block _ sG).trans kG
  replace sG := Nat.lt_of_lt_of_le sG b.size
  clear b
  clear p4 p5
  cases hok : feedOk r k
  · -- a Feed that is none
    have hfd := HFD.out
    rw [fedAll_no r k ps (fun q => by rw [hok] at q; cases q.1)] at hfd
    simp only [Prod.mk.injEq] at hfd
    obtain ⟨⟨rfl, rfl⟩, rfl⟩ := hfd
    have p0 := at_cell kG 0
    have p1 := at_cell kG 1
    obtain ⟨o, lcap, rfl, -, -, -⟩ := rl
    go_wp2_with fail
    go_ret
    exact ⟨rfl, d⟩
  · have hpl2 : ps.length ≤ 50 := by omega
    have hpz2 : ∀ p ∈ ps, p.size ≤ 1000 := fun p hp => by have := HPZ.out p hp; omega
    have hfl : fedL (r, k) ps = ((nr, nk), ys) := by rw [← HFD.out, fedAll_yes r k ps hok hpl2 hpz2]
    have hfo := (fedL_ok ps r k hok hpz2).1
    rw [hfl] at hfo
    have HFO : Hid (feedOk nr nk = true) := hfo
    have HFL : Hid ((joined ps).size ≤ 1000 → fed r k (joined ps) = ((nr, nk), ys)) := fun h => by rw [← fedL_joined ps r k hok h, hfl]
    have HOK : Hid (feedOk r k = true) := hok
    clear hfo hfl hpz2 hok
    obtain ⟨o, pcap, rfl, hpm, hpc, -⟩ := rp
    have hpl3 : (ps.map Value.string).length = ps.length := by simp
    rw [hpl3] at hpm ⊢
    have HPC : Hid (∀ j u, (ps.map Value.string)[j]? = some u → ∃ g off, o = some ⟨g, off, none⟩ ∧ g < nF ∧ w9.cell? ⟨g, off + j, none⟩ = some u) := hpc
    clear hpc hpm hpl3
    go_wp2_with fail
    go_loopw [15, 16] (fun v i wr => ∃ (q : Nat) (acc : ByteArray), q ≤ ps.length ∧ i = .int .i64 q ∧ v = .string acc ∧ acc = joined (ps.take q) ∧ acc.size ≤ 204 * q ∧ wr = w9) (fun _ i _ => ps.length - (intOf i).toNat)
    case atStart => exact ⟨0, ⟨#[]⟩, Nat.zero_le _, rfl, rfl, rfl, Nat.le_refl _, rfl⟩
    case round =>
      obtain ⟨q, acc, hq, rfl, rfl, hacc, haz, rfl⟩ := hrel
      have HK : Hid (acc = joined (ps.take q)) := hacc
      clear hacc
      by_cases hlt : q < ps.length
      · obtain ⟨g, off, rfl, hg, hx⟩ := HPC.out q (.string ps[q]) (by simp [hlt])
        have hxs : ps[q].size ≤ 204 := HPZ.out _ (List.getElem_mem hlt)
        have HN : Hid (joined (ps.take (q + 1)) = acc ++ ps[q]) := by rw [Hid, List.take_succ_eq_append_getElem hlt, joined_snoc, ← HK.out]
        generalize ps[q] = x at hx hxs HN
        have hax : (acc ++ x).size = acc.size + x.size := ByteArray.size_append
        go_wp2_with fail
        go_roundw
        case rel => exact ⟨q + 1, acc ++ x, by omega, by go_num, rfl, HN.out.symm, by omega, by trivial⟩
        case measure => simp [intOf]; omega
      · have hfin : acc = joined ps := by rw [HK.out, List.take_of_length_le (by omega)]
        subst hfin
        have hpl4 : ¬ (50 : Int) < (ps.length : Int) := by omega
        clear HPC HK
        by_cases hbig2 : (1000 : Int) < ((joined ps).size : Int)
        · go_wp2_with fail
          go_ret
          exact ⟨rfl, d⟩
        · have p0 := at_cell kF 0
          have p1 := at_cell kF 1
          have HFD2 : Hid (fed r k (joined ps) = ((nr, nk), ys)) := HFL.out (by omega)
          have hjz : (joined ps).size ≤ 1000 := by omega
          clear HFL
          generalize joined ps = al at *
          go_wp2_with fail
          clear p0 p1
          refine (implFed_any r al k _ (by omega) (by omega)).mono ?_
          rw [HFD2.out]
          simp only
          rintro e wt ⟨tv2, rfl, ot, htn, b⟩
          replace d := bw_call d b
          replace kF := (b.block _ sF).trans kF
          replace sF := Nat.lt_of_lt_of_le sF b.size
          replace rl := rl.below (b.mono yl)
          replace yl := Nat.le_trans yl b.size
          replace kG := (b.block _ sG).trans kG
          replace sG := Nat.lt_of_lt_of_le sG b.size
          clear b
          have rt := Reads.of_own ot
          have yt : wt.heap.size ≤ wt.heap.size := Nat.le_refl _
          clear ot htn
          have b : Below wt.heap.size wt (wt.alloc (.cells #[.string nr, .int .i64 nk] 45)) := bw_alloc (Below.refl _ _)
          have kT := heap_alloc_new wt (.cells #[.string nr, .int .i64 nk] 45)
          have sT : wt.heap.size < (wt.alloc (.cells #[.string nr, .int .i64 nk] 45)).heap.size := by simp
          replace d := bw_call d b
          replace kF := (b.block _ sF).trans kF
          replace sF := Nat.lt_of_lt_of_le sF b.size
          replace rl := rl.below (b.mono yl)
          replace yl := Nat.le_trans yl b.size
          replace kG := (b.block _ sG).trans kG
          replace sG := Nat.lt_of_lt_of_le sG b.size
          replace rt := rt.below (b.mono yt)
          replace yt := Nat.le_trans yt b.size
          clear b
          have p0 := at_cell kG 0
          have p1 := at_cell kG 1
          go_wp2_with fail
          generalize wt.alloc (.cells #[.string nr, .int .i64 nk] 45) = WT at *
          refine (likeTexts_any tv2 lv ys ys _ (rt.mono yt) (rl.mono yl)).mono ?_
          rintro e wu ⟨rfl, b⟩
          rw [show decide (ys = ys) = true by simp]
          replace d := bw_call d b
          replace kF := (b.block _ sF).trans kF
          replace sF := Nat.lt_of_lt_of_le sF b.size
          replace rl := rl.below (b.mono yl)
          replace yl := Nat.le_trans yl b.size
          replace kG := (b.block _ sG).trans kG
          replace sG := Nat.lt_of_lt_of_le sG b.size
          replace rt := rt.below (b.mono yt)
          replace yt := Nat.le_trans yt b.size
          replace kT := (b.block _ sT).trans kT
          replace sT := Nat.lt_of_lt_of_le sT b.size
          clear b
          clear p0 p1
          have p0 := at_cell kG 0
          have p1 := at_cell kG 1
          go_wp2_with fail
          refine (implFeedOk_any nr nk _ ?_).mono ?_
          · have := feedOk_bd nr nk HFO.out; omega
          rintro e wv ⟨rfl, b⟩
          replace d := bw_call d b
          replace kF := (b.block _ sF).trans kF
          replace sF := Nat.lt_of_lt_of_le sF b.size
          replace rl := rl.below (b.mono yl)
          replace yl := Nat.le_trans yl b.size
          replace kG := (b.block _ sG).trans kG
          replace sG := Nat.lt_of_lt_of_le sG b.size
          replace rt := rt.below (b.mono yt)
          replace yt := Nat.le_trans yt b.size
          replace kT := (b.block _ sT).trans kT
          replace sT := Nat.lt_of_lt_of_le sT b.size
          clear b
          rw [HFO.out]
          go_wp2_with fail
          go_ret
          exact ⟨rfl, d⟩

set_option maxRecDepth 100000 in
theorem lifted (os : Os) (started : os.Started) (H : Type) (enc : TypeId × Value → H) :
    ReturnsInHanded {} Try.checked os 6 .any (Rows.fnFeedsSpec.pre6 enc Try.prog Try.f6 Rows.fnFeedsRow.domain false) (Rows.fnFeedsSpec.post enc Try.prog Try.f6 false true false false) := by
  refine returnsInHanded_of_change (C := Try.checked) own started (by kernel_rfl) Try.func6
    (ChangeSpec.witness6 (enc := enc) (C := Try.checked) false ⟨#[], #[.slice none 0 0], []⟩ 8 (by kernel_rfl) (by kernel_rfl) (by kernel_rfl) (by kernel_rfl)) ?_
  intro W base args ds gs before hval0 hW hcnd _
  have hval : ∀ (j : Nat) t v, Try.f6.params[j]? = some t → args[j]? = some v → Value.okWide Try.prog W .any base t v := hval0
  have hW' := hW
  obtain ⟨p, q, hA0, hV, rfl, hfz, hnd⟩ := hW
  have hA : DataW.TrodAll enc Try.prog W 0 (fun _ => true) true Try.f6.params.toList args.toList ds p := hA0
  rw [Try.params6] at hA hval
  obtain ⟨v0, vs0, d0, ds0, p0, q0, hargs, rfl, rfl, h0, r0⟩ := trodAll_cons hA
  obtain ⟨rfl, rfl, rfl⟩ := trodAll_nil r0
  obtain rfl : args = #[v0] := by cases args; simp_all
  obtain ⟨rfl, rfl⟩ := trodVars_none hV
  obtain ⟨a0, len0, cap0, rfl⟩ := okWide_slice Try.underlying22 (hval 0 22 v0 rfl rfl)
  have k0 := h0
  have lt0 : ∀ x ∈ p0, x.block < W.heap.size := by obtain ⟨m, hm⟩ := k0; exact DataW.trod_lt m _ _ _ hm
  obtain ⟨z0, w0⟩ : ∃ zs, IsRow .u8 W a0 len0 cap0 zs := by
    obtain ⟨fuel, hf⟩ := h0
    rcases open_ints Try.underlying22 Try.underlying5 (by kernel_rfl) hf with ⟨hcs, _⟩ | ⟨x, l, c, zs, hcs, _, hl, hm, hz, _, hcell, hwz⟩
    · simp [Value.cells] at hcs
      obtain ⟨rfl, rfl, rfl⟩ := hcs
      exact ⟨[], .inl ⟨rfl, rfl, rfl, rfl⟩⟩
    · simp [Value.cells] at hcs
      obtain ⟨rfl, rfl, rfl⟩ := hcs
      exact ⟨zs, .inr ⟨_, rfl, hl, hm, by simpa using hz, hcell, hwz⟩⟩
  clear hA0 hval0
  refine (walk a0 len0 cap0 z0 W w0).mono fun e W' ⟨he, bel⟩ => ?_
  subst he
  exact ⟨_, rfl, _, _, _, [], _, [], hW', trodAll_mk1 (shut_bool Try.underlying4 _), (trodAll_cons_mk (Below.trod laidOut (by kernel_rfl) (of_decide_eq_true (by kernel_rfl)) k0 bel lt0) trodAll_mk0), rfl, bel.frame _, fun h => by cases h⟩

theorem over : Rows.fnFeedsRow.holds Try.pinned (OpenSpec.ofChange Rows.fnFeedsSpec) :=
  OpenClaim.holds_of_wide 6 Try.f6 rfl rfl rfl rfl rfl rfl rfl ⟨rfl, rfl, rfl, rfl, rfl⟩ rfl rfl rfl rfl rfl (by kernel_rfl) Try.func6 (by kernel_rfl)
    (of_decide_eq_true (by kernel_rfl)) (by unfold Func.isWrapper; first | (rw [if_pos (by decide +kernel)]; kernel_rfl) | (rw [if_neg (by decide +kernel)]; exact ⟨rfl, rfl⟩))
    (fun os started H enc _ => lifted os started H enc)

theorem proved : Rows.FnFeedsSaid := over
#print axioms proved
end Go.Proofs.Ytbjkbhchcoabcaa.fnFeeds
