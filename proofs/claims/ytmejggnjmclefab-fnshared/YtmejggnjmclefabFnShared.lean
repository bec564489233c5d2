/-
  The law FnShared answers true at every input that the row speaks of, and its arguments read afterwards as before; the walk goes over the callees' contracts.
-/
import Derived.Test.YtmejggnjmclefabRows
import Derived.WalkKit
import Derived.Test.YtmejggnjmclefabPoolM2
import Derived.Test.YtmejggnjmclefabDrawPool2
import Derived.Test.YtmejggnjmclefabImPool3
import Derived.Test.YtmejggnjmclefabPoolLaw
import Derived.Test.YtmejggnjmclefabDrawNum
import Derived.ProofKit
import Derived.OpenShut
import Derived.ShutString
import Derived.ChangeOld
import Derived.Below
namespace Go.Proofs.Ytmejggnjmclefab.fnShared
open Go.ChangeShapes Go.WideShapes Go.ChangeAt Go.RowKit
open Go.ChangeMaps (open_string shut_string)
set_option linter.unusedVariables false

theorem own : ownKnob Try.prog.godebug = none := by kernel_rfl
theorem laidOut : laidOutB Try.prog = true := by kernel_rfl

def IsRow (k : IntKind) (w : World) (a : Option Addr) (len cap : Nat) (zs : List Int) : Prop :=
  (a = none ∧ len = 0 ∧ cap = 0 ∧ zs = []) ∨
  ∃ x, a = some x ∧ len ≤ cap ∧ cap ≤ maxLen ∧ zs.length = cap ∧ (∀ i, i < zs.length → w.cell? (x.add i) = some (.int k (zs.getD i 0))) ∧ ∀ n ∈ zs, (Lit.int k n).wf = true

set_option maxRecDepth 100000 in
set_option maxHeartbeats 8000000 in
theorem walk (a0 : Option Addr) (len0 cap0 : Nat) (z0 : List Int) (w : World) (w0 : IsRow .u8 w a0 len0 cap0 z0) :
    Calls Try.prog 3 #[.slice a0 len0 cap0] w fun e w' => e = .returned (.bool true) ∧ Below w.heap.size w w' := by
  have hs : Src w w.heap.size a0 len0 := src_of w0
  have hm := hs.1
  by_cases hbig : (4096 : Int) < (len0 : Int)
  · have hd : decide ((4096 : Int) < (len0 : Int)) = true := by simpa using hbig
    go_enter Try.func3, Try.ntmps3
    go_wp2_with (go_at_call 4; refine (big_any _ _ _ _ hm).mono ?_; rintro e w' ⟨rfl, rfl⟩)
    go_ret
    exact ⟨rfl, Below.refl _ _⟩
  have hd : decide ((4096 : Int) < (len0 : Int)) = false := by simpa using hbig
  have y0 : w.heap.size ≤ w.heap.size := Nat.le_refl _
  clear w0
  go_enter Try.func3, Try.ntmps3
  go_wp2_with fail
  refine (big_any _ _ _ _ hm).mono ?_
  rintro e w' ⟨rfl, rfl⟩
  go_wp2_with fail
  refine (drawShared_any _ _ _ _ hs).mono ?_
  rintro e w1 ⟨p1, p2, cs, ps, at_, rfl, rp, hpn, hv, d⟩
  have yp : w1.heap.size ≤ w1.heap.size := Nat.le_refl _
  replace hs := hs.below d
  replace y0 := d.size
  obtain ⟨op1, kp1, op2, kp2, rfl, rfl⟩ := rp.forms
  clear hpn
  have b : Below w1.heap.size w1 (w1.alloc (.cells #[.slice op1 cs.length kp1, .slice op2 ps.length kp2] 26)) := bw_alloc (Below.refl _ _)
  have kP := heap_alloc_new w1 (.cells #[.slice op1 cs.length kp1, .slice op2 ps.length kp2] 26)
  have sP : w1.heap.size < (w1.alloc (.cells #[.slice op1 cs.length kp1, .slice op2 ps.length kp2] 26)).heap.size := by simp
  replace d := bw_call d b
  replace hs := hs.below (b.mono y0)
  replace y0 := Nat.le_trans y0 b.size
  replace rp := rp.below (b.mono yp)
  replace yp := Nat.le_trans yp b.size
  clear b
  go_wp2_with fail
  generalize w1.alloc (.cells #[.slice op1 cs.length kp1, .slice op2 ps.length kp2] 26) = WP at *
  generalize w1.heap.size = nP at *
  obtain ⟨⟨⟨xc, xp⟩, is_⟩, hfd⟩ : ∃ fd, shared cs ps at_ = fd := ⟨_, rfl⟩
  have HFD : Hid (shared cs ps at_ = ((xc, xp), is_)) := hfd
  refine (implShared_any _ _ cs ps at_ _ (rp.mono yp).c (rp.mono yp).p).mono ?_
  rw [hfd]
  clear hfd
  simp only
  rintro e w2 ⟨x1, x2, rfl, ox, b⟩
  replace d := bw_call d b
  replace hs := hs.below (b.mono y0)
  replace y0 := Nat.le_trans y0 b.size
  replace rp := rp.below (b.mono yp)
  replace yp := Nat.le_trans yp b.size
  replace kP := (b.block _ sP).trans kP
  replace sP := Nat.lt_of_lt_of_le sP b.size
  clear b
  have rx := ox.reads
  have yx : w2.heap.size ≤ w2.heap.size := Nat.le_refl _
  obtain ⟨ox1, kx1, ox2, kx2, rfl, rfl⟩ := ox.forms
  clear ox
  have b : Below w2.heap.size w2 (w2.alloc (.cells #[.slice ox1 xc.length kx1, .slice ox2 xp.length kx2] 26)) := bw_alloc (Below.refl _ _)
  have kX := heap_alloc_new w2 (.cells #[.slice ox1 xc.length kx1, .slice ox2 xp.length kx2] 26)
  have sX : w2.heap.size < (w2.alloc (.cells #[.slice ox1 xc.length kx1, .slice ox2 xp.length kx2] 26)).heap.size := by simp
  replace d := bw_call d b
  replace hs := hs.below (b.mono y0)
  replace y0 := Nat.le_trans y0 b.size
  replace rp := rp.below (b.mono yp)
  replace yp := Nat.le_trans yp b.size
  replace kP := (b.block _ sP).trans kP
  replace sP := Nat.lt_of_lt_of_le sP b.size
  replace rx := rx.below (b.mono yx)
  replace yx := Nat.le_trans yx b.size
  clear b
  go_wp2_with fail
  generalize w2.alloc (.cells #[.slice ox1 xc.length kx1, .slice ox2 xp.length kx2] 26) = WX at *
  generalize w2.heap.size = nX at *
  refine (drawDropped_any _ _ _ _ (hs.mono y0)).mono ?_
  rintro e w3 ⟨q1, q2, qc, qp, k_, rfl, rq, hk, b⟩
  replace d := bw_call d b
  replace hs := hs.below (b.mono y0)
  replace y0 := Nat.le_trans y0 b.size
  replace rp := rp.below (b.mono yp)
  replace yp := Nat.le_trans yp b.size
  replace kP := (b.block _ sP).trans kP
  replace sP := Nat.lt_of_lt_of_le sP b.size
  replace rx := rx.below (b.mono yx)
  replace yx := Nat.le_trans yx b.size
  replace kX := (b.block _ sX).trans kX
  replace sX := Nat.lt_of_lt_of_le sX b.size
  clear b
  clear hs y0
  have yq : w3.heap.size ≤ w3.heap.size := Nat.le_refl _
  obtain ⟨oq1, kq1, oq2, kq2, rfl, rfl⟩ := rq.forms
  have b : Below w3.heap.size w3 (w3.alloc (.cells #[.slice oq1 qc.length kq1, .slice oq2 qp.length kq2] 26)) := bw_alloc (Below.refl _ _)
  have kQ := heap_alloc_new w3 (.cells #[.slice oq1 qc.length kq1, .slice oq2 qp.length kq2] 26)
  have sQ : w3.heap.size < (w3.alloc (.cells #[.slice oq1 qc.length kq1, .slice oq2 qp.length kq2] 26)).heap.size := by simp
  replace d := bw_call d b
  replace rp := rp.below (b.mono yp)
  replace yp := Nat.le_trans yp b.size
  replace kP := (b.block _ sP).trans kP
  replace sP := Nat.lt_of_lt_of_le sP b.size
  replace rx := rx.below (b.mono yx)
  replace yx := Nat.le_trans yx b.size
  replace kX := (b.block _ sX).trans kX
  replace sX := Nat.lt_of_lt_of_le sX b.size
  replace rq := rq.below (b.mono yq)
  replace yq := Nat.le_trans yq b.size
  clear b
  go_wp2_with fail
  generalize w3.alloc (.cells #[.slice oq1 qc.length kq1, .slice oq2 qp.length kq2] 26) = WQ at *
  generalize w3.heap.size = nQ at *
  obtain ⟨⟨⟨yc, yp_⟩, gone⟩, hfe⟩ : ∃ fd, dropped qc qp k_ = fd := ⟨_, rfl⟩
  have HFE : Hid (dropped qc qp k_ = ((yc, yp_), gone)) := hfe
  refine (implDropped_any _ _ qc qp k_ _ (rq.mono yq).c (rq.mono yq).p).mono ?_
  rw [hfe]
  clear hfe
  simp only
  rintro e w4 ⟨y1, y2, rfl, oy, b⟩
  replace d := bw_call d b
  replace rp := rp.below (b.mono yp)
  replace yp := Nat.le_trans yp b.size
  replace kP := (b.block _ sP).trans kP
  replace sP := Nat.lt_of_lt_of_le sP b.size
  replace rx := rx.below (b.mono yx)
  replace yx := Nat.le_trans yx b.size
  replace kX := (b.block _ sX).trans kX
  replace sX := Nat.lt_of_lt_of_le sX b.size
  replace rq := rq.below (b.mono yq)
  replace yq := Nat.le_trans yq b.size
  replace kQ := (b.block _ sQ).trans kQ
  replace sQ := Nat.lt_of_lt_of_le sQ b.size
  clear b
  have ry := oy.reads
  have yy : w4.heap.size ≤ w4.heap.size := Nat.le_refl _
  obtain ⟨oy1, ky1, oy2, ky2, rfl, rfl⟩ := oy.forms
  clear oy
  have b : Below w4.heap.size w4 (w4.alloc (.cells #[.slice oy1 yc.length ky1, .slice oy2 yp_.length ky2] 26)) := bw_alloc (Below.refl _ _)
  have kY := heap_alloc_new w4 (.cells #[.slice oy1 yc.length ky1, .slice oy2 yp_.length ky2] 26)
  have sY : w4.heap.size < (w4.alloc (.cells #[.slice oy1 yc.length ky1, .slice oy2 yp_.length ky2] 26)).heap.size := by simp
  replace d := bw_call d b
  replace rp := rp.below (b.mono yp)
  replace yp := Nat.le_trans yp b.size
  replace kP := (b.block _ sP).trans kP
  replace sP := Nat.lt_of_lt_of_le sP b.size
  replace rx := rx.below (b.mono yx)
  replace yx := Nat.le_trans yx b.size
  replace kX := (b.block _ sX).trans kX
  replace sX := Nat.lt_of_lt_of_le sX b.size
  replace rq := rq.below (b.mono yq)
  replace yq := Nat.le_trans yq b.size
  replace kQ := (b.block _ sQ).trans kQ
  replace sQ := Nat.lt_of_lt_of_le sQ b.size
  replace ry := ry.below (b.mono yy)
  replace yy := Nat.le_trans yy b.size
  clear b
  have pP0 := at_cell kP 0
  have pP1 := at_cell kP 1
  go_wp2_with fail
  generalize w4.alloc (.cells #[.slice oy1 yc.length ky1, .slice oy2 yp_.length ky2] 26) = WY at *
  generalize w4.heap.size = nY at *
  clear pP0 pP1
  refine (specShared_any _ _ cs ps at_ _ (rp.mono yp).c (rp.mono yp).p).mono ?_
  rw [HFD.out]
  simp only
  rintro e w5 ⟨z1, z2, rfl, oz, b⟩
  replace d := bw_call d b
  replace rp := rp.below (b.mono yp)
  replace yp := Nat.le_trans yp b.size
  replace kP := (b.block _ sP).trans kP
  replace sP := Nat.lt_of_lt_of_le sP b.size
  replace rx := rx.below (b.mono yx)
  replace yx := Nat.le_trans yx b.size
  replace kX := (b.block _ sX).trans kX
  replace sX := Nat.lt_of_lt_of_le sX b.size
  replace rq := rq.below (b.mono yq)
  replace yq := Nat.le_trans yq b.size
  replace kQ := (b.block _ sQ).trans kQ
  replace sQ := Nat.lt_of_lt_of_le sQ b.size
  replace ry := ry.below (b.mono yy)
  replace yy := Nat.le_trans yy b.size
  replace kY := (b.block _ sY).trans kY
  replace sY := Nat.lt_of_lt_of_le sY b.size
  clear b
  have rz := oz.reads
  have yz : w5.heap.size ≤ w5.heap.size := Nat.le_refl _
  obtain ⟨oz1, kz1, oz2, kz2, rfl, rfl⟩ := oz.forms
  clear oz
  have b : Below w5.heap.size w5 (w5.alloc (.cells #[.slice oz1 xc.length kz1, .slice oz2 xp.length kz2] 26)) := bw_alloc (Below.refl _ _)
  have kZ := heap_alloc_new w5 (.cells #[.slice oz1 xc.length kz1, .slice oz2 xp.length kz2] 26)
  have sZ : w5.heap.size < (w5.alloc (.cells #[.slice oz1 xc.length kz1, .slice oz2 xp.length kz2] 26)).heap.size := by simp
  replace d := bw_call d b
  replace rp := rp.below (b.mono yp)
  replace yp := Nat.le_trans yp b.size
  replace kP := (b.block _ sP).trans kP
  replace sP := Nat.lt_of_lt_of_le sP b.size
  replace rx := rx.below (b.mono yx)
  replace yx := Nat.le_trans yx b.size
  replace kX := (b.block _ sX).trans kX
  replace sX := Nat.lt_of_lt_of_le sX b.size
  replace rq := rq.below (b.mono yq)
  replace yq := Nat.le_trans yq b.size
  replace kQ := (b.block _ sQ).trans kQ
  replace sQ := Nat.lt_of_lt_of_le sQ b.size
  replace ry := ry.below (b.mono yy)
  replace yy := Nat.le_trans yy b.size
  replace kY := (b.block _ sY).trans kY
  replace sY := Nat.lt_of_lt_of_le sY b.size
  replace rz := rz.below (b.mono yz)
  replace yz := Nat.le_trans yz b.size
  clear b
  have pX0 := at_cell kX 0
  have pX1 := at_cell kX 1
  have pZ0 := at_cell kZ 0
  have pZ1 := at_cell kZ 1
  go_wp2_with fail
  generalize w5.alloc (.cells #[.slice oz1 xc.length kz1, .slice oz2 xp.length kz2] 26) = WZ at *
  generalize w5.heap.size = nZ at *
  clear pX0 pX1 pZ0 pZ1
  refine (likePool_any _ _ _ _ xc xp xc xp _ (rx.mono yx) (rz.mono yz)).mono ?_
  rintro e w6 ⟨rfl, b⟩
  rw [show (decide (xc = xc) && decide (xp = xp)) = true by simp]
  replace d := bw_call d b
  replace rp := rp.below (b.mono yp)
  replace yp := Nat.le_trans yp b.size
  replace kP := (b.block _ sP).trans kP
  replace sP := Nat.lt_of_lt_of_le sP b.size
  replace rx := rx.below (b.mono yx)
  replace yx := Nat.le_trans yx b.size
  replace kX := (b.block _ sX).trans kX
  replace sX := Nat.lt_of_lt_of_le sX b.size
  replace rq := rq.below (b.mono yq)
  replace yq := Nat.le_trans yq b.size
  replace kQ := (b.block _ sQ).trans kQ
  replace sQ := Nat.lt_of_lt_of_le sQ b.size
  replace ry := ry.below (b.mono yy)
  replace yy := Nat.le_trans yy b.size
  replace kY := (b.block _ sY).trans kY
  replace sY := Nat.lt_of_lt_of_le sY b.size
  replace rz := rz.below (b.mono yz)
  replace yz := Nat.le_trans yz b.size
  replace kZ := (b.block _ sZ).trans kZ
  replace sZ := Nat.lt_of_lt_of_le sZ b.size
  clear b
  clear rz yz kZ sZ
  have pQ0 := at_cell kQ 0
  have pQ1 := at_cell kQ 1
  go_wp2_with fail
  clear pQ0 pQ1
  refine (specDropped_any _ _ qc qp k_ _ (rq.mono yq).c (rq.mono yq).p).mono ?_
  rw [HFE.out]
  simp only
  rintro e w7 ⟨z1, z2, rfl, oz, b⟩
  replace d := bw_call d b
  replace rp := rp.below (b.mono yp)
  replace yp := Nat.le_trans yp b.size
  replace kP := (b.block _ sP).trans kP
  replace sP := Nat.lt_of_lt_of_le sP b.size
  replace rx := rx.below (b.mono yx)
  replace yx := Nat.le_trans yx b.size
  replace kX := (b.block _ sX).trans kX
  replace sX := Nat.lt_of_lt_of_le sX b.size
  replace rq := rq.below (b.mono yq)
  replace yq := Nat.le_trans yq b.size
  replace kQ := (b.block _ sQ).trans kQ
  replace sQ := Nat.lt_of_lt_of_le sQ b.size
  replace ry := ry.below (b.mono yy)
  replace yy := Nat.le_trans yy b.size
  replace kY := (b.block _ sY).trans kY
  replace sY := Nat.lt_of_lt_of_le sY b.size
  clear b
  have rt := oz.reads
  have yt : w7.heap.size ≤ w7.heap.size := Nat.le_refl _
  obtain ⟨ot1, kt1, ot2, kt2, rfl, rfl⟩ := oz.forms
  clear oz
  have b : Below w7.heap.size w7 (w7.alloc (.cells #[.slice ot1 yc.length kt1, .slice ot2 yp_.length kt2] 26)) := bw_alloc (Below.refl _ _)
  have kT := heap_alloc_new w7 (.cells #[.slice ot1 yc.length kt1, .slice ot2 yp_.length kt2] 26)
  have sT : w7.heap.size < (w7.alloc (.cells #[.slice ot1 yc.length kt1, .slice ot2 yp_.length kt2] 26)).heap.size := by simp
  replace d := bw_call d b
  replace rp := rp.below (b.mono yp)
  replace yp := Nat.le_trans yp b.size
  replace kP := (b.block _ sP).trans kP
  replace sP := Nat.lt_of_lt_of_le sP b.size
  replace rx := rx.below (b.mono yx)
  replace yx := Nat.le_trans yx b.size
  replace kX := (b.block _ sX).trans kX
  replace sX := Nat.lt_of_lt_of_le sX b.size
  replace rq := rq.below (b.mono yq)
  replace yq := Nat.le_trans yq b.size
  replace kQ := (b.block _ sQ).trans kQ
  replace sQ := Nat.lt_of_lt_of_le sQ b.size
  replace ry := ry.below (b.mono yy)
  replace yy := Nat.le_trans yy b.size
  replace kY := (b.block _ sY).trans kY
  replace sY := Nat.lt_of_lt_of_le sY b.size
  replace rt := rt.below (b.mono yt)
  replace yt := Nat.le_trans yt b.size
  clear b
  have pY0 := at_cell kY 0
  have pY1 := at_cell kY 1
  have pT0 := at_cell kT 0
  have pT1 := at_cell kT 1
  go_wp2_with fail
  generalize w7.alloc (.cells #[.slice ot1 yc.length kt1, .slice ot2 yp_.length kt2] 26) = WT at *
  generalize w7.heap.size = nT at *
  clear pY0 pY1 pT0 pT1
  refine (likePool_any _ _ _ _ yc yp_ yc yp_ _ (ry.mono yy) (rt.mono yt)).mono ?_
  rintro e w8 ⟨rfl, b⟩
  rw [show (decide (yc = yc) && decide (yp_ = yp_)) = true by simp]
  replace d := bw_call d b
  replace rp := rp.below (b.mono yp)
  replace yp := Nat.le_trans yp b.size
  replace kP := (b.block _ sP).trans kP
  replace sP := Nat.lt_of_lt_of_le sP b.size
  replace rx := rx.below (b.mono yx)
  replace yx := Nat.le_trans yx b.size
  replace kX := (b.block _ sX).trans kX
  replace sX := Nat.lt_of_lt_of_le sX b.size
  replace rq := rq.below (b.mono yq)
  replace yq := Nat.le_trans yq b.size
  replace kQ := (b.block _ sQ).trans kQ
  replace sQ := Nat.lt_of_lt_of_le sQ b.size
  replace ry := ry.below (b.mono yy)
  replace yy := Nat.le_trans yy b.size
  replace kY := (b.block _ sY).trans kY
  replace sY := Nat.lt_of_lt_of_le sY b.size
  replace rt := rt.below (b.mono yt)
  replace yt := Nat.le_trans yt b.size
  replace kT := (b.block _ sT).trans kT
  replace sT := Nat.lt_of_lt_of_le sT b.size
  clear b
  clear rt yt kT sT
  go_upto_region 13 with fail
  go_cut [132] (fun v wx => v = .bool false ∧ Below w8.heap.size w8 wx)
  case first =>
    have hne := BelowOf.any w8
    have gQ0 := BelowOf.cell (at_cell kQ 0) sQ
    have gQ1 := BelowOf.cell (at_cell kQ 1) sQ
    have gY0 := BelowOf.cell (at_cell kY 0) sY
    have gY1 := BelowOf.cell (at_cell kY 1) sY
    cases gone
    · -- nothing was dropped
      obtain ⟨okq, hokq⟩ : ∃ okq, poolOk qc qp = okq := ⟨_, rfl⟩
      have HSO : ∀ p : BelowOf w8, Calls Try.prog 13 #[.agg #[.slice oq1 qc.length kq1, .slice oq2 qp.length kq2]] p.w' fun e w' => e = .returned (.bool okq) ∧ Below p.w'.heap.size p.w' w' := fun p => by have h := specPoolOk_any _ _ qc qp p.w' (rq.of yq p).c (rq.of yq p).p; rwa [hokq] at h
      cases okq
      · clear hokq
        refine wp_region_of (by kernel_rfl) (by kernel_rfl) ?_
        repeat (go_big_quiet_step ((first | (go_at_call 13; exact calls_of (HSO _)) | rfl)))
        refine wpQuiet_nil ?_
        intro w9 hw9
        obtain ⟨⟨wx, cx⟩, hwx⟩ := hw9
        have b9 : Below w8.heap.size w8 w9 := by rw [hwx]; exact cx
        clear hwx cx wx
        go_wp2_with fail
        go_meet
        exact ⟨rfl, b9⟩
      · obtain ⟨hyc, hyp⟩ : yc = qc ∧ yp_ = qp := by
          rcases dropped_no qc qp yc yp_ k_ HFE.out with h | h
          · rw [hokq] at h; cases h
          · exact h
        have HLK : ∀ p : BelowOf w8, Calls Try.prog 10 #[.agg #[.slice oy1 yc.length ky1, .slice oy2 yp_.length ky2], .agg #[.slice oq1 qc.length kq1, .slice oq2 qp.length kq2]] p.w' fun e w' => e = .returned (.bool true) ∧ Below p.w'.heap.size p.w' w' := fun p => by
          have h := likePool_any _ _ _ _ yc yp_ qc qp p.w' (ry.of yy p) (rq.of yq p)
          rwa [show (decide (yc = qc) && decide (yp_ = qp)) = true by simp [hyc, hyp]] at h
        clear hyc hyp hokq
        refine wp_region_of (by kernel_rfl) (by kernel_rfl) ?_
        repeat (go_big_quiet_step ((first | (go_at_call 13; exact calls_of (HSO _)) | (go_at_call 10; exact calls_of (HLK _)) | rfl)))
        refine wpQuiet_nil ?_
        intro w9 hw9
        obtain ⟨⟨wx, cx⟩, hwx⟩ := hw9
        have b9 : Below w8.heap.size w8 w9 := by rw [hwx]; exact cx
        clear hwx cx wx
        go_wp2_with fail
        go_meet
        exact ⟨rfl, b9⟩
    · -- a page was dropped
      obtain ⟨hokq, hoky, a, rfl, ha1, ha2, ha3, ha4, hcb, hyc, hyp⟩ := dropped_yes qc qp yc yp_ k_ HFE.out
      have cell_of : ∀ {v : Value} {B : Nat} {xs : List Int}, Reads B w8 v (xs.map (Value.int .i64)) → B ≤ w8.heap.size → a < xs.length → ∀ o l kk, v = .slice o l kk → ∃ g off, o = some ⟨g, off, none⟩ ∧ g < w8.heap.size ∧ w8.cell? ⟨g, off + a, none⟩ = some (.int .i64 (xs.getD a 0)) := fun r hB ha o l kk e => by
        obtain ⟨o', kk', e', -, hc, -⟩ := r
        rw [e] at e'
        simp only [Value.slice.injEq] at e'
        obtain ⟨g, off, e2, hg, hx⟩ := hc a _ (getD_some _ a ha)
        exact ⟨g, off, by rw [e'.1, e2], by omega, hx⟩
      obtain ⟨g1, f1, e1, l1, c1⟩ := cell_of rq.c yq ha1 _ _ _ rfl
      obtain ⟨g2, f2, e2, l2, c2⟩ := cell_of rq.p yq ha2 _ _ _ rfl
      obtain ⟨g3, f3, e3, l3, c3⟩ := cell_of ry.c yy ha3 _ _ _ rfl
      obtain ⟨g4, f4, e4, l4, c4⟩ := cell_of ry.p yy ha4 _ _ _ rfl
      clear cell_of
      subst e1 e2 e3 e4
      rw [hyc] at c3
      rw [hyp] at c4
      have HPO : ∀ p : BelowOf w8, Calls Try.prog 12 #[.agg #[.slice (some ⟨g3, f3, none⟩) yc.length ky1, .slice (some ⟨g4, f4, none⟩) yp_.length ky2]] p.w' fun e w' => e = .returned (.bool true) ∧ Below p.w'.heap.size p.w' w' := fun p => by have h := implPoolOk_any _ _ yc yp_ p.w' (ry.of yy p).c (ry.of yy p).p; rwa [hoky] at h
      have j0 : (0 : Int) ≤ (a : Int) := by omega
      have j1 : (a : Int) < (qc.length : Int) := by omega
      have j2 : (a : Int) < (qp.length : Int) := by omega
      have j3 : (a : Int) < (yc.length : Int) := by omega
      have j4 : (a : Int) < (yp_.length : Int) := by omega
      clear hokq hoky hyc hyp
      generalize qc.getD a 0 = c at *
      generalize qp.getD a 0 = pg at *
      obtain ⟨hc0, hc4⟩ := hcb
      have hwr : IntKind.i64.wrap (c - 1) = c - 1 := by rw [IntKind.wrap_i64]; omega
      by_cases hc : c = 1
      · subst hc
        rw [if_pos rfl] at c4
        by_cases hpg : pg = 0
        · subst hpg
          have gA := BelowOf.cell c1 l1
          have gB := BelowOf.cell c2 l2
          have gC := BelowOf.cell c3 l3
          have gD := BelowOf.cell c4 l4
          refine wp_region_of (by kernel_rfl) (by kernel_rfl) ?_
          repeat (go_big_quiet_step ((first | (go_at_call 12; exact calls_of (HPO _)) | rfl)))
          refine wpQuiet_nil ?_
          intro w9 hw9
          obtain ⟨⟨wx, cx⟩, hwx⟩ := hw9
          have b9 : Below w8.heap.size w8 w9 := by rw [hwx]; exact cx
          clear hwx cx wx
          go_wp2_with fail
          go_meet
          exact ⟨rfl, b9⟩
        · have h1 : ((0 : Int) != pg) = true := by simp; omega
          have h2 : (pg != 0) = true := by simp; omega
          have h3 : ((0 : Int) == pg) = false := by simp; omega
          have h4 : (pg == 0) = false := by simp; omega
          have gA := BelowOf.cell c1 l1
          have gB := BelowOf.cell c2 l2
          have gC := BelowOf.cell c3 l3
          have gD := BelowOf.cell c4 l4
          refine wp_region_of (by kernel_rfl) (by kernel_rfl) ?_
          repeat (go_big_quiet_step ((first | (go_at_call 12; exact calls_of (HPO _)) | rfl)))
          refine wpQuiet_nil ?_
          intro w9 hw9
          obtain ⟨⟨wx, cx⟩, hwx⟩ := hw9
          have b9 : Below w8.heap.size w8 w9 := by rw [hwx]; exact cx
          clear hwx cx wx
          go_wp2_with fail
          go_meet
          exact ⟨rfl, b9⟩
      · rw [if_neg hc] at c4
        have h1 : (c == 1) = false := by simp; omega
        have h2 : (c != 1) = true := by simp; omega
        have gA := BelowOf.cell c1 l1
        have gB := BelowOf.cell c2 l2
        have gC := BelowOf.cell c3 l3
        have gD := BelowOf.cell c4 l4
        refine wp_region_of (by kernel_rfl) (by kernel_rfl) ?_
        repeat (go_big_quiet_step ((first | (go_at_call 12; exact calls_of (HPO _)) | rfl)))
        refine wpQuiet_nil ?_
        intro w9 hw9
        obtain ⟨⟨wx, cx⟩, hwx⟩ := hw9
        have b9 : Below w8.heap.size w8 w9 := by rw [hwx]; exact cx
        clear hwx cx wx
        go_wp2_with fail
        go_meet
        exact ⟨rfl, b9⟩
  case rest =>
    obtain ⟨rfl, b⟩ := hcut
    replace d := bw_call d b
    replace rp := rp.below (b.mono yp)
    replace yp := Nat.le_trans yp b.size
    replace kP := (b.block _ sP).trans kP
    replace sP := Nat.lt_of_lt_of_le sP b.size
    replace rx := rx.below (b.mono yx)
    replace yx := Nat.le_trans yx b.size
    replace kX := (b.block _ sX).trans kX
    replace sX := Nat.lt_of_lt_of_le sX b.size
    replace rq := rq.below (b.mono yq)
    replace yq := Nat.le_trans yq b.size
    replace kQ := (b.block _ sQ).trans kQ
    replace sQ := Nat.lt_of_lt_of_le sQ b.size
    replace ry := ry.below (b.mono yy)
    replace yy := Nat.le_trans yy b.size
    replace kY := (b.block _ sY).trans kY
    replace sY := Nat.lt_of_lt_of_le sY b.size
    clear b
    clear rq yq kQ sQ ry yy kY sY
    cases is_
    · have pP0 := at_cell kP 0
      have pP1 := at_cell kP 1
      go_wp2_with fail
      clear pP0 pP1
      refine (specPoolOk_any _ _ cs ps _ (rp.mono yp).c (rp.mono yp).p).mono ?_
      obtain ⟨okp, hokp⟩ : ∃ okp, poolOk cs ps = okp := ⟨_, rfl⟩
      have HOKP : Hid _ := hokp
      rw [hokp]
      clear hokp
      rintro e w10 ⟨rfl, b⟩
      replace d := bw_call d b
      replace rp := rp.below (b.mono yp)
      replace yp := Nat.le_trans yp b.size
      replace kP := (b.block _ sP).trans kP
      replace sP := Nat.lt_of_lt_of_le sP b.size
      replace rx := rx.below (b.mono yx)
      replace yx := Nat.le_trans yx b.size
      replace kX := (b.block _ sX).trans kX
      replace sX := Nat.lt_of_lt_of_le sX b.size
      clear b
      cases okp
      · go_wp2_with fail
        go_ret
        exact ⟨rfl, d⟩
      · obtain ⟨hxc, hxp⟩ : xc = cs ∧ xp = ps := by
          rcases shared_no cs ps xc xp at_ HFD.out with h | h
          · rw [HOKP.out] at h; cases h
          · exact h
        subst hxc hxp
        have pP0 := at_cell kP 0
        have pP1 := at_cell kP 1
        have pX0 := at_cell kX 0
        have pX1 := at_cell kX 1
        go_wp2_with fail
        clear pP0 pP1 pX0 pX1
        refine (likePool_any _ _ _ _ xc xp xc xp _ (rx.mono yx) (rp.mono yp)).mono ?_
        rintro e w11 ⟨rfl, b⟩
        rw [show (decide (xc = xc) && decide (xp = xp)) = true by simp]
        replace d := bw_call d b
        replace rp := rp.below (b.mono yp)
        replace yp := Nat.le_trans yp b.size
        replace kP := (b.block _ sP).trans kP
        replace sP := Nat.lt_of_lt_of_le sP b.size
        replace rx := rx.below (b.mono yx)
        replace yx := Nat.le_trans yx b.size
        replace kX := (b.block _ sX).trans kX
        replace sX := Nat.lt_of_lt_of_le sX b.size
        clear b
        go_wp2_with fail
        go_ret
        exact ⟨rfl, d⟩
    · obtain ⟨hokp, ⟨a, rfl, ha1, ha2⟩, hxp, hxl, hokx, hdr, hsx⟩ := shared_yes cs ps xc xp at_ HFD.out
      have HDR : Hid _ := hdr
      have HSX : Hid _ := hsx
      have HOKX : Hid _ := hokx
      have ha3 : a < xc.length := by omega
      clear hdr hsx hokx hokp hxl
      subst hxp
      have pX0 := at_cell kX 0
      have pX1 := at_cell kX 1
      go_wp2_with fail
      clear pX0 pX1
      refine (implDropped_any _ _ xc xp a _ (rx.mono yx).c (rx.mono yx).p).mono ?_
      rw [HDR.out]
      simp only
      rintro e w10 ⟨f1, f2, rfl, of_, b⟩
      replace d := bw_call d b
      replace rp := rp.below (b.mono yp)
      replace yp := Nat.le_trans yp b.size
      replace kP := (b.block _ sP).trans kP
      replace sP := Nat.lt_of_lt_of_le sP b.size
      replace rx := rx.below (b.mono yx)
      replace yx := Nat.le_trans yx b.size
      replace kX := (b.block _ sX).trans kX
      replace sX := Nat.lt_of_lt_of_le sX b.size
      clear b
      have rf := of_.reads
      have yf : w10.heap.size ≤ w10.heap.size := Nat.le_refl _
      obtain ⟨of1, kf1, of2, kf2, rfl, rfl⟩ := of_.forms
      clear of_
      have b : Below w10.heap.size w10 (w10.alloc (.cells #[.slice of1 cs.length kf1, .slice of2 xp.length kf2] 26)) := bw_alloc (Below.refl _ _)
      have kF := heap_alloc_new w10 (.cells #[.slice of1 cs.length kf1, .slice of2 xp.length kf2] 26)
      have sF : w10.heap.size < (w10.alloc (.cells #[.slice of1 cs.length kf1, .slice of2 xp.length kf2] 26)).heap.size := by simp
      replace d := bw_call d b
      replace rp := rp.below (b.mono yp)
      replace yp := Nat.le_trans yp b.size
      replace kP := (b.block _ sP).trans kP
      replace sP := Nat.lt_of_lt_of_le sP b.size
      replace rx := rx.below (b.mono yx)
      replace yx := Nat.le_trans yx b.size
      replace kX := (b.block _ sX).trans kX
      replace sX := Nat.lt_of_lt_of_le sX b.size
      replace rf := rf.below (b.mono yf)
      replace yf := Nat.le_trans yf b.size
      clear b
      go_wp2_with fail
      generalize w10.alloc (.cells #[.slice of1 cs.length kf1, .slice of2 xp.length kf2] 26) = WF at *
      generalize w10.heap.size = nF at *
      have cell_of : ∀ {v : Value} {B : Nat} {xs : List Int}, Reads B WF v (xs.map (Value.int .i64)) → B ≤ WF.heap.size → a < xs.length → ∀ o l kk, v = .slice o l kk → ∃ g off, o = some ⟨g, off, none⟩ ∧ g < WF.heap.size ∧ WF.cell? ⟨g, off + a, none⟩ = some (.int .i64 (xs.getD a 0)) := fun r hB ha o l kk e => by
        obtain ⟨o', kk', e', -, hc, -⟩ := r
        rw [e] at e'
        simp only [Value.slice.injEq] at e'
        obtain ⟨g, off, e2, hg, hx⟩ := hc a _ (getD_some _ a ha)
        exact ⟨g, off, by rw [e'.1, e2], by omega, hx⟩
      obtain ⟨g1, h1, e1, l1, c1⟩ := cell_of rx.p yx ha2 _ _ _ rfl
      obtain ⟨g2, h2, e2, l2, c2⟩ := cell_of rp.p yp ha2 _ _ _ rfl
      clear cell_of
      subst e1 e2
      have hne := BelowOf.any WF
      have gP0 := BelowOf.cell (at_cell kP 0) sP
      have gP1 := BelowOf.cell (at_cell kP 1) sP
      have gX0 := BelowOf.cell (at_cell kX 0) sX
      have gX1 := BelowOf.cell (at_cell kX 1) sX
      have gF0 := BelowOf.cell (at_cell kF 0) sF
      have gF1 := BelowOf.cell (at_cell kF 1) sF
      have gC := BelowOf.cell c1 l1
      have gD := BelowOf.cell c2 l2
      have j0 : (0 : Int) ≤ (a : Int) := by omega
      have j2 : (a : Int) < (xp.length : Int) := by omega
      obtain ⟨sp, hsp⟩ : ∃ sp, spare cs xp = sp := ⟨_, rfl⟩
      have HPO : ∀ p : BelowOf WF, Calls Try.prog 12 #[.agg #[.slice ox1 xc.length kx1, .slice (some ⟨g1, h1, none⟩) xp.length kx2]] p.w' fun e w' => e = .returned (.bool true) ∧ Below p.w'.heap.size p.w' w' := fun p => by have h := implPoolOk_any _ _ xc xp p.w' (rx.of yx p).c (rx.of yx p).p; rwa [HOKX.out] at h
      have HS1 : ∀ p : BelowOf WF, Calls Try.prog 14 #[.agg #[.slice ox1 xc.length kx1, .slice (some ⟨g1, h1, none⟩) xp.length kx2]] p.w' fun e w' => e = .returned (.int .i64 sp) ∧ Below p.w'.heap.size p.w' w' := fun p => by have h := implSpare_any _ _ xc xp p.w' (rx.of yx p).c (rx.of yx p).p; rwa [HSX.out, hsp] at h
      have HS2 : ∀ p : BelowOf WF, Calls Try.prog 14 #[.agg #[.slice op1 cs.length kp1, .slice (some ⟨g2, h2, none⟩) xp.length kp2]] p.w' fun e w' => e = .returned (.int .i64 sp) ∧ Below p.w'.heap.size p.w' w' := fun p => by have h := implSpare_any _ _ cs xp p.w' (rp.of yp p).c (rp.of yp p).p; rwa [hsp] at h
      have HLK : ∀ p : BelowOf WF, Calls Try.prog 10 #[.agg #[.slice of1 cs.length kf1, .slice of2 xp.length kf2], .agg #[.slice op1 cs.length kp1, .slice (some ⟨g2, h2, none⟩) xp.length kp2]] p.w' fun e w' => e = .returned (.bool true) ∧ Below p.w'.heap.size p.w' w' := fun p => by
        have h := likePool_any _ _ _ _ cs xp cs xp p.w' (rf.of yf p) (rp.of yp p)
        rwa [show (decide (cs = cs) && decide (xp = xp)) = true by simp] at h
      clear hsp
      generalize xp.getD a 0 = pg at *
      refine wp_region_of (by kernel_rfl) (by kernel_rfl) ?_
      repeat (go_big_quiet_step ((first | (go_at_call 10; exact calls_of (HLK _)) | (go_at_call 12; exact calls_of (HPO _)) | (go_at_call 14; first | (with_reducible exact calls_of (HS1 _)) | (with_reducible exact calls_of (HS2 _))) | rfl)))
      refine wpQuiet_nil ?_
      intro w12 hw12
      obtain ⟨⟨wx, cx⟩, hwx⟩ := hw12
      have b : Below WF.heap.size WF w12 := by rw [hwx]; exact cx
      clear hwx cx wx hne gP0 gP1 gX0 gX1 gF0 gF1 gC gD HPO HS1 HS2 HLK
      replace d := bw_call d b
      go_wp2_with fail
      go_ret
      exact ⟨rfl, d⟩

set_option maxRecDepth 100000 in
theorem lifted (os : Os) (started : os.Started) (H : Type) (enc : TypeId × Value → H) :
    ReturnsInHanded {} Try.checked os 3 .any (Rows.fnSharedSpec.pre6 enc Try.prog Try.f3 Rows.fnSharedRow.domain false) (Rows.fnSharedSpec.post enc Try.prog Try.f3 false true false false) := by
  refine returnsInHanded_of_change (C := Try.checked) own started (by kernel_rfl) Try.func3
    (ChangeSpec.witness6 (enc := enc) (C := Try.checked) false ⟨#[], #[.slice none 0 0], []⟩ 8 (by kernel_rfl) (by kernel_rfl) (by kernel_rfl) (by kernel_rfl)) ?_
  intro W base args ds gs before hval0 hW hcnd _
  have hval : ∀ (j : Nat) t v, Try.f3.params[j]? = some t → args[j]? = some v → Value.okWide Try.prog W .any base t v := hval0
  have hW' := hW
  obtain ⟨p, q, hA0, hV, rfl, hfz, hnd⟩ := hW
  have hA : DataW.TrodAll enc Try.prog W 0 (fun _ => true) true Try.f3.params.toList args.toList ds p := hA0
  rw [Try.params3] at hA hval
  obtain ⟨v0, vs0, d0, ds0, p0, q0, hargs, rfl, rfl, h0, r0⟩ := trodAll_cons hA
  obtain ⟨rfl, rfl, rfl⟩ := trodAll_nil r0
  obtain rfl : args = #[v0] := by cases args; simp_all
  obtain ⟨rfl, rfl⟩ := trodVars_none hV
  obtain ⟨a0, len0, cap0, rfl⟩ := okWide_slice Try.underlying22 (hval 0 22 v0 rfl rfl)
  have k0 := h0
  have lt0 : ∀ x ∈ p0, x.block < W.heap.size := by obtain ⟨m, hm⟩ := k0; exact DataW.trod_lt m _ _ _ hm
  obtain ⟨z0, w0⟩ : ∃ zs, IsRow .u8 W a0 len0 cap0 zs := by
    obtain ⟨fuel, hf⟩ := h0
    rcases open_ints Try.underlying22 Try.underlying5 (by kernel_rfl) hf with ⟨hcs, _⟩ | ⟨x, l, c, zs, hcs, _, hl, hm, hz, _, hcell, hwz⟩
    · simp [Value.cells] at hcs
      obtain ⟨rfl, rfl, rfl⟩ := hcs
      exact ⟨[], .inl ⟨rfl, rfl, rfl, rfl⟩⟩
    · simp [Value.cells] at hcs
      obtain ⟨rfl, rfl, rfl⟩ := hcs
      exact ⟨zs, .inr ⟨_, rfl, hl, hm, by simpa using hz, hcell, hwz⟩⟩
  clear hA0 hval0
  refine (walk a0 len0 cap0 z0 W w0).mono fun e W' ⟨he, bel⟩ => ?_
  subst he
  exact ⟨_, rfl, _, _, _, [], _, [], hW', trodAll_mk1 (shut_bool Try.underlying4 _), (trodAll_cons_mk (Below.trod laidOut (by kernel_rfl) (of_decide_eq_true (by kernel_rfl)) k0 bel lt0) trodAll_mk0), rfl, bel.frame _, fun h => by cases h⟩

theorem over : Rows.fnSharedRow.holds Try.pinned (OpenSpec.ofChange Rows.fnSharedSpec) :=
  OpenClaim.holds_of_wide 3 Try.f3 rfl rfl rfl rfl rfl rfl rfl ⟨rfl, rfl, rfl, rfl, rfl⟩ rfl rfl rfl rfl rfl (by kernel_rfl) Try.func3 (by kernel_rfl)
    (of_decide_eq_true (by kernel_rfl)) (by unfold Func.isWrapper; first | (rw [if_pos (by decide +kernel)]; kernel_rfl) | (rw [if_neg (by decide +kernel)]; exact ⟨rfl, rfl⟩))
    (fun os started H enc _ => lifted os started H enc)

theorem proved : Rows.FnSharedSaid := over
#print axioms proved
end Go.Proofs.Ytmejggnjmclefab.fnShared
