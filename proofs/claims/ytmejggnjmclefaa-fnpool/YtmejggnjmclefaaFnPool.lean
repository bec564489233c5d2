/-
  The law FnPool answers true at every input that the row speaks of, and its arguments read afterwards as before; the walk goes over the callees' contracts.
-/
import Derived.Test.YtmejggnjmclefaaRows
import Derived.WalkKit
import Derived.Test.YtmejggnjmclefaaPoolM2
import Derived.Test.YtmejggnjmclefaaDrawPool2
import Derived.Test.YtmejggnjmclefaaImPool3
import Derived.Test.YtmejggnjmclefaaPoolLaw
import Derived.Test.YtmejggnjmclefaaDrawNum
import Derived.ProofKit
import Derived.OpenShut
import Derived.ShutString
import Derived.ChangeOld
import Derived.Below
namespace Go.Proofs.Ytmejggnjmclefaa.fnPool
open Go.ChangeShapes Go.WideShapes Go.ChangeAt Go.RowKit
open Go.ChangeMaps (open_string shut_string)
set_option linter.unusedVariables false

theorem own : ownKnob Try.prog.godebug = none := by kernel_rfl
theorem laidOut : laidOutB Try.prog = true := by kernel_rfl

def IsRow (k : IntKind) (w : World) (a : Option Addr) (len cap : Nat) (zs : List Int) : Prop :=
  (a = none ∧ len = 0 ∧ cap = 0 ∧ zs = []) ∨
  ∃ x, a = some x ∧ len ≤ cap ∧ cap ≤ maxLen ∧ zs.length = cap ∧ (∀ i, i < zs.length → w.cell? (x.add i) = some (.int k (zs.getD i 0))) ∧ ∀ n ∈ zs, (Lit.int k n).wf = true

set_option maxRecDepth 100000 in
set_option maxHeartbeats 8000000 in
theorem walk (a0 : Option Addr) (len0 cap0 : Nat) (z0 : List Int) (w : World) (w0 : IsRow .u8 w a0 len0 cap0 z0) :
    Calls Try.prog 7 #[.slice a0 len0 cap0] w fun e w' => e = .returned (.bool true) ∧ Below w.heap.size w w' := by
  have hs : Src w w.heap.size a0 len0 := src_of w0
  have hm := hs.1
  by_cases hbig : (4096 : Int) < (len0 : Int)
  · have hd : decide ((4096 : Int) < (len0 : Int)) = true := by simpa using hbig
    go_enter Try.func7, Try.ntmps7
    go_wp2_with (go_at_call 8; refine (big_any _ _ _ _ hm).mono ?_; rintro e w' ⟨rfl, rfl⟩)
    go_ret
    exact ⟨rfl, Below.refl _ _⟩
  have hd : decide ((4096 : Int) < (len0 : Int)) = false := by simpa using hbig
  have y0 : w.heap.size ≤ w.heap.size := Nat.le_refl _
  clear w0
  go_enter Try.func7, Try.ntmps7
  go_wp2_with fail
  refine (big_any _ _ _ _ hm).mono ?_
  rintro e w' ⟨rfl, rfl⟩
  go_wp2_with fail
  refine (drawTaken_any _ _ _ _ hs).mono ?_
  rintro e w1 ⟨p1, p2, cs, ps, v, rfl, rp, hv, d⟩
  have yp : w1.heap.size ≤ w1.heap.size := Nat.le_refl _
  replace hs := hs.below d
  replace y0 := d.size
  obtain ⟨op1, kp1, op2, kp2, rfl, rfl⟩ := rp.forms
  have b : Below w1.heap.size w1 (w1.alloc (.cells #[.slice op1 cs.length kp1, .slice op2 ps.length kp2] 55)) := bw_alloc (Below.refl _ _)
  have kP := heap_alloc_new w1 (.cells #[.slice op1 cs.length kp1, .slice op2 ps.length kp2] 55)
  have sP : w1.heap.size < (w1.alloc (.cells #[.slice op1 cs.length kp1, .slice op2 ps.length kp2] 55)).heap.size := by simp
  replace d := bw_call d b
  replace hs := hs.below (b.mono y0)
  replace y0 := Nat.le_trans y0 b.size
  replace rp := rp.below (b.mono yp)
  replace yp := Nat.le_trans yp b.size
  clear b
  go_wp2_with fail
  generalize w1.alloc (.cells #[.slice op1 cs.length kp1, .slice op2 ps.length kp2] 55) = WP at *
  generalize w1.heap.size = nP at *
  have hlen := takenPage_len cs ps v
  obtain ⟨⟨⟨xc, xp⟩, at_⟩, hfd⟩ : ∃ fd, takenPage cs ps v = fd := ⟨_, rfl⟩
  have HFD : Hid (takenPage cs ps v = ((xc, xp), at_)) := hfd
  refine (implTaken_any _ _ cs ps v _ (rp.mono yp).c (rp.mono yp).p).mono ?_
  rw [hfd] at hlen ⊢
  clear hfd
  simp only at hlen ⊢
  rintro e w2 ⟨x1, x2, rfl, ox, b⟩
  replace d := bw_call d b
  replace hs := hs.below (b.mono y0)
  replace y0 := Nat.le_trans y0 b.size
  replace rp := rp.below (b.mono yp)
  replace yp := Nat.le_trans yp b.size
  replace kP := (b.block _ sP).trans kP
  replace sP := Nat.lt_of_lt_of_le sP b.size
  clear b
  have rx := ox.reads
  have yx : w2.heap.size ≤ w2.heap.size := Nat.le_refl _
  obtain ⟨ox1, kx1, ox2, kx2, rfl, rfl⟩ := ox.forms
  clear ox
  have b : Below w2.heap.size w2 (w2.alloc (.cells #[.slice ox1 xc.length kx1, .slice ox2 xp.length kx2] 55)) := bw_alloc (Below.refl _ _)
  have kX := heap_alloc_new w2 (.cells #[.slice ox1 xc.length kx1, .slice ox2 xp.length kx2] 55)
  have sX : w2.heap.size < (w2.alloc (.cells #[.slice ox1 xc.length kx1, .slice ox2 xp.length kx2] 55)).heap.size := by simp
  replace d := bw_call d b
  replace hs := hs.below (b.mono y0)
  replace y0 := Nat.le_trans y0 b.size
  replace rp := rp.below (b.mono yp)
  replace yp := Nat.le_trans yp b.size
  replace kP := (b.block _ sP).trans kP
  replace sP := Nat.lt_of_lt_of_le sP b.size
  replace rx := rx.below (b.mono yx)
  replace yx := Nat.le_trans yx b.size
  clear b
  go_wp2_with fail
  generalize w2.alloc (.cells #[.slice ox1 xc.length kx1, .slice ox2 xp.length kx2] 55) = WX at *
  generalize w2.heap.size = nX at *
  refine (drawNew_any _ _ _ _ (hs.mono y0)).mono ?_
  rintro e w3 ⟨n, rfl, hn, b⟩
  replace d := bw_call d b
  replace hs := hs.below (b.mono y0)
  replace y0 := Nat.le_trans y0 b.size
  replace rp := rp.below (b.mono yp)
  replace yp := Nat.le_trans yp b.size
  replace kP := (b.block _ sP).trans kP
  replace sP := Nat.lt_of_lt_of_le sP b.size
  replace rx := rx.below (b.mono yx)
  replace yx := Nat.le_trans yx b.size
  replace kX := (b.block _ sX).trans kX
  replace sX := Nat.lt_of_lt_of_le sX b.size
  clear b
  clear hs y0
  go_wp2_with fail
  have hlen2 := newPool_len n
  obtain ⟨⟨⟨zc, zp⟩, made⟩, hfn⟩ : ∃ fd, newPool n = fd := ⟨_, rfl⟩
  have HFN : Hid (newPool n = ((zc, zp), made)) := hfn
  refine (implNewPool_any n _).mono ?_
  rw [hfn]
  clear hfn hlen2
  simp only
  rintro e w4 ⟨z1, z2, rfl, oz, b⟩
  replace d := bw_call d b
  replace rp := rp.below (b.mono yp)
  replace yp := Nat.le_trans yp b.size
  replace kP := (b.block _ sP).trans kP
  replace sP := Nat.lt_of_lt_of_le sP b.size
  replace rx := rx.below (b.mono yx)
  replace yx := Nat.le_trans yx b.size
  replace kX := (b.block _ sX).trans kX
  replace sX := Nat.lt_of_lt_of_le sX b.size
  clear b
  have rz := oz.reads
  have yz : w4.heap.size ≤ w4.heap.size := Nat.le_refl _
  obtain ⟨oz1, kz1, oz2, kz2, rfl, rfl⟩ := oz.forms
  clear oz
  have b : Below w4.heap.size w4 (w4.alloc (.cells #[.slice oz1 zc.length kz1, .slice oz2 zp.length kz2] 55)) := bw_alloc (Below.refl _ _)
  have kZ := heap_alloc_new w4 (.cells #[.slice oz1 zc.length kz1, .slice oz2 zp.length kz2] 55)
  have sZ : w4.heap.size < (w4.alloc (.cells #[.slice oz1 zc.length kz1, .slice oz2 zp.length kz2] 55)).heap.size := by simp
  replace d := bw_call d b
  replace rp := rp.below (b.mono yp)
  replace yp := Nat.le_trans yp b.size
  replace kP := (b.block _ sP).trans kP
  replace sP := Nat.lt_of_lt_of_le sP b.size
  replace rx := rx.below (b.mono yx)
  replace yx := Nat.le_trans yx b.size
  replace kX := (b.block _ sX).trans kX
  replace sX := Nat.lt_of_lt_of_le sX b.size
  replace rz := rz.below (b.mono yz)
  replace yz := Nat.le_trans yz b.size
  clear b
  have pP0 := at_cell kP 0
  have pP1 := at_cell kP 1
  go_wp2_with fail
  generalize w4.alloc (.cells #[.slice oz1 zc.length kz1, .slice oz2 zp.length kz2] 55) = WZ at *
  generalize w4.heap.size = nZ at *
  clear pP0 pP1
  refine (specTaken_any _ _ cs ps v _ (rp.mono yp).c (rp.mono yp).p).mono ?_
  rw [HFD.out]
  simp only
  rintro e w5 ⟨q1, q2, rfl, oq, b⟩
  replace d := bw_call d b
  replace rp := rp.below (b.mono yp)
  replace yp := Nat.le_trans yp b.size
  replace kP := (b.block _ sP).trans kP
  replace sP := Nat.lt_of_lt_of_le sP b.size
  replace rx := rx.below (b.mono yx)
  replace yx := Nat.le_trans yx b.size
  replace kX := (b.block _ sX).trans kX
  replace sX := Nat.lt_of_lt_of_le sX b.size
  replace rz := rz.below (b.mono yz)
  replace yz := Nat.le_trans yz b.size
  replace kZ := (b.block _ sZ).trans kZ
  replace sZ := Nat.lt_of_lt_of_le sZ b.size
  clear b
  have rq := oq.reads
  have yq : w5.heap.size ≤ w5.heap.size := Nat.le_refl _
  obtain ⟨oq1, kq1, oq2, kq2, rfl, rfl⟩ := oq.forms
  clear oq
  have b : Below w5.heap.size w5 (w5.alloc (.cells #[.slice oq1 xc.length kq1, .slice oq2 xp.length kq2] 55)) := bw_alloc (Below.refl _ _)
  have kY := heap_alloc_new w5 (.cells #[.slice oq1 xc.length kq1, .slice oq2 xp.length kq2] 55)
  have sY : w5.heap.size < (w5.alloc (.cells #[.slice oq1 xc.length kq1, .slice oq2 xp.length kq2] 55)).heap.size := by simp
  replace d := bw_call d b
  replace rp := rp.below (b.mono yp)
  replace yp := Nat.le_trans yp b.size
  replace kP := (b.block _ sP).trans kP
  replace sP := Nat.lt_of_lt_of_le sP b.size
  replace rx := rx.below (b.mono yx)
  replace yx := Nat.le_trans yx b.size
  replace kX := (b.block _ sX).trans kX
  replace sX := Nat.lt_of_lt_of_le sX b.size
  replace rz := rz.below (b.mono yz)
  replace yz := Nat.le_trans yz b.size
  replace kZ := (b.block _ sZ).trans kZ
  replace sZ := Nat.lt_of_lt_of_le sZ b.size
  replace rq := rq.below (b.mono yq)
  replace yq := Nat.le_trans yq b.size
  clear b
  go_wp2_with fail
  generalize w5.alloc (.cells #[.slice oq1 xc.length kq1, .slice oq2 xp.length kq2] 55) = WY at *
  generalize w5.heap.size = nY at *
  obtain ⟨ok, hok⟩ : ∃ ok, poolOk cs ps = ok := ⟨_, rfl⟩
  obtain ⟨sp, hsp⟩ : ∃ sp, spare cs ps = sp := ⟨_, rfl⟩
  have HOK : Hid (poolOk cs ps = ok) := hok
  have HSP : Hid (spare cs ps = sp) := hsp
  have hne := BelowOf.any WY
  have gP0 := BelowOf.cell (at_cell kP 0) sP
  have gP1 := BelowOf.cell (at_cell kP 1) sP
  have gX0 := BelowOf.cell (at_cell kX 0) sX
  have gX1 := BelowOf.cell (at_cell kX 1) sX
  have gY0 := BelowOf.cell (at_cell kY 0) sY
  have gY1 := BelowOf.cell (at_cell kY 1) sY
  have HLT : ∀ p : BelowOf WY, Calls Try.prog 45 #[.agg #[.slice ox1 xc.length kx1, .slice ox2 xp.length kx2], .agg #[.slice oq1 xc.length kq1, .slice oq2 xp.length kq2]] p.w' fun e w' => e = .returned (.bool true) ∧ Below p.w'.heap.size p.w' w' := fun p => by
    have h := likePool_any _ _ _ _ xc xp xc xp p.w' (rx.of yx p) (rq.of yq p)
    rwa [show (decide (xc = xc) && decide (xp = xp)) = true by simp] at h
  have HIP : ∀ p : BelowOf WY, Calls Try.prog 46 #[.agg #[.slice op1 cs.length kp1, .slice op2 ps.length kp2]] p.w' fun e w' => e = .returned (.bool ok) ∧ Below p.w'.heap.size p.w' w' := fun p => by have h := implPoolOk_any _ _ cs ps p.w' (rp.of yp p).c (rp.of yp p).p; rwa [hok] at h
  have HSO : ∀ p : BelowOf WY, Calls Try.prog 47 #[.agg #[.slice op1 cs.length kp1, .slice op2 ps.length kp2]] p.w' fun e w' => e = .returned (.bool ok) ∧ Below p.w'.heap.size p.w' w' := fun p => by have h := specPoolOk_any _ _ cs ps p.w' (rp.of yp p).c (rp.of yp p).p; rwa [hok] at h
  have HIS : ∀ p : BelowOf WY, Calls Try.prog 48 #[.agg #[.slice op1 cs.length kp1, .slice op2 ps.length kp2]] p.w' fun e w' => e = .returned (.int .i64 sp) ∧ Below p.w'.heap.size p.w' w' := fun p => by have h := implSpare_any _ _ cs ps p.w' (rp.of yp p).c (rp.of yp p).p; rwa [hsp] at h
  have HSS : ∀ p : BelowOf WY, Calls Try.prog 49 #[.agg #[.slice op1 cs.length kp1, .slice op2 ps.length kp2]] p.w' fun e w' => e = .returned (.int .i64 sp) ∧ Below p.w'.heap.size p.w' w' := fun p => by have h := specSpare_any _ _ cs ps p.w' (rp.of yp p).c (rp.of yp p).p; rwa [hsp] at h
  refine wp_region_of (by kernel_rfl) (by kernel_rfl) ?_
  repeat (go_big_quiet_step ((first | (go_at_call 45; exact calls_of (HLT _)) | (go_at_call 46; exact calls_of (HIP _)) | (go_at_call 47; exact calls_of (HSO _)) | (go_at_call 48; exact calls_of (HIS _)) | (go_at_call 49; exact calls_of (HSS _)) | rfl)))
  refine wpQuiet_nil ?_
  intro w6 hw6
  obtain ⟨⟨wx, cx⟩, hwx⟩ := hw6
  have b : Below WY.heap.size WY w6 := by rw [hwx]; exact cx
  clear hwx cx wx hne gP0 gP1 gX0 gX1 gY0 gY1 HLT HIP HSO HIS HSS
  replace d := bw_call d b
  replace rp := rp.below (b.mono yp)
  replace yp := Nat.le_trans yp b.size
  replace kP := (b.block _ sP).trans kP
  replace sP := Nat.lt_of_lt_of_le sP b.size
  replace rx := rx.below (b.mono yx)
  replace yx := Nat.le_trans yx b.size
  replace kX := (b.block _ sX).trans kX
  replace sX := Nat.lt_of_lt_of_le sX b.size
  replace rz := rz.below (b.mono yz)
  replace yz := Nat.le_trans yz b.size
  replace kZ := (b.block _ sZ).trans kZ
  replace sZ := Nat.lt_of_lt_of_le sZ b.size
  replace rq := rq.below (b.mono yq)
  replace yq := Nat.le_trans yq b.size
  replace kY := (b.block _ sY).trans kY
  replace sY := Nat.lt_of_lt_of_le sY b.size
  clear b
  clear hok hsp
  clear rq yq kY sY
  go_wp2_with fail
  refine (specNewPool_any n _).mono ?_
  rw [HFN.out]
  simp only
  rintro e w7 ⟨t1, t2, rfl, ot, b⟩
  replace d := bw_call d b
  replace rp := rp.below (b.mono yp)
  replace yp := Nat.le_trans yp b.size
  replace kP := (b.block _ sP).trans kP
  replace sP := Nat.lt_of_lt_of_le sP b.size
  replace rx := rx.below (b.mono yx)
  replace yx := Nat.le_trans yx b.size
  replace kX := (b.block _ sX).trans kX
  replace sX := Nat.lt_of_lt_of_le sX b.size
  replace rz := rz.below (b.mono yz)
  replace yz := Nat.le_trans yz b.size
  replace kZ := (b.block _ sZ).trans kZ
  replace sZ := Nat.lt_of_lt_of_le sZ b.size
  clear b
  have rt := ot.reads
  have yt : w7.heap.size ≤ w7.heap.size := Nat.le_refl _
  obtain ⟨ot1, kt1, ot2, kt2, rfl, rfl⟩ := ot.forms
  clear ot
  have b : Below w7.heap.size w7 (w7.alloc (.cells #[.slice ot1 zc.length kt1, .slice ot2 zp.length kt2] 55)) := bw_alloc (Below.refl _ _)
  have kT := heap_alloc_new w7 (.cells #[.slice ot1 zc.length kt1, .slice ot2 zp.length kt2] 55)
  have sT : w7.heap.size < (w7.alloc (.cells #[.slice ot1 zc.length kt1, .slice ot2 zp.length kt2] 55)).heap.size := by simp
  replace d := bw_call d b
  replace rp := rp.below (b.mono yp)
  replace yp := Nat.le_trans yp b.size
  replace kP := (b.block _ sP).trans kP
  replace sP := Nat.lt_of_lt_of_le sP b.size
  replace rx := rx.below (b.mono yx)
  replace yx := Nat.le_trans yx b.size
  replace kX := (b.block _ sX).trans kX
  replace sX := Nat.lt_of_lt_of_le sX b.size
  replace rz := rz.below (b.mono yz)
  replace yz := Nat.le_trans yz b.size
  replace kZ := (b.block _ sZ).trans kZ
  replace sZ := Nat.lt_of_lt_of_le sZ b.size
  replace rt := rt.below (b.mono yt)
  replace yt := Nat.le_trans yt b.size
  clear b
  go_upto_region 11 with fail
  generalize w7.alloc (.cells #[.slice ot1 zc.length kt1, .slice ot2 zp.length kt2] 55) = WT at *
  generalize w7.heap.size = nT at *
  have HNS : Hid (made = true → spare zc zp = n) := fun h => newPool_spare n zc zp (by rw [← h]; exact HFN.out)
  go_cut [88] (fun v wx => v = .bool false ∧ Below WT.heap.size WT wx)
  case first =>
    have pZ0 := at_cell kZ 0
    have pZ1 := at_cell kZ 1
    have pT0 := at_cell kT 0
    have pT1 := at_cell kT 1
    go_wp2_with fail
    refine (likePool_any _ _ _ _ zc zp zc zp _ (rz.mono yz) (rt.mono yt)).mono ?_
    rintro e w8 ⟨rfl, b8⟩
    rw [show (decide (zc = zc) && decide (zp = zp)) = true by simp]
    have kZ8 := (b8.block _ sZ).trans kZ
    have qZ0 := at_cell kZ8 0
    have qZ1 := at_cell kZ8 1
    cases made
    · go_wp2_with fail
      go_meet
      exact ⟨by first | rfl | trivial, b8⟩
    · go_wp2_with fail
      refine (implSpare_any _ _ zc zp _ ((rz.mono yz).below b8 |>.mono b8.size).c ((rz.mono yz).below b8 |>.mono b8.size).p).mono ?_
      rw [show spare zc zp = n from by first | exact HNS.out rfl | exact HNS.out trivial]
      rintro e w9 ⟨rfl, b9⟩
      go_wp2_with fail
      go_meet
      exact ⟨by first | rfl | trivial, bw_call b8 b9⟩
  case rest =>
    obtain ⟨rfl, b⟩ := hcut
    replace d := bw_call d b
    replace rp := rp.below (b.mono yp)
    replace yp := Nat.le_trans yp b.size
    replace kP := (b.block _ sP).trans kP
    replace sP := Nat.lt_of_lt_of_le sP b.size
    replace rx := rx.below (b.mono yx)
    replace yx := Nat.le_trans yx b.size
    replace kX := (b.block _ sX).trans kX
    replace sX := Nat.lt_of_lt_of_le sX b.size
    replace rz := rz.below (b.mono yz)
    replace yz := Nat.le_trans yz b.size
    replace kZ := (b.block _ sZ).trans kZ
    replace sZ := Nat.lt_of_lt_of_le sZ b.size
    replace rt := rt.below (b.mono yt)
    replace yt := Nat.le_trans yt b.size
    replace kT := (b.block _ sT).trans kT
    replace sT := Nat.lt_of_lt_of_le sT b.size
    clear b
    clear rt yt kT sT rz yz kZ sZ
    clear HNS
    have pP0 := at_cell kP 0
    have pP1 := at_cell kP 1
    go_wp2_with fail
    clear pP0 pP1
    refine (specPoolOk_any _ _ cs ps _ (rp.mono yp).c (rp.mono yp).p).mono ?_
    rw [HOK.out]
    rintro e w9 ⟨rfl, b⟩
    replace d := bw_call d b
    replace rp := rp.below (b.mono yp)
    replace yp := Nat.le_trans yp b.size
    replace kP := (b.block _ sP).trans kP
    replace sP := Nat.lt_of_lt_of_le sP b.size
    replace rx := rx.below (b.mono yx)
    replace yx := Nat.le_trans yx b.size
    replace kX := (b.block _ sX).trans kX
    replace sX := Nat.lt_of_lt_of_le sX b.size
    clear b
    cases ok
    · -- no pool
      have hfd := HFD.out
      rw [takenPage, if_neg (by rw [HOK.out]; simp)] at hfd
      simp only [Prod.mk.injEq] at hfd
      obtain ⟨⟨rfl, rfl⟩, rfl⟩ := hfd
      have hsp : sp = -1 := by rw [← HSP.out, spare, if_neg (by rw [HOK.out]; simp)]
      subst hsp
      have pX0 := at_cell kX 0
      have pX1 := at_cell kX 1
      go_wp2_with fail
      clear pX0 pX1
      refine (likePool_any _ _ _ _ [] [] [] [] _ (rx.mono yx) ⟨Reads.none _ _, Reads.none _ _⟩).mono ?_
      rintro e w10 ⟨rfl, b⟩
      rw [show (decide (([] : List Int) = []) && decide (([] : List Int) = [])) = true by simp]
      replace d := bw_call d b
      replace rp := rp.below (b.mono yp)
      replace yp := Nat.le_trans yp b.size
      replace kP := (b.block _ sP).trans kP
      replace sP := Nat.lt_of_lt_of_le sP b.size
      replace rx := rx.below (b.mono yx)
      replace yx := Nat.le_trans yx b.size
      replace kX := (b.block _ sX).trans kX
      replace sX := Nat.lt_of_lt_of_le sX b.size
      clear b
      have pP0 := at_cell kP 0
      have pP1 := at_cell kP 1
      go_wp2_with fail
      clear pP0 pP1
      refine (implSpare_any _ _ cs ps _ (rp.mono yp).c (rp.mono yp).p).mono ?_
      rw [HSP.out]
      rintro e w11 ⟨rfl, b⟩
      replace d := bw_call d b
      replace rp := rp.below (b.mono yp)
      replace yp := Nat.le_trans yp b.size
      replace kP := (b.block _ sP).trans kP
      replace sP := Nat.lt_of_lt_of_le sP b.size
      replace rx := rx.below (b.mono yx)
      replace yx := Nat.le_trans yx b.size
      replace kX := (b.block _ sX).trans kX
      replace sX := Nat.lt_of_lt_of_le sX b.size
      clear b
      go_wp2_with fail
      go_ret
      exact ⟨rfl, d⟩
    · by_cases hf : firstFree cs < cs.length ∧ 0 ≤ v ∧ v ≤ 999
      · -- the first that is free
        have hfd := HFD.out
        rw [taken_some cs ps v HOK.out hf] at hfd
        simp only [Prod.mk.injEq] at hfd
        obtain ⟨⟨hxc, hxp⟩, hat⟩ := hfd
        obtain ⟨hkx, hdr⟩ := taken_dropped cs ps v HOK.out hf.1 hf.2
        obtain ⟨hsx, hs1, hs2⟩ := taken_spare cs ps v HOK.out hf.1 hkx
        have hbef := firstFree_before cs
        have hgc : xc.getD (firstFree cs) 0 = 1 := by rw [← hxc, getD_set cs _ _ 1 hf.1, if_pos rfl]
        have hlp : firstFree cs < ps.length := by have := ((poolOk_iff cs ps).1 HOK.out).2.2.1; omega
        have hgp : xp.getD (firstFree cs) 0 = v := by rw [← hxp, getD_set ps _ _ v hlp, if_pos rfl]
        have hlx : firstFree cs < xc.length := by rw [← hxc]; simpa using hf.1
        have hly : firstFree cs < xp.length := by rw [← hxp]; simpa using hlp
        rw [HSP.out] at hsx hs1 hs2
        rw [hxc, hxp] at hkx hsx hdr
        have hfl := hf.1
        obtain ⟨q, hq⟩ : ∃ q, firstFree cs = q := ⟨_, rfl⟩
        rw [hq] at hat hbef hgc hgp hlx hly hfl hdr
        subst hat
        have HBEF : Hid (∀ j, j < q → cs.getD j 0 ≠ 0) := hbef
        have HDR : Hid (dropped xc xp (q : Int) = ((cs, ps), true)) := hdr
        have HKX : Hid (poolOk xc xp = true) := hkx
        have HSX : Hid (spare xc xp = sp - 1) := hsx
        obtain ⟨gp, ofp, hpo, hpg, hpc0⟩ : ∃ g off, op1 = some ⟨g, off, none⟩ ∧ True ∧ ∀ j, j < cs.length → w9.cell? ⟨g, off + j, none⟩ = some (.int .i64 (cs.getD j 0)) := by
          obtain ⟨o, kk, e, -, hc, -⟩ := rp.c
          simp only [Value.slice.injEq] at e
          obtain ⟨g, off, e2, -, -⟩ := hc q _ (getD_some cs q hfl)
          refine ⟨g, off, by rw [e.1, e2], trivial, fun j hj => ?_⟩
          obtain ⟨g', off', e3, -, hx⟩ := hc j _ (getD_some cs j hj)
          rw [e2] at e3
          cases e3
          exact hx
        subst hpo
        have HPC : Hid (∀ j, j < cs.length → w9.cell? ⟨gp, ofp + j, none⟩ = some (.int .i64 (cs.getD j 0))) := hpc0
        have hq0 : (0 : Int) ≤ (q : Int) := by omega
        clear hxc hxp hf hbef hdr hkx hsx hq hpc0 hpg hlp
        have pP0 := at_cell kP 0
        have pP1 := at_cell kP 1
        go_wp2_with fail
        go_loopw [14] (fun i wr => ∃ k : Nat, k ≤ q ∧ i = .int .i64 k ∧ wr = w9) (fun i _ => q - (intOf i).toNat)
        case atStart => exact ⟨0, Nat.zero_le _, rfl, rfl⟩
        case round =>
          obtain ⟨k, hk, rfl, rfl⟩ := hrel
          by_cases hlt : k < q
          · have cc := HPC.out k (by omega)
            have hz : (cs.getD k 0 == 0) = false := by have := HBEF.out k hlt; simpa using this
            have i1 : (k : Int) < (cs.length : Int) := by omega
            generalize cs.getD k 0 = cv at cc hz
            go_wp2_with fail
            go_roundw
            case rel => exact ⟨k + 1, by omega, by go_num, by trivial⟩
            case measure => simp [intOf]; omega
          · have pX0 := at_cell kX 0
            have pX1 := at_cell kX 1
            go_wp2_with fail
            clear pX0 pX1 pP0 pP1
            refine (implDropped_any _ _ xc xp q _ (rx.mono yx).c (rx.mono yx).p).mono ?_
            rw [HDR.out]
            simp only
            rintro e w10 ⟨f1, f2, rfl, of_, b⟩
            replace d := bw_call d b
            replace rp := rp.below (b.mono yp)
            replace yp := Nat.le_trans yp b.size
            replace kP := (b.block _ sP).trans kP
            replace sP := Nat.lt_of_lt_of_le sP b.size
            replace rx := rx.below (b.mono yx)
            replace yx := Nat.le_trans yx b.size
            replace kX := (b.block _ sX).trans kX
            replace sX := Nat.lt_of_lt_of_le sX b.size
            clear b
            have rf := of_.reads
            have yf : w10.heap.size ≤ w10.heap.size := Nat.le_refl _
            obtain ⟨of1, kf1, of2, kf2, rfl, rfl⟩ := of_.forms
            clear of_
            have b : Below w10.heap.size w10 (w10.alloc (.cells #[.slice of1 cs.length kf1, .slice of2 ps.length kf2] 55)) := bw_alloc (Below.refl _ _)
            have kF := heap_alloc_new w10 (.cells #[.slice of1 cs.length kf1, .slice of2 ps.length kf2] 55)
            have sF : w10.heap.size < (w10.alloc (.cells #[.slice of1 cs.length kf1, .slice of2 ps.length kf2] 55)).heap.size := by simp
            replace d := bw_call d b
            replace rp := rp.below (b.mono yp)
            replace yp := Nat.le_trans yp b.size
            replace kP := (b.block _ sP).trans kP
            replace sP := Nat.lt_of_lt_of_le sP b.size
            replace rx := rx.below (b.mono yx)
            replace yx := Nat.le_trans yx b.size
            replace kX := (b.block _ sX).trans kX
            replace sX := Nat.lt_of_lt_of_le sX b.size
            replace rf := rf.below (b.mono yf)
            replace yf := Nat.le_trans yf b.size
            clear b
            go_wp2_with fail
            generalize w10.alloc (.cells #[.slice of1 cs.length kf1, .slice of2 ps.length kf2] 55) = WF at *
            generalize w10.heap.size = nF at *
            -- the two cells of the page
            obtain ⟨gx, ofx, hox, hgx, cx1⟩ : ∃ g off, ox1 = some ⟨g, off, none⟩ ∧ g < WF.heap.size ∧ WF.cell? ⟨g, off + q, none⟩ = some (.int .i64 1) := by
              obtain ⟨o, kk, e, -, hc, -⟩ := (rx.mono yx).c
              simp only [Value.slice.injEq] at e
              obtain ⟨g, off, e2, hg, hx⟩ := hc q _ (getD_some xc q hlx)
              rw [hgc] at hx
              exact ⟨g, off, by rw [e.1, e2], hg, hx⟩
            obtain ⟨gy, ofy, hoy, hgy, cy1⟩ : ∃ g off, ox2 = some ⟨g, off, none⟩ ∧ g < WF.heap.size ∧ WF.cell? ⟨g, off + q, none⟩ = some (.int .i64 v) := by
              obtain ⟨o, kk, e, -, hc, -⟩ := (rx.mono yx).p
              simp only [Value.slice.injEq] at e
              obtain ⟨g, off, e2, hg, hx⟩ := hc q _ (getD_some xp q hly)
              rw [hgp] at hx
              exact ⟨g, off, by rw [e.1, e2], hg, hx⟩
            subst hox hoy
            have hne := BelowOf.any WF
            have gP0 := BelowOf.cell (at_cell kP 0) sP
            have gP1 := BelowOf.cell (at_cell kP 1) sP
            have gX0 := BelowOf.cell (at_cell kX 0) sX
            have gX1 := BelowOf.cell (at_cell kX 1) sX
            have gF0 := BelowOf.cell (at_cell kF 0) sF
            have gF1 := BelowOf.cell (at_cell kF 1) sF
            have gC := BelowOf.cell cx1 hgx
            have gY := BelowOf.cell cy1 hgy
            have i1 : (q : Int) < (xc.length : Int) := by omega
            have i2 : (q : Int) < (xp.length : Int) := by omega
            have hwr : IntKind.i64.wrap (sp - 1) = sp - 1 := by rw [IntKind.wrap_i64]; omega
            have HPO : ∀ p : BelowOf WF, Calls Try.prog 46 #[.agg #[.slice (some ⟨gx, ofx, none⟩) xc.length kx1, .slice (some ⟨gy, ofy, none⟩) xp.length kx2]] p.w' fun e w' => e = .returned (.bool true) ∧ Below p.w'.heap.size p.w' w' := fun p => by have h := implPoolOk_any _ _ xc xp p.w' (rx.of yx p).c (rx.of yx p).p; rwa [HKX.out] at h
            have HS1 : ∀ p : BelowOf WF, Calls Try.prog 48 #[.agg #[.slice (some ⟨gx, ofx, none⟩) xc.length kx1, .slice (some ⟨gy, ofy, none⟩) xp.length kx2]] p.w' fun e w' => e = .returned (.int .i64 (sp - 1)) ∧ Below p.w'.heap.size p.w' w' := fun p => by have h := implSpare_any _ _ xc xp p.w' (rx.of yx p).c (rx.of yx p).p; rwa [HSX.out] at h
            have HS2 : ∀ p : BelowOf WF, Calls Try.prog 48 #[.agg #[.slice (some ⟨gp, ofp, none⟩) cs.length kp1, .slice op2 ps.length kp2]] p.w' fun e w' => e = .returned (.int .i64 sp) ∧ Below p.w'.heap.size p.w' w' := fun p => by have h := implSpare_any _ _ cs ps p.w' (rp.of yp p).c (rp.of yp p).p; rwa [HSP.out] at h
            have HLK : ∀ p : BelowOf WF, Calls Try.prog 45 #[.agg #[.slice of1 cs.length kf1, .slice of2 ps.length kf2], .agg #[.slice (some ⟨gp, ofp, none⟩) cs.length kp1, .slice op2 ps.length kp2]] p.w' fun e w' => e = .returned (.bool true) ∧ Below p.w'.heap.size p.w' w' := fun p => by
              have h := likePool_any _ _ _ _ cs ps cs ps p.w' (rf.of yf p) (rp.of yp p)
              rwa [show (decide (cs = cs) && decide (ps = ps)) = true by simp] at h
            refine wp_region_of (by kernel_rfl) (by kernel_rfl) ?_
            repeat (go_big_quiet_step ((first | (go_at_call 45; exact calls_of (HLK _)) | (go_at_call 46; exact calls_of (HPO _)) | (go_at_call 48; first | (with_reducible exact calls_of (HS1 _)) | (with_reducible exact calls_of (HS2 _))) | rfl)))
            refine wpQuiet_nil ?_
            intro w12 hw12
            obtain ⟨⟨wx, cx⟩, hwx⟩ := hw12
            have b : Below WF.heap.size WF w12 := by rw [hwx]; exact cx
            clear hwx cx wx hne gP0 gP1 gX0 gX1 gF0 gF1 gC gY HPO HS1 HS2 HLK
            replace d := bw_call d b
            go_wp2_with fail
            go_ret
            exact ⟨rfl, d⟩
      · -- nothing is taken
        have hfd := HFD.out
        rw [taken_none cs ps v HOK.out hf] at hfd
        simp only [Prod.mk.injEq] at hfd
        obtain ⟨⟨rfl, rfl⟩, rfl⟩ := hfd
        have hz : sp = 0 ∨ v < 0 ∨ 999 < v := by
          by_cases h1 : firstFree cs < cs.length
          · by_cases h2 : v < 0
            · exact .inr (.inl h2)
            · exact .inr (.inr (by omega))
          · left
            rw [← HSP.out, spare, if_pos HOK.out, zeros_none cs h1]
            rfl
        clear hf
        have pX0 := at_cell kX 0
        have pX1 := at_cell kX 1
        have pP0 := at_cell kP 0
        have pP1 := at_cell kP 1
        go_wp2_with fail
        clear pX0 pX1 pP0 pP1
        refine (likePool_any _ _ _ _ cs ps cs ps _ (rx.mono yx) (rp.mono yp)).mono ?_
        rintro e w10 ⟨rfl, b⟩
        rw [show (decide (cs = cs) && decide (ps = ps)) = true by simp]
        replace d := bw_call d b
        replace rp := rp.below (b.mono yp)
        replace yp := Nat.le_trans yp b.size
        replace kP := (b.block _ sP).trans kP
        replace sP := Nat.lt_of_lt_of_le sP b.size
        replace rx := rx.below (b.mono yx)
        replace yx := Nat.le_trans yx b.size
        replace kX := (b.block _ sX).trans kX
        replace sX := Nat.lt_of_lt_of_le sX b.size
        clear b
        have pP0 := at_cell kP 0
        have pP1 := at_cell kP 1
        go_wp2_with fail
        clear pP0 pP1
        refine (implSpare_any _ _ cs ps _ (rp.mono yp).c (rp.mono yp).p).mono ?_
        rw [HSP.out]
        rintro e w11 ⟨rfl, b⟩
        replace d := bw_call d b
        replace rp := rp.below (b.mono yp)
        replace yp := Nat.le_trans yp b.size
        replace kP := (b.block _ sP).trans kP
        replace sP := Nat.lt_of_lt_of_le sP b.size
        replace rx := rx.below (b.mono yx)
        replace yx := Nat.le_trans yx b.size
        replace kX := (b.block _ sX).trans kX
        replace sX := Nat.lt_of_lt_of_le sX b.size
        clear b
        by_cases h0 : sp = 0
        · subst h0
          go_wp2_with fail
          go_ret
          exact ⟨rfl, d⟩
        · have h00 : (sp == 0) = false := by simpa using h0
          by_cases h1 : v < 0
          · go_wp2_with fail
            go_ret
            exact ⟨rfl, d⟩
          · have h2 : 999 < v := by omega
            go_wp2_with fail
            go_ret
            exact ⟨rfl, d⟩

set_option maxRecDepth 100000 in
theorem lifted (os : Os) (started : os.Started) (H : Type) (enc : TypeId × Value → H) :
    ReturnsInHanded {} Try.checked os 7 .any (Rows.fnPoolSpec.pre6 enc Try.prog Try.f7 Rows.fnPoolRow.domain false) (Rows.fnPoolSpec.post enc Try.prog Try.f7 false true false false) := by
  refine returnsInHanded_of_change (C := Try.checked) own started (by kernel_rfl) Try.func7
    (ChangeSpec.witness6 (enc := enc) (C := Try.checked) false ⟨#[], #[.slice none 0 0], []⟩ 8 (by kernel_rfl) (by kernel_rfl) (by kernel_rfl) (by kernel_rfl)) ?_
  intro W base args ds gs before hval0 hW hcnd _
  have hval : ∀ (j : Nat) t v, Try.f7.params[j]? = some t → args[j]? = some v → Value.okWide Try.prog W .any base t v := hval0
  have hW' := hW
  obtain ⟨p, q, hA0, hV, rfl, hfz, hnd⟩ := hW
  have hA : DataW.TrodAll enc Try.prog W 0 (fun _ => true) true Try.f7.params.toList args.toList ds p := hA0
  rw [Try.params7] at hA hval
  obtain ⟨v0, vs0, d0, ds0, p0, q0, hargs, rfl, rfl, h0, r0⟩ := trodAll_cons hA
  obtain ⟨rfl, rfl, rfl⟩ := trodAll_nil r0
  obtain rfl : args = #[v0] := by cases args; simp_all
  obtain ⟨rfl, rfl⟩ := trodVars_none hV
  obtain ⟨a0, len0, cap0, rfl⟩ := okWide_slice Try.underlying22 (hval 0 22 v0 rfl rfl)
  have k0 := h0
  have lt0 : ∀ x ∈ p0, x.block < W.heap.size := by obtain ⟨m, hm⟩ := k0; exact DataW.trod_lt m _ _ _ hm
  obtain ⟨z0, w0⟩ : ∃ zs, IsRow .u8 W a0 len0 cap0 zs := by
    obtain ⟨fuel, hf⟩ := h0
    rcases open_ints Try.underlying22 Try.underlying5 (by kernel_rfl) hf with ⟨hcs, _⟩ | ⟨x, l, c, zs, hcs, _, hl, hm, hz, _, hcell, hwz⟩
    · simp [Value.cells] at hcs
      obtain ⟨rfl, rfl, rfl⟩ := hcs
      exact ⟨[], .inl ⟨rfl, rfl, rfl, rfl⟩⟩
    · simp [Value.cells] at hcs
      obtain ⟨rfl, rfl, rfl⟩ := hcs
      exact ⟨zs, .inr ⟨_, rfl, hl, hm, by simpa using hz, hcell, hwz⟩⟩
  clear hA0 hval0
  refine (walk a0 len0 cap0 z0 W w0).mono fun e W' ⟨he, bel⟩ => ?_
  subst he
  exact ⟨_, rfl, _, _, _, [], _, [], hW', trodAll_mk1 (shut_bool Try.underlying4 _), (trodAll_cons_mk (Below.trod laidOut (by kernel_rfl) (of_decide_eq_true (by kernel_rfl)) k0 bel lt0) trodAll_mk0), rfl, bel.frame _, fun h => by cases h⟩

theorem over : Rows.fnPoolRow.holds Try.pinned (OpenSpec.ofChange Rows.fnPoolSpec) :=
  OpenClaim.holds_of_wide 7 Try.f7 rfl rfl rfl rfl rfl rfl rfl ⟨rfl, rfl, rfl, rfl, rfl⟩ rfl rfl rfl rfl rfl (by kernel_rfl) Try.func7 (by kernel_rfl)
    (of_decide_eq_true (by kernel_rfl)) (by unfold Func.isWrapper; first | (rw [if_pos (by decide +kernel)]; kernel_rfl) | (rw [if_neg (by decide +kernel)]; exact ⟨rfl, rfl⟩))
    (fun os started H enc _ => lifted os started H enc)

theorem proved : Rows.FnPoolSaid := over
#print axioms proved
end Go.Proofs.Ytmejggnjmclefaa.fnPool
