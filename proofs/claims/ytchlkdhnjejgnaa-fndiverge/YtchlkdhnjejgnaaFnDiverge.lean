/-
  The law FnDiverge answers true at every input that the row speaks of, and its arguments read afterwards as before; the walk goes over the callees' contracts.
-/
import Derived.Test.YtchlkdhnjejgnaaRows
import Derived.WalkKit
import Derived.Deep.RegionWith
import Derived.ProofKit
import Derived.OpenShut
import Derived.ShutString
import Derived.ChangeOld
import Derived.Below
import Derived.Test.YtchlkdhnjejgnaaM13
import Derived.Test.YtchlkdhnjejgnaaM33
namespace Go.Proofs.Ytchlkdhnjejgnaa.fnDiverge
open Go.ChangeShapes Go.WideShapes Go.ChangeAt Go.RowKit
open Go.ChangeMaps (open_string shut_string)
set_option linter.unusedVariables false

theorem own : ownKnob Try.prog.godebug = none := by kernel_rfl
theorem laidOut : laidOutB Try.prog = true := by kernel_rfl

def IsRow (k : IntKind) (w : World) (a : Option Addr) (len cap : Nat) (zs : List Int) : Prop :=
  (a = none ∧ len = 0 ∧ cap = 0 ∧ zs = []) ∨
  ∃ x, a = some x ∧ len ≤ cap ∧ cap ≤ maxLen ∧ zs.length = cap ∧ (∀ i, i < zs.length → w.cell? (x.add i) = some (.int k (zs.getD i 0))) ∧ ∀ n ∈ zs, (Lit.int k n).wf = true

set_option maxRecDepth 100000 in
set_option maxHeartbeats 8000000 in
theorem walk (a0 : Option Addr) (len0 cap0 : Nat) (z0 : List Int) (w : World) (w0 : IsRow .u8 w a0 len0 cap0 z0) :
    Calls Try.prog 3 #[.slice a0 len0 cap0] w fun e w' => e = .returned (.bool true) ∧ Below w.heap.size w w' := by
  have hs : Src w w.heap.size a0 len0 := src_of w0
  have hm := hs.1
  by_cases hbig : (4096 : Int) < (len0 : Int)
  · have hd : decide ((4096 : Int) < (len0 : Int)) = true := by simpa using hbig
    go_enter Try.func3, Try.ntmps3
    go_wp2_with (go_at_call 9; refine (big_any _ _ _ _ hm).mono ?_; rintro e w' ⟨rfl, rfl⟩)
    go_ret
    exact ⟨rfl, Below.refl _ _⟩
  have hd : decide ((4096 : Int) < (len0 : Int)) = false := by simpa using hbig
  have hl4 : len0 ≤ 4096 := by omega
  clear w0 hbig
  go_enter Try.func3, Try.ntmps3
  go_wp2_with fail
  refine (big_any _ _ _ _ hm).mono ?_
  rintro e w' ⟨rfl, rfl⟩
  go_wp2_with fail
  refine (drawDid_any _ _ _ _ hs).mono ?_
  rintro e w1 ⟨v1, v2, vb, cs, ps, bks, oq, rfl, F, fit⟩
  have d := F.d
  replace hs := hs.below d
  have y0 := d.size
  have y0x := d.size
  obtain ⟨o1, c1, o2, c2, ob, kb, rfl, rfl, rfl⟩ := F.r.forms
  have rS := F.r
  have yS : w1.heap.size ≤ w1.heap.size := Nat.le_refl _
  have HN : Hid (∀ b ∈ bks, b.nm.size ≤ maxLen) := fun b hb => (F.bf b hb).nl
  have HF : Hid (∀ b ∈ bks, FitRuns b.rs) := fun b hb => (F.bf b hb).fit
  have hfew := F.few
  clear F
  have HO : Hid (oq.nm.size ≤ maxLen ∧ oq.ot.size ≤ maxLen) := by
    have h5 := fit.nm
    have h6 := fit.ot
    refine ⟨?_, ?_⟩ <;> (unfold maxLen; omega)
  obtain ⟨k, nm, ot, at_, va, ep⟩ := oq
  simp only at HO ⊢
  clear fit
  obtain ⟨WA, hWA, kS, kO, b, zWA⟩ := box2 w1 #[.slice o1 cs.length c1, .slice o2 ps.length c2, .slice ob bks.length kb] #[.int .i64 k, .string nm, .string ot, .int .i64 at_, .int .i64 va, .int .i64 ep] 29 31
  have sS : w1.heap.size < WA.heap.size := by omega
  have sO : w1.heap.size + 1 < WA.heap.size := by omega
  have HWA : Hid (WA = _) := hWA
  clear hWA zWA
  replace d := bw_call d b
  replace hs := hs.below (b.mono y0)
  replace y0 := Nat.le_trans y0 b.size
  replace rS := rS.below (b.mono yS)
  replace yS := Nat.le_trans yS b.size
  clear b
  go_upto_region 4 with fail
  rw [← HWA.out]
  clear HWA
  have hnS : w'.heap.size ≤ w1.heap.size := y0x
  generalize w1.heap.size = nS at *
  obtain ⟨okv, hok⟩ : ∃ x, shelfOk ⟨cs, ps, bks.map Bk.pb⟩ = x := ⟨_, rfl⟩
  have HOK : Hid (shelfOk ⟨cs, ps, bks.map Bk.pb⟩ = okv) := hok
  clear hok
  have pS0 := at_cell kS 0
  have pS1 := at_cell kS 1
  have pS2 := at_cell kS 2
  go_wp2_with fail
  clear pS0 pS1 pS2
  refine (specShelfOk_any _ _ _ cs ps bks _ HN.out (rS.mono yS).p.c (rS.mono yS).p.p (rS.mono yS).b).mono ?_
  rw [HOK.out]
  rintro e w2 ⟨rfl, b⟩
  replace d := bw_call d b
  replace hs := hs.below (b.mono y0)
  replace y0 := Nat.le_trans y0 b.size
  replace rS := rS.below (b.mono yS)
  replace yS := Nat.le_trans yS b.size
  replace kS := (b.block _ sS).trans kS
  replace sS := Nat.lt_of_lt_of_le sS b.size
  replace kO := (b.block _ sO).trans kO
  replace sO := Nat.lt_of_lt_of_le sO b.size
  clear b
  by_cases hbad : okv = false ∨ bks = []
  · have HBAD : Hid (shelfOk ⟨cs, ps, bks.map Bk.pb⟩ = false ∨ bks = []) := by rw [Hid, HOK.out]; exact hbad
    have pS0 := at_cell kS 0
    have pS1 := at_cell kS 1
    have pS2 := at_cell kS 2
    cases okv
    · clear hbad
      go_wp2_with fail
      refine (implShownNone_any _ _ _ cs ps bks _ HN.out HF.out (rS.mono yS) HBAD.out).mono ?_
      rintro e w3 ⟨oz, cz, rfl, b3⟩
      go_wp2_with fail
      go_ret
      exact ⟨rfl, bw_call d b3⟩
    · obtain rfl : bks = [] := hbad.resolve_left (by simp)
      clear hbad
      have hz : ((([] : List Bk).length : Int)) = 0 := rfl
      go_wp2_with fail
      refine (implShownNone_any _ _ _ cs ps [] _ HN.out HF.out (rS.mono yS) (.inr rfl)).mono ?_
      rintro e w3 ⟨oz, cz, rfl, b3⟩
      go_wp2_with fail
      go_ret
      exact ⟨rfl, bw_call d b3⟩
  obtain rfl : okv = true := by cases okv <;> simp_all
  have hpos : 0 < bks.length := by
    rcases Nat.eq_zero_or_pos bks.length with h | h
    · exact absurd (.inr (List.length_eq_zero_iff.1 h)) hbad
    · exact h
  have hpi : (0 : Int) < (bks.length : Int) := by omega
  have hpz : ¬ (bks.length : Int) = 0 := by omega
  clear hbad
  have pS2 := at_cell kS 2
  go_upto_region 6 with fail
  clear pS2
  go_cut [5] (fun v wx => ∃ (i : Nat) (hi : i < bks.length), v = .string bks[i].nm ∧ Below w2.heap.size w2 wx)
  case first =>
    have pD : w2.drew.cell? ⟨nS, 2, none⟩ = some (.slice ob bks.length kb) := at_cell kS 2
    have HRB : Hid _ := (rS.mono yS).b.row
    have hsd : Src w2.drew w2.drew.heap.size a0 len0 := (hs.mono y0).below (bw_drew (Below.refl _ _))
    go_region_law (first
      | (go_simp; go_at_call 13; refine (pickC_any a0 len0 _ 1 (bks.length : Int) _ hsd hl4 (by omega) (by omega) hpi (by omega)).mono ?_; rintro e w3 ⟨y, rfl, hy, hw3⟩; subst hw3; obtain ⟨I, rfl⟩ := Int.eq_ofNat_of_zero_le hy.1; have hI : I < bks.length := (by omega); obtain ⟨o', cap', hv, -, hc, -⟩ := HRB.out; simp only [Value.slice.injEq] at hv; obtain ⟨rfl, -, rfl⟩ := hv; obtain ⟨g, off, eo, hg, a0', -⟩ := five_cells hc I hI; have i0 : (0 : Int) ≤ (I : Int) := (by omega); have i1 : (I : Int) < (bks.length : Int) := (by omega); have aD : w2.drew.cell? ⟨g, off + I * 5, none⟩ = some (.string bks[I].nm) := a0'; subst eo))
    all_goals
      go_wp2_with fail
      go_meet
      exact ⟨I, hI, rfl, bw_drew (Below.refl _ _)⟩
  case rest =>
    obtain ⟨I, hI, rfl, b⟩ := hcut
    replace d := bw_call d b
    replace hs := hs.below (b.mono y0)
    replace y0 := Nat.le_trans y0 b.size
    replace rS := rS.below (b.mono yS)
    replace yS := Nat.le_trans yS b.size
    replace kS := (b.block _ sS).trans kS
    replace sS := Nat.lt_of_lt_of_le sS b.size
    replace kO := (b.block _ sO).trans kO
    replace sO := Nat.lt_of_lt_of_le sO b.size
    clear b
    have hnI := HN.out bks[I] (List.getElem_mem hI)
    have HCL : Hid (∀ nI, bks[I].nm = nI → (didOp ⟨cs, ps, bks.map Bk.pb⟩ ⟨5, nI, ⟨#[122, 122]⟩, 0, 0, 0⟩).2.1 = 0 → nI ≠ ⟨#[122, 122]⟩ ∧ (∃ (a : Nat) (ha : a < (didOp ⟨cs, ps, bks.map Bk.pb⟩ ⟨5, nI, ⟨#[122, 122]⟩, 0, 0, 0⟩).1.bs.length), ((didOp ⟨cs, ps, bks.map Bk.pb⟩ ⟨5, nI, ⟨#[122, 122]⟩, 0, 0, 0⟩).1.bs[a]'ha).nm = nI) ∧ ∃ (b : Nat) (hb : b < (didOp ⟨cs, ps, bks.map Bk.pb⟩ ⟨5, nI, ⟨#[122, 122]⟩, 0, 0, 0⟩).1.bs.length), ((didOp ⟨cs, ps, bks.map Bk.pb⟩ ⟨5, nI, ⟨#[122, 122]⟩, 0, 0, 0⟩).1.bs[b]'hb).nm = ⟨#[122, 122]⟩) := fun nI e h => by
      have e2 : ((⟨cs, ps, bks.map Bk.pb⟩ : Sf).bs[I]'(by simpa using hI)).nm = nI := by simpa [Bk.pb] using e
      subst e2
      exact clone_two HOK.out I (by simpa using hI) ⟨#[122, 122]⟩ h
    obtain ⟨nI, hnIe⟩ : ∃ x, bks[I].nm = x := ⟨_, rfl⟩
    have HC2 : Hid _ := HCL.out nI hnIe
    rw [hnIe] at hnI ⊢
    clear hnIe HCL
    obtain ⟨⟨⟨dcs, dps, dbs⟩, rc, rv⟩, hD⟩ : ∃ x, didOp ⟨cs, ps, bks.map Bk.pb⟩ ⟨5, nI, ⟨#[122, 122]⟩, 0, 0, 0⟩ = x := ⟨_, rfl⟩
    have HD : Hid (didOp ⟨cs, ps, bks.map Bk.pb⟩ ⟨5, nI, ⟨#[122, 122]⟩, 0, 0, 0⟩ = (⟨dcs, dps, dbs⟩, (rc, rv))) := hD
    have HXOK : Hid (shelfOk ⟨dcs, dps, dbs⟩ = true) := by have h := did_ok (o := ⟨5, nI, ⟨#[122, 122]⟩, 0, 0, 0⟩) HOK.out; rwa [hD] at h
    have HC3 : Hid (rc = 0 → nI ≠ ⟨#[122, 122]⟩ ∧ (∃ (a : Nat) (ha : a < dbs.length), (dbs[a]'ha).nm = nI) ∧ ∃ (b : Nat) (hb : b < dbs.length), (dbs[b]'hb).nm = ⟨#[122, 122]⟩) := fun h => by
      have q := HC2.out
      rw [hD] at q
      exact q h
    have hzz : (⟨#[122, 122]⟩ : ByteArray).size ≤ maxLen := by unfold maxLen; show 2 ≤ _; omega
    have hOb : nS + 1 < wc.heap.size := sO
    clear hD HC2
    have pS0 := at_cell kS 0
    have pS1 := at_cell kS 1
    have pS2 := at_cell kS 2
    go_wp2_with fail
    clear pS0 pS1 pS2
    refine (specDidO_any _ _ _ cs ps bks 5 nI ⟨#[122, 122]⟩ 0 0 0 _ HN.out hnI hzz (rS.mono yS).p.c (rS.mono yS).p.p (rS.mono yS).b).mono ?_
    rw [HD.out]
    simp only
    rintro e w4 ⟨u1, u2, ub, rfl, oX, b⟩
    have s4 := b.size
    replace d := bw_call d b
    replace hs := hs.below (b.mono y0)
    replace y0 := Nat.le_trans y0 b.size
    replace rS := rS.below (b.mono yS)
    replace yS := Nat.le_trans yS b.size
    replace kS := (b.block _ sS).trans kS
    replace sS := Nat.lt_of_lt_of_le sS b.size
    replace kO := (b.block _ sO).trans kO
    replace sO := Nat.lt_of_lt_of_le sO b.size
    clear b
    clear rS yS
    clear kS sS
    obtain ⟨xs, oXb, hmX⟩ := oX.b
    have HXB : Hid (∀ y ∈ xs, BkFit y) := did_fits (by rw [HD.out]; exact hmX)
    have oXp := oX.p
    simp only at hmX oXp
    clear oX
    subst hmX
    obtain ⟨x1, e1, x2, e2, rfl, rfl⟩ := oXp.forms
    obtain ⟨xb, eb, rfl⟩ := own_slice oXb.row
    have oW : OwnW wc.heap.size w4 _ _ _ dcs dps xs := ⟨oXp, oXb⟩
    clear oXp oXb
    obtain ⟨WB, hWB, kX, kR, b, zWB⟩ := box2 w4 #[.slice x1 dcs.length e1, .slice x2 dps.length e2, .slice xb xs.length eb] #[.int .i64 rc, .int .i64 rv] 29 42
    have sX : w4.heap.size < WB.heap.size := by omega
    have sR : w4.heap.size + 1 < WB.heap.size := by omega
    have HWB : Hid (WB = _) := hWB
    clear hWB zWB
    replace d := bw_call d b
    replace hs := hs.below (b.mono y0)
    replace y0 := Nat.le_trans y0 b.size
    replace kO := (b.block _ sO).trans kO
    replace sO := Nat.lt_of_lt_of_le sO b.size
    replace oW := oW.below b
    clear b
    go_upto_region 8 with fail
    rw [← HWB.out]
    clear HWB
    have hOX : nS + 1 < w4.heap.size := Nat.lt_of_lt_of_le hOb s4
    generalize w4.heap.size = nX at *
    have pR0 := at_cell kR 0
    by_cases hrc : rc = 0
    · have HC4 : Hid _ := HC3.out hrc
      subst hrc
      clear HC3
      have q1 := at_cell kO 1
      have f1 := at_open kO 1
      have kO2 : (WB.setCell ⟨nS + 1, 1, none⟩ (.string nI)).heap[nS + 1]? = some (.cells #[.int .i64 k, .string nI, .string ot, .int .i64 at_, .int .i64 va, .int .i64 ep] 31 (0, 0)) := set_at kO 1 (.string nI)
      have u : Upto (nS + 1) WB (WB.setCell ⟨nS + 1, 1, none⟩ (.string nI)) := (Upto.refl _ _).setCell ⟨nS + 1, 1, none⟩ (.inl rfl) _
      go_upto_region 12 with fail
      generalize WB.setCell ⟨nS + 1, 1, none⟩ (.string nI) = W2 at u kO2 ⊢
      clear q1 f1 pR0 kR
      clear kO sO sR
      replace d := d.trans (u.toBelow (by omega) (by omega))
      replace hs := hs.below (u.toBelow y0 (by omega))
      replace y0 := Nat.le_trans y0 u.size
      replace oW := oW.upto u (by omega)
      replace kX := (u.block _ sX (by omega)).trans kX
      replace sX := Nat.lt_of_lt_of_le sX u.size
      clear u
      go_wp2_with fail
      refine (pickC_any a0 len0 _ 2 2 _ (hs.mono y0) hl4 (by omega) (by omega) (by omega) (by omega)).mono ?_
      rintro e w5 ⟨y, rfl, hy, hw5⟩
      subst hw5
      go_upto_if 59 with fail
      go_cut [8] (fun v wx => ∃ on oth : ByteArray, v = .string oth ∧ on.size ≤ maxLen ∧ on ≠ oth ∧ (∃ (j : Nat) (hj : j < (xs.map Bk.pb).length), ((xs.map Bk.pb)[j]'hj).nm = oth) ∧ wx.heap[nS + 1]? = some (.cells #[.int .i64 k, .string on, .string ot, .int .i64 at_, .int .i64 va, .int .i64 ep] 31 (0, 0)) ∧ Upto (nS + 1) w5 wx)
      case first =>
        by_cases hy0 : y = 0
        · subst hy0
          have q1 := at_cell kO2 1
          have f1 := at_open kO2 1
          have HK : Hid ((w5.setCell ⟨nS + 1, 1, none⟩ (.string ⟨#[122, 122]⟩)).heap[nS + 1]? = some (.cells #[.int .i64 k, .string ⟨#[122, 122]⟩, .string ot, .int .i64 at_, .int .i64 va, .int .i64 ep] 31 (0, 0))) := set_at kO2 1 (.string ⟨#[122, 122]⟩)
          have HU : Hid (Upto (nS + 1) w5 (w5.setCell ⟨nS + 1, 1, none⟩ (.string ⟨#[122, 122]⟩))) := (Upto.refl _ _).setCell ⟨nS + 1, 1, none⟩ (.inl rfl) _
          clear kO2
          go_wp2_with fail
          go_meet
          exact ⟨_, nI, rfl, hzz, fun e => HC4.out.1 e.symm, HC4.out.2.1, HK.out, HU.out⟩
        · have hy1 : (y == 0) = false := by simpa using hy0
          have HK : Hid _ := kO2
          clear kO2
          go_wp2_with fail
          go_meet
          exact ⟨nI, _, rfl, hnI, HC4.out.1, HC4.out.2.2, HK.out, Upto.refl _ _⟩
      case rest =>
        obtain ⟨on, oth, rfl, hon, hno, hoj, kP, u⟩ := hcut
        clear kO2
        replace d := d.trans (u.toBelow (by omega) (by omega))
        replace hs := hs.below (u.toBelow y0 (by omega))
        replace y0 := Nat.le_trans y0 u.size
        replace oW := oW.upto u (by omega)
        replace kX := (u.block _ sX (by omega)).trans kX
        replace sX := Nat.lt_of_lt_of_le sX u.size
        clear u
        have HNO : Hid _ := And.intro hno hoj
        clear hno hoj HC4
        have hot : ot.size ≤ maxLen := HO.out.2
        have HXN : Hid (∀ b ∈ xs, b.nm.size ≤ maxLen) := fun b hb => (HXB.out b hb).nl
        have HXF : Hid (∀ b ∈ xs, FitRuns b.rs) := fun b hb => (HXB.out b hb).fit
        have sP := heap_lt kP
        obtain ⟨⟨⟨ecs, eps, ebs⟩, rc2, rv2⟩, hD2⟩ : ∃ x, didOp ⟨dcs, dps, xs.map Bk.pb⟩ ⟨k, on, ot, at_, va, ep⟩ = x := ⟨_, rfl⟩
        have HD2 : Hid (didOp ⟨dcs, dps, xs.map Bk.pb⟩ ⟨k, on, ot, at_, va, ep⟩ = (⟨ecs, eps, ebs⟩, (rc2, rv2))) := hD2
        clear hD2 HD HOK hs
        have rX := oW.reads
        have pX0 := at_cell kX 0
        have pX1 := at_cell kX 1
        have pX2 := at_cell kX 2
        have pP0 := at_cell kP 0
        have pP1 := at_cell kP 1
        have pP2 := at_cell kP 2
        have pP3 := at_cell kP 3
        have pP4 := at_cell kP 4
        have pP5 := at_cell kP 5
        go_upto_region 15 with fail
        go_wp2_with fail
        clear pX0 pX1 pX2 pP0 pP1 pP2 pP3 pP4 pP5
        refine (specDidO_any _ _ _ dcs dps xs k on ot at_ va ep _ HXN.out hon hot rX.p.c rX.p.p rX.b).mono ?_
        rw [HD2.out]
        simp only
        rintro e w6 ⟨t1, t2, tb, rfl, oY, b⟩
        clear rX
        replace d := bw_call d b
        replace oW := oW.below b
        replace kX := (b.block _ sX).trans kX
        replace sX := Nat.lt_of_lt_of_le sX b.size
        replace kP := (b.block _ sP).trans kP
        replace sP := Nat.lt_of_lt_of_le sP b.size
        clear b
        clear kP sP
        obtain ⟨ys, oYb, hmY⟩ := oY.b
        have HYB : Hid (∀ y ∈ ys, BkFit y) := did_fits (by rw [HD2.out]; exact hmY)
        have oYp := oY.p
        simp only at hmY oYp
        clear oY
        subst hmY
        obtain ⟨y1, g1, y2, g2, rfl, rfl⟩ := oYp.forms
        obtain ⟨yb, gb, rfl⟩ := own_slice oYb.row
        have oV : OwnW _ w6 _ _ _ ecs eps ys := ⟨oYp, oYb⟩
        clear oYp oYb
        obtain ⟨WD, hWD, kY, kT, b, zWD⟩ := box2 w6 #[.slice y1 ecs.length g1, .slice y2 eps.length g2, .slice yb ys.length gb] #[.int .i64 rc2, .int .i64 rv2] 29 42
        have sY : w6.heap.size < WD.heap.size := by omega
        have HWD : Hid (WD = _) := hWD
        clear hWD zWD kT
        replace d := bw_call d b
        replace oW := oW.below b
        replace kX := (b.block _ sX).trans kX
        replace sX := Nat.lt_of_lt_of_le sX b.size
        replace oV := oV.below b
        clear b
        go_upto_region 16 with fail
        rw [← HWD.out]
        clear HWD
        generalize w6.heap.size = nY at *
        have pX0 := at_cell kX 0
        have pX1 := at_cell kX 1
        have pX2 := at_cell kX 2
        go_wp2_with fail
        clear pX0 pX1 pX2
        refine (implShownPlainW_any _ _ _ _ dcs dps xs _ HXN.out HXF.out oW).mono ?_
        rintro e w7 ⟨ga, ca, ms, rfl, hmA, oA, -, b⟩
        replace d := bw_call d b
        replace oW := oW.below b
        replace kX := (b.block _ sX).trans kX
        replace sX := Nat.lt_of_lt_of_le sX b.size
        replace oV := oV.below b
        replace kY := (b.block _ sY).trans kY
        replace sY := Nat.lt_of_lt_of_le sY b.size
        clear b
        clear kX sX
        clear oW
        have HYN : Hid (∀ b ∈ ys, b.nm.size ≤ maxLen) := fun b hb => (HYB.out b hb).nl
        have HYF : Hid (∀ b ∈ ys, FitRuns b.rs) := fun b hb => (HYB.out b hb).fit
        have pY0 := at_cell kY 0
        have pY1 := at_cell kY 1
        have pY2 := at_cell kY 2
        go_wp2_with fail
        clear pY0 pY1 pY2
        refine (implShownPlainW_any _ _ _ _ ecs eps ys _ HYN.out HYF.out oV).mono ?_
        rintro e w8 ⟨gb', cb', ms', rfl, hmB, oB, -, b⟩
        replace d := bw_call d b
        replace oV := oV.below b
        replace kY := (b.block _ sY).trans kY
        replace sY := Nat.lt_of_lt_of_le sY b.size
        replace oA := oA.below b
        clear b
        clear kY sY
        clear oV
        have HDV : Hid _ := dv_find HXOK.out ⟨k, on, ot, at_, va, ep⟩ oth HNO.out.1 HNO.out.2 ms ms' hmA (by rw [HD2.out]; exact hmB)
        have rA := oA.reads
        have rB := oB.reads
        have HRA : Hid _ := rA.maps
        have HRB : Hid _ := rB.maps
        obtain ⟨oa', ka', hva, hma, hca, -⟩ := rA.row
        simp only [Value.slice.injEq] at hva
        obtain ⟨rfl, -, rfl⟩ := hva
        obtain ⟨ob', kb', hvb, hmb, hcb, -⟩ := rB.row
        simp only [Value.slice.injEq] at hvb
        obtain ⟨rfl, -, rfl⟩ := hvb
        have HCA : Hid _ := five_cellsK hca
        have HCB : Hid _ := five_cellsK hcb
        unfold maxLen at hma hmb
        clear hca hcb hmA hmB oA oB rA rB HXOK HNO HD2 HXN HXF HYN HYF HXB HYB HN HF HO
        go_wp2_with fail
        go_loopw [13] (fun i wr => ∃ j : Nat, j ≤ ms.length ∧ i = .int .i64 j ∧ (∀ q (hq : q < ms.length), q < j → (ms[q]'hq).nm ≠ oth) ∧ wr = w8) (fun i _ => ms.length - (intOf i).toNat)
        case atStart => exact ⟨0, Nat.zero_le _, rfl, fun q _ h => by omega, rfl⟩
        case round =>
          obtain ⟨j, hj, rfl, hall, hwr⟩ := hrel
          subst hwr
          have HAL : Hid _ := hall
          clear hall
          by_cases hlt : j < ms.length
          · obtain ⟨g, off, eg, hg, a0', a1, a2, -⟩ := HCA.out j hlt
            cases eg
            simp only [Nat.zero_add] at a0' a1 a2
            by_cases hnm : (ms[j]'hlt).nm = oth
            · obtain ⟨x, hx⟩ : ∃ x, ms[j]'hlt = x := ⟨_, rfl⟩
              have HXJ : Hid (∀ (q : Nat) (hq : q < ms'.length), (ms'[q]'hq).nm = oth → x.sz = (ms'[q]'hq).sz ∧ x.rs = (ms'[q]'hq).rs) := fun q hq e => by rw [← hx]; exact HDV.out.2.2 j hlt q hq hnm e
              have HMA : Hid (ReadsR 1 intC wr.heap.size wr x.m x.rs) := by rw [Hid, ← hx]; exact HRA.out _ (List.getElem_mem hlt)
              rw [hx] at a0' a1 a2 hnm
              clear hx
              obtain ⟨xn, xz, xm, xr, xf, xe⟩ := x
              simp only at a0' a1 a2 hnm
              subst hnm
              have hself0 : (xn.toList == xn.toList) = true := by simp
              go_wp2_with fail
              rename World => wo
              go_loopw [14] (fun i wi => ∃ q : Nat, q ≤ ms'.length ∧ i = .int .i64 q ∧ (∀ z (hz : z < ms'.length), z < q → (ms'[z]'hz).nm ≠ xn) ∧ wi = wo) (fun i _ => ms'.length - (intOf i).toNat)
              case atStart => exact ⟨0, Nat.zero_le _, rfl, fun q _ h => by omega, rfl⟩
              case round =>
                obtain ⟨q, hq, rfl, hall2, hwi⟩ := hrel
                obtain rfl : wr = wo := hwi
                have HAL2 : Hid _ := hall2
                clear hall2
                by_cases hlt2 : q < ms'.length
                · obtain ⟨g2, off2, eg2, hg2, b0, b1, b2, -⟩ := HCB.out q hlt2
                  cases eg2
                  simp only [Nat.zero_add] at b0 b1 b2
                  by_cases hn2 : (ms'[q]'hlt2).nm = xn
                  · have hxj := HXJ.out q hlt2 hn2
                    have HMB := HRB.out _ (List.getElem_mem hlt2)
                    generalize ms'[q]'hlt2 = y at b0 b1 b2 hn2 hxj HMB
                    obtain ⟨yn, yz, ym, yr, yf, ye⟩ := y
                    simp only at b0 b1 b2 hn2 hxj HMB
                    obtain ⟨rfl, rfl⟩ := hxj
                    subst hn2
                    have HMA2 := HMA.out
                    obtain ⟨om, cm, hom⟩ := HMA2.form
                    subst hom
                    obtain ⟨om2, cm2, hom2⟩ := HMB.form
                    subst hom2
                    have HLK : ∀ z : BelowOf wr, Calls Try.prog 15 #[.slice om xr.length cm, .slice om2 xr.length cm2] z.w' fun e w' => e = .returned (.bool true) ∧ Below z.w'.heap.size z.w' w' := fun z => by
                      have h := likeInts_any _ _ xr xr z.w' (readsK_to (HMA2.of (Nat.le_refl _) z)) (readsK_to (HMB.of (Nat.le_refl _) z))
                      rwa [show decide (xr = xr) = true by simp] at h
                    have hne := BelowOf.any wr
                    have q1 := BelowOf.cell a1 hg
                    have q2 := BelowOf.cell a2 hg
                    have q3 := BelowOf.cell b1 hg2
                    have q4 := BelowOf.cell b2 hg2
                    have i0 : (0 : Int) ≤ (j : Int) := by omega
                    have i1 : (j : Int) < (ms.length : Int) := by omega
                    have i2 : (0 : Int) ≤ (q : Int) := by omega
                    have i3 : (q : Int) < (ms'.length : Int) := by omega
                    have hself : (yn.toList == yn.toList) = true := by simp
                    have hself2 : (xz == xz) = true := by simp
                    clear HMA HMB HMA2 HXJ HDV HCA HCB HRA HRB HAL HAL2
                    go_upto_region 26 with fail
                    refine wp_region_of (by kernel_rfl) (by kernel_rfl) ?_
                    repeat (go_big_quiet_step ((first | (go_at_call 15; exact calls_of (HLK _)) | rfl)))
                    refine wpQuiet_nil ?_
                    intro w9 hw9
                    obtain ⟨⟨wx, cx⟩, hwx⟩ := hw9
                    have b9 : Below wr.heap.size wr w9 := by rw [hwx]; exact cx
                    clear hwx cx wx hne q1 q2 q3 q4 HLK
                    go_wp2_with fail
                    go_ret
                    exact ⟨rfl, bw_call d b9⟩
                  · have HN2 : Hid (∀ z (hz : z < ms'.length), z < q + 1 → (ms'[z]'hz).nm ≠ xn) := fun z hz hzq => by
                      rcases Nat.lt_or_ge z q with y | y
                      · exact HAL2.out z hz y
                      · obtain rfl : z = q := by omega
                        exact hn2
                    generalize ms'[q]'hlt2 = y at b0 b1 b2 hn2
                    have hj1 : ¬ y.nm.toList = xn.toList := fun e => hn2 (toList_inj e)
                    have hj2 : (y.nm.toList == xn.toList) = false := by simpa using hj1
                    clear hn2 HAL2
                    go_wp2_with fail
                    go_roundw
                    case rel => exact ⟨q + 1, by omega, by go_num, HN2.out, by first | rfl | trivial⟩
                    case measure => simp [intOf]; omega
                · obtain ⟨i, hi, e⟩ := HDV.out.2.1
                  exact absurd e (HAL2.out i hi (by omega))
            · have HN1 : Hid (∀ z (hz : z < ms.length), z < j + 1 → (ms[z]'hz).nm ≠ oth) := fun z hz hzq => by
                rcases Nat.lt_or_ge z j with y | y
                · exact HAL.out z hz y
                · obtain rfl : z = j := by omega
                  exact hnm
              generalize ms[j]'hlt = x at a0' a1 a2 hnm
              have hj1 : ¬ x.nm.toList = oth.toList := fun e => hnm (toList_inj e)
              have hj2 : (x.nm.toList == oth.toList) = false := by simpa using hj1
              clear hnm HAL
              go_wp2_with fail
              go_roundw
              case rel => exact ⟨j + 1, by omega, by go_num, HN1.out, by first | rfl | trivial⟩
              case measure => simp [intOf]; omega
          · obtain ⟨i, hi, e⟩ := HDV.out.1
            exact absurd e (HAL.out i hi (by omega))
    · have hrn : (rc != 0) = true := by rw [bne_iff_ne]; exact hrc
      go_wp2_with fail
      go_ret
      exact ⟨rfl, d⟩

set_option maxRecDepth 100000 in
theorem lifted (os : Os) (started : os.Started) (H : Type) (enc : TypeId × Value → H) :
    ReturnsInHanded {} Try.checked os 3 .any (Rows.fnDivergeSpec.pre6 enc Try.prog Try.f3 Rows.fnDivergeRow.domain false) (Rows.fnDivergeSpec.post enc Try.prog Try.f3 false true false false) := by
  refine returnsInHanded_of_change (C := Try.checked) own started (by kernel_rfl) Try.func3
    (ChangeSpec.witness6 (enc := enc) (C := Try.checked) false ⟨#[], #[.slice none 0 0], []⟩ 8 (by kernel_rfl) (by kernel_rfl) (by kernel_rfl) (by kernel_rfl)) ?_
  intro W base args ds gs before hval0 hW hcnd _
  have hval : ∀ (j : Nat) t v, Try.f3.params[j]? = some t → args[j]? = some v → Value.okWide Try.prog W .any base t v := hval0
  have hW' := hW
  obtain ⟨p, q, hA0, hV, rfl, hfz, hnd⟩ := hW
  have hA : DataW.TrodAll enc Try.prog W 0 (fun _ => true) true Try.f3.params.toList args.toList ds p := hA0
  rw [Try.params3] at hA hval
  obtain ⟨v0, vs0, d0, ds0, p0, q0, hargs, rfl, rfl, h0, r0⟩ := trodAll_cons hA
  obtain ⟨rfl, rfl, rfl⟩ := trodAll_nil r0
  obtain rfl : args = #[v0] := by cases args; simp_all
  obtain ⟨rfl, rfl⟩ := trodVars_none hV
  obtain ⟨a0, len0, cap0, rfl⟩ := okWide_slice Try.underlying22 (hval 0 22 v0 rfl rfl)
  have k0 := h0
  have lt0 : ∀ x ∈ p0, x.block < W.heap.size := by obtain ⟨m, hm⟩ := k0; exact DataW.trod_lt m _ _ _ hm
  obtain ⟨z0, w0⟩ : ∃ zs, IsRow .u8 W a0 len0 cap0 zs := by
    obtain ⟨fuel, hf⟩ := h0
    rcases open_ints Try.underlying22 Try.underlying5 (by kernel_rfl) hf with ⟨hcs, _⟩ | ⟨x, l, c, zs, hcs, _, hl, hm, hz, _, hcell, hwz⟩
    · simp [Value.cells] at hcs
      obtain ⟨rfl, rfl, rfl⟩ := hcs
      exact ⟨[], .inl ⟨rfl, rfl, rfl, rfl⟩⟩
    · simp [Value.cells] at hcs
      obtain ⟨rfl, rfl, rfl⟩ := hcs
      exact ⟨zs, .inr ⟨_, rfl, hl, hm, by simpa using hz, hcell, hwz⟩⟩
  clear hA0 hval0
  refine (walk a0 len0 cap0 z0 W w0).mono fun e W' ⟨he, bel⟩ => ?_
  subst he
  exact ⟨_, rfl, _, _, _, [], _, [], hW', trodAll_mk1 (shut_bool Try.underlying4 _), (trodAll_cons_mk (Below.trod laidOut (by kernel_rfl) (of_decide_eq_true (by kernel_rfl)) k0 bel lt0) trodAll_mk0), rfl, bel.frame _, fun h => by cases h⟩

theorem over : Rows.fnDivergeRow.holds Try.pinned (OpenSpec.ofChange Rows.fnDivergeSpec) :=
  OpenClaim.holds_of_wide 3 Try.f3 rfl rfl rfl rfl rfl rfl rfl ⟨rfl, rfl, rfl, rfl, rfl⟩ rfl rfl rfl rfl rfl (by kernel_rfl) Try.func3 (by kernel_rfl)
    (of_decide_eq_true (by kernel_rfl)) (by unfold Func.isWrapper; first | (rw [if_pos (by decide +kernel)]; kernel_rfl) | (rw [if_neg (by decide +kernel)]; exact ⟨rfl, rfl⟩))
    (fun os started H enc _ => lifted os started H enc)

theorem proved : Rows.FnDivergeSaid := over
#print axioms proved
end Go.Proofs.Ytchlkdhnjejgnaa.fnDiverge
