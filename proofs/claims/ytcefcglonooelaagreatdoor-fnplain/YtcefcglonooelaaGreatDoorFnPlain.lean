/-
  The law FnPlain answers true at every input that the row speaks of, its arguments and the named variables read afterwards as before; the listed variables are tied to the program's text; the walk goes over the callees' contracts.
-/
import Derived.Test.YtcefcglonooelaaGreatDoorRows
import Derived.Test.YtcefcglonooelaaGreatDoorTie
import Derived.Test.YtcefcglonooelaaGreatDoorCards
import Derived.WalkKit
import Derived.Below
import Derived.Laws.AppendOwn
import Derived.Deep.QuietTactic
import Derived.BigQuiet
import Derived.Test.YtcefcglonooelaaGreatDoorChecked
import Derived.Laws.OwnMore
import Derived.OwnWalk
import Derived.LaidEql
import Derived.Stop.Asserts
import Derived.RowKitTokens
import Derived.RangeFuncBox
import Derived.Deep.WholeRow
import Derived.Laws.MakeOwn
import Derived.WalkSpells
import Derived.Laws.Bits128
import Derived.IntWalk
import Derived.Handy
import Derived.Laws.IdiomStrings
import Derived.Deep.RegionLaw
import Derived.Deep.RegionHeld3
import Derived.ChangeSame
import Derived.ChangeVars
import Derived.RowKit
import Derived.LaidLaws
import Derived.LaidHandle
import Derived.LaidSub
import Derived.Stop.LaidErr
import Derived.Stop.LaidTwo
import Derived.SevenTiedAt
import Derived.JoinedOf
import Derived.ProofKit
import Derived.OpenVars
import Derived.OpenShut
import Derived.ChangeOld
import Derived.Carry
import Derived.ShutString
import Derived.Lib.SmallJoins
import Derived.SliceStrings
import Derived.ChangeSlices
import Derived.Deep.DeepCutAuto
import Derived.Laws.Cover1
import Derived.Deep.CutBlock
import Derived.Laws.CopyOwn
import Derived.Lib.Strings
import Derived.Shelf.LaysM
import Derived.Shelf.Strconv.Clone
import Derived.Lib.LazyBuf
import Derived.Lib.Slices
import Derived.Lib.Walk
import Derived.Lib.Bytealg
import Derived.Orders
import Derived.Lib.AppendZerosOnto
import Derived.Lib.AppendZeros
import Derived.ChangeKeysEq
import Derived.Laws.StructEq
import Derived.Deep.RegionWith
import Derived.Test.YtcefcglonooelaaGreatDoorB01
import Derived.Test.YtcefcglonooelaaGreatDoorB02
import Derived.Test.YtcefcglonooelaaGreatDoorB03
import Derived.Test.YtcefcglonooelaaGreatDoorB04
import Derived.Test.YtcefcglonooelaaGreatDoorB05
import Derived.Test.YtcefcglonooelaaGreatDoorB06
import Derived.Test.YtcefcglonooelaaGreatDoorB07
import Derived.Test.YtcefcglonooelaaGreatDoorB08
import Derived.Test.YtcefcglonooelaaGreatDoorB09
import Derived.Test.YtcefcglonooelaaGreatDoorB10
import Derived.Test.YtcefcglonooelaaGreatDoorB11
import Derived.Test.YtcefcglonooelaaGreatDoorB12
import Derived.Test.YtcefcglonooelaaGreatDoorB13
import Derived.Test.YtcefcglonooelaaGreatDoorB14
import Derived.Test.YtcefcglonooelaaGreatDoorB15
import Derived.Test.YtcefcglonooelaaGreatDoorB16
import Derived.Test.YtcefcglonooelaaGreatDoorB17
import Derived.Test.YtcefcglonooelaaGreatDoorB18
import Derived.Test.YtcefcglonooelaaGreatDoorB19
import Derived.Test.YtcefcglonooelaaGreatDoorB20
import Derived.Test.YtcefcglonooelaaGreatDoorB21
import Derived.Test.YtcefcglonooelaaGreatDoorB22
import Derived.Test.YtcefcglonooelaaGreatDoorB23
import Derived.Test.YtcefcglonooelaaGreatDoorB24
import Derived.Test.YtcefcglonooelaaGreatDoorB25
import Derived.Test.YtcefcglonooelaaGreatDoorB26
import Derived.Test.YtcefcglonooelaaGreatDoorB27
import Derived.Test.YtcefcglonooelaaGreatDoorB28
import Derived.Test.YtcefcglonooelaaGreatDoorB29
import Derived.Test.YtcefcglonooelaaGreatDoorB30
import Derived.Test.YtcefcglonooelaaGreatDoorB31
import Derived.Test.YtcefcglonooelaaGreatDoorB32
import Derived.Test.YtcefcglonooelaaGreatDoorB33
import Derived.Test.YtcefcglonooelaaGreatDoorB34
import Derived.Test.YtcefcglonooelaaGreatDoorB35
import Derived.Test.YtcefcglonooelaaGreatDoorB36
import Derived.Test.YtcefcglonooelaaGreatDoorB37
import Derived.Test.YtcefcglonooelaaGreatDoorB38
import Derived.Test.YtcefcglonooelaaGreatDoorB39
import Derived.Test.YtcefcglonooelaaGreatDoorB40
import Derived.Test.YtcefcglonooelaaGreatDoorB41
import Derived.Test.YtcefcglonooelaaGreatDoorB42
import Derived.Test.YtcefcglonooelaaGreatDoorB43
import Derived.Test.YtcefcglonooelaaGreatDoorB44
import Derived.Test.YtcefcglonooelaaGreatDoorY01
import Derived.Test.YtcefcglonooelaaGreatDoorF01
import Derived.Test.YtcefcglonooelaaGreatDoorF02
import Derived.Test.YtcefcglonooelaaGreatDoorF03
namespace Go.Proofs.YtcefcglonooelaaGreatDoor.fnPlain
open Go Go.ChangeShapes Go.WideShapes Go.ChangeAt Go.RowKit
set_option linter.unusedVariables false

theorem own : ownKnob Tryz.prog.godebug = none := by kernel_rfl
theorem laidOut : laidOutB Tryz.prog = true := by kernel_rfl
theorem vars_length {H : Type} {enc : TypeId × Value → H} {P : Program} {w : World} {sp : Nat → Bool} : ∀ {ns : List String} {gs : List (DataW H)} {ps : List MemPlace}, DataW.TrodVars enc P w sp ns gs ps → gs.length = ns.length
  | [], [], _, _ => rfl
  | [], _ :: _, _, h => h.elim
  | _ :: _, [], _, h => h.elim
  | n :: ns, d :: ds, _, h => by
    obtain ⟨_, _, _, _, _, _, _, _, _, _, h', _⟩ := h
    simp [vars_length h']

set_option maxRecDepth 100000 in
set_option maxHeartbeats 8000000 in
theorem walk (a0 : Option Addr) (len0 cap0 : Nat) (w : World) (w0 : Src w w.heap.size a0 len0) (ad : Nat → Addr) (hvs : Vars w ad) :
    Calls Tryz.prog 3 #[.slice a0 len0 cap0] w fun e w' => e = .returned (.bool true) ∧ Below w.heap.size w w' := by
  have hs := w0
  have hm := hs.1
  by_cases hbig : (4096 : Int) < (len0 : Int)
  · have hd : decide ((4096 : Int) < (len0 : Int)) = true := by simpa using hbig
    go_enter Tryz.func3, Tryz.ntmps3
    go_wp2_with (go_at_call 7; refine (big_any _ _ _ _ hm).mono ?_; rintro e w' ⟨rfl, rfl⟩)
    go_ret
    exact ⟨rfl, Below.refl _ _⟩
  have hd : decide ((4096 : Int) < (len0 : Int)) = false := by simpa using hbig
  have hl4 : len0 ≤ 4096 := by omega
  have HV : Hid (Vars w ad) := by first | exact hvs | exact hvs.v
  clear w0 hbig hvs
  go_enter Tryz.func3, Tryz.ntmps3
  go_wp2_with fail
  refine (big_any _ _ _ _ hm).mono ?_
  rintro e w' ⟨rfl, rfl⟩
  go_wp2_with fail
  refine (drawDidPlain_any _ _ _ _ hs).mono ?_
  rintro e w1 ⟨v, ms, oq, told, rfl, P, fit, ht⟩
  have d := P.d
  replace hs := hs.below d
  have y0 := d.size
  have oL := P.own
  have hfew := P.few
  have HN : Hid (∀ m ∈ ms, m.nm.size ≤ maxLen) := fun m hm => by have := P.nm m hm; unfold maxLen; omega
  clear P
  obtain ⟨o1, c1, rfl⟩ := own_slice oL.row
  have HO : Hid ((oq.nm.size ≤ maxLen ∧ oq.ot.size ≤ maxLen) ∧ I64 oq.k ∧ I64 oq.at_ ∧ I64 oq.va ∧ I64 oq.ep) := by
    have h1 := fit.k
    have h2 := fit.at_
    have h3 := fit.va
    have h4 := fit.ep
    have h5 := fit.nm
    have h6 := fit.ot
    refine ⟨⟨?_, ?_⟩, ?_, ?_, ?_, ?_⟩ <;> (first | (unfold I64; omega) | (unfold maxLen; omega))
  obtain ⟨k, nm, ot, at_, va, ep⟩ := oq
  simp only at HO ⊢
  clear fit ht
  obtain ⟨⟨D1, rc, rv⟩, hD⟩ : ∃ x, didPlain (ms.map Pk.pv) ⟨k, nm, ot, at_, va, ep⟩ told = x := ⟨_, rfl⟩
  have HD : Hid (didPlain (ms.map Pk.pv) ⟨k, nm, ot, at_, va, ep⟩ told = (D1, (rc, rv))) := hD
  clear hD
  have b : Below w1.heap.size w1 (w1.alloc (.cells #[.int .i64 k, .string nm, .string ot, .int .i64 at_, .int .i64 va, .int .i64 ep] 26)) := bw_alloc (Below.refl _ _)
  have kO := heap_alloc_new w1 (.cells #[.int .i64 k, .string nm, .string ot, .int .i64 at_, .int .i64 va, .int .i64 ep] 26)
  have sO : w1.heap.size < (w1.alloc (.cells #[.int .i64 k, .string nm, .string ot, .int .i64 at_, .int .i64 va, .int .i64 ep] 26)).heap.size := by simp
  replace d := bw_call d b
  replace hs := hs.below (b.mono y0)
  replace y0 := Nat.le_trans y0 b.size
  replace oL := oL.below b
  clear b
  have pkO0 := at_cell kO 0
  have pkO1 := at_cell kO 1
  have pkO2 := at_cell kO 2
  have pkO3 := at_cell kO 3
  have pkO4 := at_cell kO 4
  have pkO5 := at_cell kO 5
  go_wp2_with fail
  clear pkO0 pkO1 pkO2 pkO3 pkO4 pkO5
  generalize w1.alloc (.cells #[.int .i64 k, .string nm, .string ot, .int .i64 at_, .int .i64 va, .int .i64 ep] 26) = WA at *
  generalize w1.heap.size = nO at *
  refine (implDidPlain_any _ ms k nm ot at_ va ep told _ ad (HV.out.below d) HN.out HO.out.1.1 HO.out.1.2 HO.out.2.1 HO.out.2.2.1 HO.out.2.2.2.1 HO.out.2.2.2.2 oL.reads).mono ?_
  unfold DidKP
  rw [HD.out]
  rintro e w2 ⟨vx, mx, rfl, hmx, ox, -, b⟩
  have HMX : Hid (mx.map Pk.pv = D1) := hmx
  clear hmx
  replace d := bw_call d b
  replace hs := hs.below (b.mono y0)
  replace y0 := Nat.le_trans y0 b.size
  replace oL := oL.below b
  replace kO := (b.block _ sO).trans kO
  replace sO := Nat.lt_of_lt_of_le sO b.size
  clear b
  obtain ⟨ox1, cx1, rfl⟩ := own_slice ox.row
  have b : Below w2.heap.size w2 (w2.alloc (.cells #[.int .i64 rc, .int .i64 rv] 30)) := bw_alloc (Below.refl _ _)
  have kR := heap_alloc_new w2 (.cells #[.int .i64 rc, .int .i64 rv] 30)
  have sR : w2.heap.size < (w2.alloc (.cells #[.int .i64 rc, .int .i64 rv] 30)).heap.size := by simp
  replace d := bw_call d b
  replace hs := hs.below (b.mono y0)
  replace y0 := Nat.le_trans y0 b.size
  replace oL := oL.below b
  replace kO := (b.block _ sO).trans kO
  replace sO := Nat.lt_of_lt_of_le sO b.size
  replace ox := ox.below b
  clear b
  go_wp2_with fail
  generalize w2.alloc (.cells #[.int .i64 rc, .int .i64 rv] 30) = WB at *
  generalize w2.heap.size = nR at *
  refine (drawSamePlains_any _ _ _ _ (hs.mono y0)).mono ?_
  rintro e w3 ⟨va9, vb9, sa, sb, rfl, qa, qb, b⟩
  replace d := bw_call d b
  replace hs := hs.below (b.mono y0)
  replace y0 := Nat.le_trans y0 b.size
  replace oL := oL.below b
  replace kO := (b.block _ sO).trans kO
  replace sO := Nat.lt_of_lt_of_le sO b.size
  replace ox := ox.below b
  replace kR := (b.block _ sR).trans kR
  replace sR := Nat.lt_of_lt_of_le sR b.size
  clear b
  have ra := qa.r
  have rb := qb.r
  have ya : w3.heap.size ≤ w3.heap.size := Nat.le_refl _
  have yb : w3.heap.size ≤ w3.heap.size := Nat.le_refl _
  have HAL : Hid (∀ m ∈ sa, m.rs.length ≤ 1048576) := fun m hm => by have := qa.ln m hm; omega
  have HBL : Hid (∀ m ∈ sb, m.rs.length ≤ 1048576) := fun m hm => by have := qb.ln m hm; omega
  clear qa qb
  obtain ⟨oa9, ca9, rfl⟩ := ra.row.form
  obtain ⟨ob9, cb9, rfl⟩ := rb.row.form
  have pkO0 := at_cell kO 0
  have pkO1 := at_cell kO 1
  have pkO2 := at_cell kO 2
  have pkO3 := at_cell kO 3
  have pkO4 := at_cell kO 4
  have pkO5 := at_cell kO 5
  go_wp2_with fail
  clear pkO0 pkO1 pkO2 pkO3 pkO4 pkO5
  refine (specDidPlain_any _ ms k nm ot at_ va ep told _ HN.out HO.out.1.1 HO.out.1.2 oL.reads).mono ?_
  unfold DidKP
  rw [HD.out]
  rintro e w4 ⟨vy, my, rfl, hmy, oy, -, b⟩
  have HMY : Hid (my.map bareK = mx.map bareK) := bare_of_pv (hmy.trans HMX.out.symm)
  clear hmy
  replace d := bw_call d b
  replace hs := hs.below (b.mono y0)
  replace y0 := Nat.le_trans y0 b.size
  replace oL := oL.below b
  replace kO := (b.block _ sO).trans kO
  replace sO := Nat.lt_of_lt_of_le sO b.size
  replace ox := ox.below b
  replace kR := (b.block _ sR).trans kR
  replace sR := Nat.lt_of_lt_of_le sR b.size
  replace ra := ra.below (b.mono ya)
  replace ya := Nat.le_trans ya b.size
  replace rb := rb.below (b.mono yb)
  replace yb := Nat.le_trans yb b.size
  clear b
  obtain ⟨oy1, cy1, rfl⟩ := own_slice oy.row
  have b : Below w4.heap.size w4 (w4.alloc (.cells #[.int .i64 rc, .int .i64 rv] 30)) := bw_alloc (Below.refl _ _)
  have kT := heap_alloc_new w4 (.cells #[.int .i64 rc, .int .i64 rv] 30)
  have sT : w4.heap.size < (w4.alloc (.cells #[.int .i64 rc, .int .i64 rv] 30)).heap.size := by simp
  replace d := bw_call d b
  replace hs := hs.below (b.mono y0)
  replace y0 := Nat.le_trans y0 b.size
  replace oL := oL.below b
  replace kO := (b.block _ sO).trans kO
  replace sO := Nat.lt_of_lt_of_le sO b.size
  replace ox := ox.below b
  replace kR := (b.block _ sR).trans kR
  replace sR := Nat.lt_of_lt_of_le sR b.size
  replace ra := ra.below (b.mono ya)
  replace ya := Nat.le_trans ya b.size
  replace rb := rb.below (b.mono yb)
  replace yb := Nat.le_trans yb b.size
  replace oy := oy.below b
  clear b
  have hself : ∀ z : Int, (z == z) = true := fun z => by simp
  have pkR0 := at_cell kR 0
  have pkR1 := at_cell kR 1
  have pkT0 := at_cell kT 0
  have pkT1 := at_cell kT 1
  go_wp2_with fail
  clear pkR0 pkR1
  clear pkT0 pkT1
  generalize w4.alloc (.cells #[.int .i64 rc, .int .i64 rv] 30) = WC at *
  generalize w4.heap.size = nT at *
  refine (likePlains_same _ _ mx my _ HMY.out ox.reads oy.reads).mono ?_
  rintro e w5 ⟨rfl, b⟩
  replace d := bw_call d b
  replace hs := hs.below (b.mono y0)
  replace y0 := Nat.le_trans y0 b.size
  replace oL := oL.below b
  replace kO := (b.block _ sO).trans kO
  replace sO := Nat.lt_of_lt_of_le sO b.size
  replace ox := ox.below b
  replace kR := (b.block _ sR).trans kR
  replace sR := Nat.lt_of_lt_of_le sR b.size
  replace ra := ra.below (b.mono ya)
  replace ya := Nat.le_trans ya b.size
  replace rb := rb.below (b.mono yb)
  replace yb := Nat.le_trans yb b.size
  replace oy := oy.below b
  replace kT := (b.block _ sT).trans kT
  replace sT := Nat.lt_of_lt_of_le sT b.size
  clear b
  clear oy
  clear kT sT
  clear HMY
  obtain ⟨pk, hpk⟩ : ∃ x, plainsOk (ms.map Pk.pv) = x := ⟨_, rfl⟩
  have HPK : Hid (plainsOk (ms.map Pk.pv) = pk) := hpk
  have hpkk : (pk != pk) = false := by simp
  clear hpk
  go_wp2_with fail
  refine (implPlainsOk_any _ ms _ HN.out oL.reads).mono ?_
  rw [HPK.out]
  rintro e w6 ⟨rfl, b⟩
  replace d := bw_call d b
  replace hs := hs.below (b.mono y0)
  replace y0 := Nat.le_trans y0 b.size
  replace oL := oL.below b
  replace kO := (b.block _ sO).trans kO
  replace sO := Nat.lt_of_lt_of_le sO b.size
  replace ox := ox.below b
  replace kR := (b.block _ sR).trans kR
  replace sR := Nat.lt_of_lt_of_le sR b.size
  replace ra := ra.below (b.mono ya)
  replace ya := Nat.le_trans ya b.size
  replace rb := rb.below (b.mono yb)
  replace yb := Nat.le_trans yb b.size
  clear b
  go_wp2_with fail
  refine (specPlainsOk_any _ ms _ HN.out oL.reads).mono ?_
  rw [HPK.out]
  rintro e w7 ⟨rfl, b⟩
  replace d := bw_call d b
  replace hs := hs.below (b.mono y0)
  replace y0 := Nat.le_trans y0 b.size
  replace oL := oL.below b
  replace kO := (b.block _ sO).trans kO
  replace sO := Nat.lt_of_lt_of_le sO b.size
  replace ox := ox.below b
  replace kR := (b.block _ sR).trans kR
  replace sR := Nat.lt_of_lt_of_le sR b.size
  replace ra := ra.below (b.mono ya)
  replace ya := Nat.le_trans ya b.size
  replace rb := rb.below (b.mono yb)
  replace yb := Nat.le_trans yb b.size
  clear b
  obtain ⟨sk, hsk⟩ : ∃ x, samePlains (sa.map Pk.pv) (sb.map Pk.pv) = x := ⟨_, rfl⟩
  have HSK : Hid (samePlains (sa.map Pk.pv) (sb.map Pk.pv) = sk) := hsk
  have hskk : (sk != sk) = false := by simp
  clear hsk
  go_wp2_with fail
  refine (implSamePlains_any _ _ sa sb _ HAL.out HBL.out (ra.mono ya) (rb.mono yb)).mono ?_
  rw [HSK.out]
  rintro e w8 ⟨rfl, b⟩
  replace d := bw_call d b
  replace hs := hs.below (b.mono y0)
  replace y0 := Nat.le_trans y0 b.size
  replace oL := oL.below b
  replace kO := (b.block _ sO).trans kO
  replace sO := Nat.lt_of_lt_of_le sO b.size
  replace ox := ox.below b
  replace kR := (b.block _ sR).trans kR
  replace sR := Nat.lt_of_lt_of_le sR b.size
  replace ra := ra.below (b.mono ya)
  replace ya := Nat.le_trans ya b.size
  replace rb := rb.below (b.mono yb)
  replace yb := Nat.le_trans yb b.size
  clear b
  go_wp2_with fail
  refine (specSamePlains_any _ _ sa sb _ (ra.mono ya) (rb.mono yb)).mono ?_
  rw [HSK.out]
  rintro e w9 ⟨rfl, b⟩
  replace d := bw_call d b
  replace hs := hs.below (b.mono y0)
  replace y0 := Nat.le_trans y0 b.size
  replace oL := oL.below b
  replace kO := (b.block _ sO).trans kO
  replace sO := Nat.lt_of_lt_of_le sO b.size
  replace ox := ox.below b
  replace kR := (b.block _ sR).trans kR
  replace sR := Nat.lt_of_lt_of_le sR b.size
  replace ra := ra.below (b.mono ya)
  replace ya := Nat.le_trans ya b.size
  replace rb := rb.below (b.mono yb)
  replace yb := Nat.le_trans yb b.size
  clear b
  go_wp2_with fail
  refine (implSamePlains_any _ _ sa sb _ HAL.out HBL.out (ra.mono ya) (rb.mono yb)).mono ?_
  rw [HSK.out]
  rintro e w10 ⟨rfl, b⟩
  replace d := bw_call d b
  replace hs := hs.below (b.mono y0)
  replace y0 := Nat.le_trans y0 b.size
  replace oL := oL.below b
  replace kO := (b.block _ sO).trans kO
  replace sO := Nat.lt_of_lt_of_le sO b.size
  replace ox := ox.below b
  replace kR := (b.block _ sR).trans kR
  replace sR := Nat.lt_of_lt_of_le sR b.size
  replace ra := ra.below (b.mono ya)
  replace ya := Nat.le_trans ya b.size
  replace rb := rb.below (b.mono yb)
  replace yb := Nat.le_trans yb b.size
  clear b
  go_wp2_with fail
  refine (likePlains_any _ _ sa sb _ (ra.mono ya) (rb.mono yb)).mono ?_
  rw [HSK.out]
  rintro e w11 ⟨rfl, b⟩
  replace d := bw_call d b
  replace hs := hs.below (b.mono y0)
  replace y0 := Nat.le_trans y0 b.size
  replace oL := oL.below b
  replace kO := (b.block _ sO).trans kO
  replace sO := Nat.lt_of_lt_of_le sO b.size
  replace ox := ox.below b
  replace kR := (b.block _ sR).trans kR
  replace sR := Nat.lt_of_lt_of_le sR b.size
  replace ra := ra.below (b.mono ya)
  replace ya := Nat.le_trans ya b.size
  replace rb := rb.below (b.mono yb)
  replace yb := Nat.le_trans yb b.size
  clear b
  clear ra ya
  clear rb yb
  clear HSK HAL HBL hskk
  go_wp2_with fail
  refine (specPlainsOk_any _ ms _ HN.out oL.reads).mono ?_
  rw [HPK.out]
  rintro e w12 ⟨rfl, b⟩
  replace d := bw_call d b
  replace hs := hs.below (b.mono y0)
  replace y0 := Nat.le_trans y0 b.size
  replace oL := oL.below b
  replace kO := (b.block _ sO).trans kO
  replace sO := Nat.lt_of_lt_of_le sO b.size
  replace ox := ox.below b
  replace kR := (b.block _ sR).trans kR
  replace sR := Nat.lt_of_lt_of_le sR b.size
  clear b
  cases pk
  · have HBD : Hid (D1 = [] ∧ rc = 1) := by
      have h := HD.out
      rw [didPlain, if_neg (by rw [HPK.out]; decide)] at h
      simp only [Prod.mk.injEq] at h
      exact ⟨h.1.symm, h.2.1.symm⟩
    obtain ⟨hD1, hrc⟩ := HBD.out
    subst hrc
    have hmx0 : mx = [] := by have h := HMX.out; rw [hD1] at h; exact List.map_eq_nil_iff.1 h
    subst hmx0
    have pR0 := at_cell kR 0
    have hz : ((([] : List Pk).length : Int)) = 0 := rfl
    clear HBD hD1 HD HMX
    go_wp2_with fail
    go_ret
    exact ⟨rfl, d⟩
  have HXOK : Hid (plainsOk D1 = true) := by have h := did_plains (ms.map Pk.pv) ⟨k, nm, ot, at_, va, ep⟩ told; rw [HD.out] at h; exact h
  have HXN : Hid (∀ m ∈ mx, m.nm.size ≤ maxLen) := right_names (by rw [HMX.out]; exact HXOK.out)
  go_wp2_with fail
  refine (implPlainsOk_any _ mx _ HXN.out ox.reads).mono ?_
  rw [HMX.out, HXOK.out]
  rintro e w13 ⟨rfl, b⟩
  replace d := bw_call d b
  replace hs := hs.below (b.mono y0)
  replace y0 := Nat.le_trans y0 b.size
  replace oL := oL.below b
  replace kO := (b.block _ sO).trans kO
  replace sO := Nat.lt_of_lt_of_le sO b.size
  replace ox := ox.below b
  replace kR := (b.block _ sR).trans kR
  replace sR := Nat.lt_of_lt_of_le sR b.size
  clear b
  have pR0 := at_cell kR 0
  by_cases hrc : rc = 0
  case neg =>
    have HCC : Hid (D1 = ms.map Pk.pv ∧ (rc = 9 → told = 9 ∧ k = 2)) := by
      have h := did_code (l := ms.map Pk.pv) (o := ⟨k, nm, ot, at_, va, ep⟩) (told := told) HPK.out (by rw [HD.out]; exact hrc)
      rw [HD.out] at h
      exact h
    have HML : Hid (ms.map bareK = mx.map bareK) := bare_of_pv (by rw [HMX.out]; exact HCC.out.1.symm)
    have n0 : (rc != 0) = true := by simpa [bne_iff_ne] using hrc
    have n1 : (rc == 0) = false := by simpa using hrc
    go_wp2_with fail
    clear pR0
    refine (likePlains_same _ _ mx ms _ HML.out ox.reads oL.reads).mono ?_
    rintro e w14 ⟨rfl, b⟩
    replace d := bw_call d b
    replace hs := hs.below (b.mono y0)
    replace y0 := Nat.le_trans y0 b.size
    replace oL := oL.below b
    replace kO := (b.block _ sO).trans kO
    replace sO := Nat.lt_of_lt_of_le sO b.size
    replace ox := ox.below b
    replace kR := (b.block _ sR).trans kR
    replace sR := Nat.lt_of_lt_of_le sR b.size
    clear b
    have pR0 := at_cell kR 0
    by_cases h9 : rc = 9
    · obtain ⟨ht, hk2⟩ := HCC.out.2 h9
      subst ht
      subst hk2
      subst h9
      have pO0 := at_cell kO 0
      clear HCC HML n0 n1
      go_wp2_with fail
      go_ret
      exact ⟨rfl, d⟩
    · have n9 : (rc != 9) = true := by simpa [bne_iff_ne] using h9
      clear HCC HML
      go_wp2_with fail
      go_ret
      exact ⟨rfl, d⟩
  case pos =>
    subst hrc
    have pO0 := at_cell kO 0
    by_cases hk2 : k = 2
    · subst hk2
      have HWR : Hid ((didPlain D1 ⟨9, nm, ⟨#[]⟩, at_, 0, 0⟩ 0).2 = (0, va)) := by
        have h := write_read (l := ms.map Pk.pv) (nm := nm) (ot := ot) (at_ := at_) (va := va) (ep := ep) (told := told) HPK.out (by rw [HD.out])
        rw [HD.out] at h
        exact h
      obtain ⟨⟨D5, r5⟩, hD5⟩ : ∃ x, didPlain D1 ⟨9, nm, ⟨#[]⟩, at_, 0, 0⟩ 0 = x := ⟨_, rfl⟩
      obtain rfl : r5 = (0, va) := by have h := HWR.out; rw [hD5] at h; exact h
      have HD5 : Hid (didPlain D1 ⟨9, nm, ⟨#[]⟩, at_, 0, 0⟩ 0 = (D5, (0, va))) := hD5
      clear hD5 HWR
      have hnm := HO.out.1.1
      have hot0 : (⟨#[]⟩ : ByteArray).size ≤ maxLen := Nat.zero_le _
      have f9 : I64 9 := by unfold I64; omega
      have f0 : I64 0 := by unfold I64; omega
      have pO1 := at_cell kO 1
      have pO3 := at_cell kO 3
      go_wp2_with fail
      clear pO0 pO1 pO3 pR0
      refine (implDidPlain_any _ mx 9 nm _ at_ 0 0 0 _ ad (HV.out.below d) HXN.out hnm hot0 f9 HO.out.2.2.1 f0 f0 ox.reads).mono ?_
      unfold DidKP
      rw [HMX.out]
      first | rw [HD5.out] | (rw [show didPlain D1 _ 0 = (D5, (0, va)) from HD5.out])
      rintro e w14 ⟨vz, mz, rfl, -, oz, -, b⟩
      replace d := bw_call d b
      replace hs := hs.below (b.mono y0)
      replace y0 := Nat.le_trans y0 b.size
      replace oL := oL.below b
      replace kO := (b.block _ sO).trans kO
      replace sO := Nat.lt_of_lt_of_le sO b.size
      replace ox := ox.below b
      replace kR := (b.block _ sR).trans kR
      replace sR := Nat.lt_of_lt_of_le sR b.size
      clear b
      obtain ⟨oz1, cz1, rfl⟩ := own_slice oz.row
      clear oz
      have b : Below w14.heap.size w14 (w14.alloc (.cells #[.int .i64 0, .int .i64 va] 30)) := bw_alloc (Below.refl _ _)
      have kZ := heap_alloc_new w14 (.cells #[.int .i64 0, .int .i64 va] 30)
      have sZ : w14.heap.size < (w14.alloc (.cells #[.int .i64 0, .int .i64 va] 30)).heap.size := by simp
      replace d := bw_call d b
      replace hs := hs.below (b.mono y0)
      replace y0 := Nat.le_trans y0 b.size
      replace oL := oL.below b
      replace kO := (b.block _ sO).trans kO
      replace sO := Nat.lt_of_lt_of_le sO b.size
      replace ox := ox.below b
      replace kR := (b.block _ sR).trans kR
      replace sR := Nat.lt_of_lt_of_le sR b.size
      clear b
      have pZ0 := at_cell kZ 0
      have pZ1 := at_cell kZ 1
      have pO4 := at_cell kO 4
      go_wp2_with fail
      go_ret
      exact ⟨rfl, d⟩
    · have n2 : (k == 2) = false := by simpa using hk2
      go_wp2_with fail
      go_ret
      exact ⟨rfl, d⟩

set_option maxRecDepth 100000 in
theorem lifted (os : Os) (started : os.Started) (H : Type) (enc : TypeId × Value → H) :
    ReturnsInHanded {} Tryz.checked os 3 .any (fun w args => (Rows.fnPlainSpec.pre enc Tryz.prog Tryz.f3 Rows.fnPlainRow.domain false w args ∧ laidMetH Tryz.prog Rows.fnPlainRow.laid w) ∧ sizedMet enc Tryz.prog Tryz.f3 (OpenSpec.ofChange Rows.fnPlainSpec) false w args) (Rows.fnPlainSpec.post enc Tryz.prog Tryz.f3 false true false false) := by
  refine returnsInHanded_of_change_and (C := Tryz.checked) (X := fun w _ => laidMetH Tryz.prog Rows.fnPlainRow.laid w) (fun _ _ _ hh h => h.of_heap hh) own started (by kernel_rfl) Tryz.func3
    (ChangeSpec.witness_at (enc := enc) (C := Tryz.checked) (os := os) (X := fun w _ => laidMetH Tryz.prog Rows.fnPlainRow.laid w) false (laidWorld os) #[.slice none 0 0] 8 rfl (by kernel_rfl) (by kernel_rfl) (by kernel_rfl) (by kernel_rfl) (by kernel_rfl) (show laidMetH Tryz.prog laidLess _ from laid_nine os _)) ?_
  intro W base args ds gs before hval0 hW _ _ hL _
  have hval : ∀ (j : Nat) t v, Tryz.f3.params[j]? = some t → args[j]? = some v → Value.okWide Tryz.prog W .any base t v := hval0
  have hW' := hW
  obtain ⟨p, q, hA0, hV, rfl, hfz, hnd⟩ := hW
  have hA : DataW.TrodAll enc Tryz.prog W 0 (fun _ => true) true Tryz.f3.params.toList args.toList ds p := hA0
  have hVN : DataW.TrodVars enc Tryz.prog W (fun _ => true) ["loop.example/g00372/impl.errNoPage", "loop.example/g00372/impl.errWrongOp", "loop.example/g00372/impl.errNoBook", "loop.example/g00372/impl.errBookThere", "loop.example/g00372/impl.errFenced", "loop.example/g00372/impl.errFixed", "loop.example/g00372/impl.errRange", "loop.example/g00372/impl.errManyBooks", "loop.example/g00372/impl.errWorn"] gs q := hV
  have hvl := vars_length hVN
  rw [Tryz.params3] at hA hval
  obtain ⟨v0, vs0, d0, ds0, p0, q0, hargs, rfl, rfl, h0, rr0⟩ := trodAll_cons hA
  obtain ⟨rfl, rfl, rfl⟩ := trodAll_nil rr0
  obtain rfl : args = #[v0] := by cases args; simp_all
  have kk0 := h0
  have lt0 : ∀ x ∈ p0, x.block < W.heap.size := by obtain ⟨fuel, hfuel⟩ := kk0; exact DataW.trod_lt fuel _ _ _ hfuel
  obtain ⟨a0, len0, cap0, rfl, w0⟩ := open_bytes (hval 0 22 v0 rfl rfl) h0
  clear hA0 hval0
  refine (walk a0 len0 cap0 W w0 (adOf W) (vars_nine (show laidMetH Tryz.prog laidLess W from hL))).mono fun e W' ⟨he, bel⟩ => ?_
  subst he
  match gs, hvl, hVN with
  | [g1, g2, g3, g4, g5, g6, g7, g8, g9], _, hVN =>
    exact ⟨_, rfl, _, _, _, [], _, q, hW', trodAll_mk1 (shut_bool Tryz.underlying4 _), (trodAll_cons_mk (Below.trod laidOut (by kernel_rfl) (of_decide_eq_true (by kernel_rfl)) kk0 bel lt0) trodAll_mk0), Below.trodVars laidOut bel (by kernel_rfl) hVN, bel.frame _, fun h => by cases h⟩

theorem over : Rows.fnPlainRow.holds Tryz.pinned (OpenSpec.ofChange Rows.fnPlainSpec) :=
  OpenClaim.holds_of_wide 3 Tryz.f3 rfl rfl rfl rfl rfl rfl rfl ⟨rfl, rfl, rfl, rfl, rfl⟩ rfl rfl rfl rfl rfl hfn Tryz.func3 closed hinst hwrap
    (fun os started H enc _ => lifted os started H enc)

theorem proved : Rows.FnPlainCardSaid :=
  Claim7.holds_tied_plain_at .later [] [.handle, .sentinel, .sentinel, .sentinel, .sentinel, .sentinel, .sentinel, .sentinel, .sentinel, .sentinel] true (true, "c1202ad587a82d4a6b2824aa68a774fbcede363e1cfa9649eab5822d3dd22308") true over (fun _ h => by cases h) byText (fun _ h => by cases h) fnPlain_row_tie rfl ⟨rfl, rfl⟩ mainIs rfl
    (fun f fn hf hfn' => by
      obtain rfl : f = 3 := (Option.some.inj (hfn.symm.trans hf)).symm
      obtain rfl : fn = Tryz.f3 := (Option.some.inj (Tryz.func3.symm.trans hfn')).symm
      exact ⟨looks, fun j t ht => by
        rw [Tryz.params3] at ht
        have hm : t ∈ [22] := by have h := Array.mem_of_getElem? ht; simpa using h
        simp only [List.mem_cons, List.mem_nil_iff, or_false] at hm
        rcases hm with rfl
        · exact stand22⟩)
    goes
#print axioms proved
end Go.Proofs.YtcefcglonooelaaGreatDoor.fnPlain
