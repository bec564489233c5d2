/-
  What else is wanted.
-/
import Derived.WalkKit
import Derived.Below
import Derived.Laws.AppendOwn
import Derived.Deep.QuietTactic
import Derived.BigQuiet
import Derived.Test.YtcefcglonooelaaGreatDoorChecked
import Derived.Laws.OwnMore
import Derived.OwnWalk
import Derived.Laws.MakeOwn
import Derived.WalkSpells
import Derived.Laws.Bits128
import Derived.IntWalk
import Derived.Handy
import Derived.Laws.IdiomStrings
import Derived.Deep.RegionLaw
import Derived.Deep.RegionHeld3
import Derived.Deep.DeepCutAuto
import Derived.Laws.Cover1
import Derived.Test.YtcefcglonooelaaGreatDoorB01
import Derived.Test.YtcefcglonooelaaGreatDoorB02
import Derived.Test.YtcefcglonooelaaGreatDoorB03
import Derived.Test.YtcefcglonooelaaGreatDoorB04
import Derived.Test.YtcefcglonooelaaGreatDoorB05
import Derived.Test.YtcefcglonooelaaGreatDoorB06
import Derived.Test.YtcefcglonooelaaGreatDoorB07
import Derived.Test.YtcefcglonooelaaGreatDoorB08
import Derived.Test.YtcefcglonooelaaGreatDoorB09
import Derived.Test.YtcefcglonooelaaGreatDoorB10
import Derived.Test.YtcefcglonooelaaGreatDoorB11
import Derived.Test.YtcefcglonooelaaGreatDoorB12
import Derived.Test.YtcefcglonooelaaGreatDoorB13
import Derived.Test.YtcefcglonooelaaGreatDoorB14
import Derived.Test.YtcefcglonooelaaGreatDoorB15
import Derived.Test.YtcefcglonooelaaGreatDoorB16
import Derived.Test.YtcefcglonooelaaGreatDoorB17
import Derived.Test.YtcefcglonooelaaGreatDoorB18
import Derived.Test.YtcefcglonooelaaGreatDoorB19
import Derived.Test.YtcefcglonooelaaGreatDoorB20
import Derived.Test.YtcefcglonooelaaGreatDoorB21
import Derived.Test.YtcefcglonooelaaGreatDoorB22
import Derived.Test.YtcefcglonooelaaGreatDoorB23
import Derived.Test.YtcefcglonooelaaGreatDoorB24
import Derived.Test.YtcefcglonooelaaGreatDoorB25
import Derived.Test.YtcefcglonooelaaGreatDoorB26
import Derived.Test.YtcefcglonooelaaGreatDoorB27
import Derived.Test.YtcefcglonooelaaGreatDoorB28
import Derived.Test.YtcefcglonooelaaGreatDoorB29
import Derived.Test.YtcefcglonooelaaGreatDoorB30
import Derived.Test.YtcefcglonooelaaGreatDoorB31
import Derived.Test.YtcefcglonooelaaGreatDoorB32
import Derived.Test.YtcefcglonooelaaGreatDoorB33
import Derived.Test.YtcefcglonooelaaGreatDoorB34
import Derived.Test.YtcefcglonooelaaGreatDoorB35
import Derived.Test.YtcefcglonooelaaGreatDoorB36
import Derived.Test.YtcefcglonooelaaGreatDoorB37
import Derived.Test.YtcefcglonooelaaGreatDoorB38
import Derived.Test.YtcefcglonooelaaGreatDoorB39
import Derived.Test.YtcefcglonooelaaGreatDoorB40
import Derived.Test.YtcefcglonooelaaGreatDoorB41
import Derived.Test.YtcefcglonooelaaGreatDoorB42
import Derived.Test.YtcefcglonooelaaGreatDoorB43
import Derived.Test.YtcefcglonooelaaGreatDoorB44
import Derived.Test.YtcefcglonooelaaGreatDoorY01
import Derived.Test.YtcefcglonooelaaGreatDoorF01
import Derived.Test.YtcefcglonooelaaGreatDoorF02
namespace Go.Proofs.YtcefcglonooelaaGreatDoor
open Go.RowKit

set_option linter.unusedVariables false


set_option maxRecDepth 100000 in
set_option maxHeartbeats 6400000 in
theorem specSamePlains_any (v v' : Value) (aks bks : List Pk) (w : World) (ra : ReadsK w.heap.size w v aks) (rb : ReadsK w.heap.size w v' bks) :
    Calls Tryz.prog 16 #[v, v'] w fun e w' => e = .returned (.bool (samePlains (aks.map Pk.pv) (bks.map Pk.pv))) ∧ Below w.heap.size w w' := by
  have RM : Hid _ := ra.maps
  have RM' : Hid _ := rb.maps
  obtain ⟨o1, cap1, rfl, m1, c1, -⟩ := ra.row
  obtain ⟨o2, cap2, rfl, m2, c2, -⟩ := rb.row
  have C1 : Hid _ := five_cellsK c1
  have C2 : Hid _ := five_cellsK c2
  unfold maxLen at m1 m2
  clear c1 c2 ra rb
  by_cases hlen : aks.length = bks.length
  · have HL : Hid (bks.length = aks.length) := hlen.symm
    rw [← hlen]
    clear hlen
    obtain ⟨ps, hps⟩ : ∃ ps, aks.map Pk.pv = ps := ⟨_, rfl⟩
    obtain ⟨bs, hbs⟩ : ∃ bs, bks.map Pk.pv = bs := ⟨_, rfl⟩
    have HA : Hid (ps.length = aks.length ∧ ∀ (i : Nat) (h1 : i < aks.length) (h2 : i < ps.length), ps[i] = aks[i].pv) := by subst hps; exact ⟨by simp, fun i h1 h2 => by simp⟩
    have HB : Hid (bs.length = bks.length ∧ ∀ (i : Nat) (h1 : i < bks.length) (h2 : i < bs.length), bs[i] = bks[i].pv) := by subst hbs; exact ⟨by simp, fun i h1 h2 => by simp⟩
    rw [hps, hbs]
    clear hps hbs
    go_enter Tryz.func16, Tryz.ntmps16
    go_wp2_with fail
    go_loopw [5] (fun i wr => ∃ q : Nat, q ≤ aks.length ∧ i = .int .i64 q ∧ (∀ j (h1 : j < ps.length) (h2 : j < bs.length), j < q → ps[j].same bs[j] = true) ∧ Below w.heap.size w wr) (fun i _ => aks.length - (intOf i).toNat)
    case atStart => exact ⟨0, Nat.zero_le _, rfl, fun j _ _ h => by omega, Below.refl _ _⟩
    case round =>
      obtain ⟨q, hq, rfl, hall, hb⟩ := hrel
      have HALL : Hid _ := hall
      clear hall
      by_cases hlt : q < aks.length
      · have hlt2 : q < bks.length := by have := HL.out; omega
        obtain ⟨g1, of1, rfl, q1, a0, a1, a2, a3, a4⟩ := C1.out q hlt
        obtain ⟨g2, of2, rfl, q2, b0, b1, b2, b3, b4⟩ := C2.out q hlt2
        have rm := ((RM.out aks[q] (List.getElem_mem hlt)).below hb).mono hb.size
        have rm' := ((RM'.out bks[q] (List.getElem_mem hlt2)).below hb).mono hb.size
        have hqa : q < ps.length := by have := HA.out.1; omega
        have hqb : q < bs.length := by have := HB.out.1; omega
        have hat := HA.out.2 q hlt hqa
        have hbt := HB.out.2 q hlt2 hqb
        obtain ⟨x, hx⟩ : ∃ x, aks[q] = x := ⟨_, rfl⟩
        obtain ⟨y, hy⟩ : ∃ y, bks[q] = y := ⟨_, rfl⟩
        rw [hx] at a0 a1 a2 a3 a4 rm hat
        rw [hy] at b0 b1 b2 b3 b4 rm' hbt
        clear hx hy
        obtain ⟨nm, sz, m, rs, fx, ep⟩ := x
        obtain ⟨nm', sz', m', rs', fx', ep'⟩ := y
        simp only at a0 a1 a2 a3 a4 rm b0 b1 b2 b3 b4 rm'
        obtain ⟨oa, ca, hma⟩ := rm.form
        subst hma
        obtain ⟨ob, cb, hmb⟩ := rm'.form
        subst hmb
        have HSM : Hid (ps[q].same bs[q] = sameOf nm nm' sz sz' fx fx' ep ep' rs rs') := by rw [Hid, hat, hbt]; rfl
        clear hat hbt
        replace a0 := (hb.cell (p := ⟨g1, of1 + q * 5, none⟩) q1).trans a0
        replace a1 := (hb.cell (p := ⟨g1, of1 + q * 5 + 1, none⟩) q1).trans a1
        replace a2 := (hb.cell (p := ⟨g1, of1 + q * 5 + 2, none⟩) q1).trans a2
        replace a3 := (hb.cell (p := ⟨g1, of1 + q * 5 + 3, none⟩) q1).trans a3
        replace a4 := (hb.cell (p := ⟨g1, of1 + q * 5 + 4, none⟩) q1).trans a4
        replace b0 := (hb.cell (p := ⟨g2, of2 + q * 5, none⟩) q2).trans b0
        replace b1 := (hb.cell (p := ⟨g2, of2 + q * 5 + 1, none⟩) q2).trans b1
        replace b2 := (hb.cell (p := ⟨g2, of2 + q * 5 + 2, none⟩) q2).trans b2
        replace b3 := (hb.cell (p := ⟨g2, of2 + q * 5 + 3, none⟩) q2).trans b3
        replace b4 := (hb.cell (p := ⟨g2, of2 + q * 5 + 4, none⟩) q2).trans b4
        obtain ⟨WA, hWA, -, dA, -⟩ := box1 wr #[.string nm, .int .i64 sz, .slice oa rs.length ca, .bool fx, .int .i64 ep] 51
        have l2 : g2 < wr.heap.size := Nat.lt_of_lt_of_le q2 hb.size
        replace b0 := (dA.cell (p := ⟨g2, of2 + q * 5, none⟩) l2).trans b0
        replace b1 := (dA.cell (p := ⟨g2, of2 + q * 5 + 1, none⟩) l2).trans b1
        replace b2 := (dA.cell (p := ⟨g2, of2 + q * 5 + 2, none⟩) l2).trans b2
        replace b3 := (dA.cell (p := ⟨g2, of2 + q * 5 + 3, none⟩) l2).trans b3
        replace b4 := (dA.cell (p := ⟨g2, of2 + q * 5 + 4, none⟩) l2).trans b4
        obtain ⟨W2, hW2, kA, kB, d2, z2⟩ := box2 wr #[.string nm, .int .i64 sz, .slice oa rs.length ca, .bool fx, .int .i64 ep] #[.string nm', .int .i64 sz', .slice ob rs'.length cb, .bool fx', .int .i64 ep'] 51 51
        have RA := (rm.below d2).mono d2.size
        have RB := (rm'.below d2).mono d2.size
        have hb2 := hb.trans (d2.mono hb.size)
        have u0 := at_cell kA 0
        have t0 := at_cell kB 0
        have u1 := at_cell kA 1
        have t1 := at_cell kB 1
        have u2 := at_cell kA 2
        have t2 := at_cell kB 2
        have u3 := at_cell kA 3
        have t3 := at_cell kB 3
        have u4 := at_cell kA 4
        have t4 := at_cell kB 4
        have i0 : (0 : Int) ≤ (q : Int) := by omega
        have i1 : (q : Int) < (aks.length : Int) := by omega
        have D2 : Hid _ := And.intro RA (And.intro RB hb2)
        clear rm rm' kA kB d2 z2 RA RB hb2 dA
        subst hWA hW2
        clear C1 C2 RM RM'
        cases h1 : (nm.toList == nm'.toList)
        · have n1 : (nm.toList != nm'.toList) = true := by simp [bne, h1]
          have HV : Hid (samePlains ps bs = false) := same_no q hqa hqb (by rw [HSM.out]; simp [sameOf, h1])
          go_wp2_with fail
          go_ret
          exact ⟨ret_bool HV.out.symm, D2.out.2.2⟩
        have n1 : (nm.toList != nm'.toList) = false := by simp [bne, h1]
        cases h2 : (sz == sz')
        · have n2 : (sz != sz') = true := by simp [bne, h2]
          have HV : Hid (samePlains ps bs = false) := same_no q hqa hqb (by rw [HSM.out]; simp [sameOf, h1, h2])
          go_wp2_with fail
          go_ret
          exact ⟨ret_bool HV.out.symm, D2.out.2.2⟩
        have n2 : (sz != sz') = false := by simp [bne, h2]
        cases h3 : (fx == fx')
        · have n3 : (fx != fx') = true := by simp [bne, h3]
          have HV : Hid (samePlains ps bs = false) := same_no q hqa hqb (by rw [HSM.out]; simp [sameOf, h1, h2, h3])
          go_wp2_with fail
          go_ret
          exact ⟨ret_bool HV.out.symm, D2.out.2.2⟩
        have n3 : (fx != fx') = false := by simp [bne, h3]
        cases h4 : (ep == ep')
        · have n4 : (ep != ep') = true := by simp [bne, h4]
          have HV : Hid (samePlains ps bs = false) := same_no q hqa hqb (by rw [HSM.out]; simp [sameOf, h1, h2, h3, h4])
          go_wp2_with fail
          go_ret
          exact ⟨ret_bool HV.out.symm, D2.out.2.2⟩
        have n4 : (ep != ep') = false := by simp [bne, h4]
        have HH : Hid (sameOf nm nm' sz sz' fx fx' ep ep' rs rs' = decide (rs = rs')) := by simp [Hid, sameOf, h1, h2, h3, h4]
        go_wp2_with fail
        refine (l1SameK_any _ _ rs rs' _ D2.out.1 D2.out.2.1).mono ?_
        rintro e w3 ⟨rfl, b3⟩
        have hb3 := D2.out.2.2.trans (b3.mono D2.out.2.2.size)
        cases h5 : decide (rs = rs')
        · have HV : Hid (samePlains ps bs = false) := same_no q hqa hqb (by rw [HSM.out, HH.out]; exact h5)
          clear a0 a1 a2 a3 a4 b0 b1 b2 b3 b4 u0 u1 u2 u3 u4 t0 t1 t2 t3 t4
          go_wp2_with fail
          go_ret
          exact ⟨ret_bool HV.out.symm, hb3⟩
        · have HV : Hid (ps[q].same bs[q] = true) := by rw [Hid, HSM.out, HH.out]; exact h5
          clear a0 a1 a2 a3 a4 b0 b1 b2 b3 b4 u0 u1 u2 u3 u4 t0 t1 t2 t3 t4
          go_wp2_with fail
          go_roundw
          case rel => exact ⟨q + 1, by omega, by go_num, (fun j h1 h2 hj => by
            rcases Nat.lt_or_ge j q with y | y
            · exact HALL.out j h1 h2 y
            · obtain rfl : j = q := by omega
              exact HV.out), hb3⟩
          case measure => simp [intOf]; omega
      · have HV : Hid (samePlains ps bs = true) := same_yes (by have := HA.out.1; have := HB.out.1; have := HL.out; omega) (fun i h1 h2 => HALL.out i h1 h2 (by have := HA.out.1; omega))
        have i1 : ¬ (q : Int) < (aks.length : Int) := by omega
        clear HALL C1 C2
        go_wp2_with fail
        go_ret
        exact ⟨ret_bool HV.out.symm, hb⟩
  · have hn : ((aks.length : Int) != (bks.length : Int)) = true := by rw [bne_iff_ne]; omega
    have HX : Hid (samePlains (aks.map Pk.pv) (bks.map Pk.pv) = false) := same_len (by simpa using hlen)
    clear hlen
    go_enter Tryz.func16, Tryz.ntmps16
    go_wp2_with fail
    go_ret
    exact ⟨ret_bool HX.out.symm, Below.refl _ _⟩
end Go.Proofs.YtcefcglonooelaaGreatDoor

