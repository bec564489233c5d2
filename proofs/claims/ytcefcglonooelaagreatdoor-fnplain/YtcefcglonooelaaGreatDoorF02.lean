/-
  What else is wanted.
-/
import Derived.WalkKit
import Derived.Below
import Derived.Laws.AppendOwn
import Derived.Deep.QuietTactic
import Derived.BigQuiet
import Derived.Test.YtcefcglonooelaaGreatDoorChecked
import Derived.Laws.OwnMore
import Derived.OwnWalk
import Derived.Laws.MakeOwn
import Derived.WalkSpells
import Derived.Laws.Bits128
import Derived.IntWalk
import Derived.Handy
import Derived.Laws.IdiomStrings
import Derived.Deep.RegionLaw
import Derived.Deep.RegionHeld3
import Derived.Deep.DeepCutAuto
import Derived.Laws.Cover1
import Derived.Deep.WholeRow
import Derived.Laws.CopyOwn
import Derived.ChangeKeysEq
import Derived.Laws.StructEq
import Derived.Test.YtcefcglonooelaaGreatDoorB01
import Derived.Test.YtcefcglonooelaaGreatDoorB02
import Derived.Test.YtcefcglonooelaaGreatDoorB03
import Derived.Test.YtcefcglonooelaaGreatDoorB04
import Derived.Test.YtcefcglonooelaaGreatDoorB05
import Derived.Test.YtcefcglonooelaaGreatDoorB06
import Derived.Test.YtcefcglonooelaaGreatDoorB07
import Derived.Test.YtcefcglonooelaaGreatDoorB08
import Derived.Test.YtcefcglonooelaaGreatDoorB09
import Derived.Test.YtcefcglonooelaaGreatDoorB10
import Derived.Test.YtcefcglonooelaaGreatDoorB11
import Derived.Test.YtcefcglonooelaaGreatDoorB12
import Derived.Test.YtcefcglonooelaaGreatDoorB13
import Derived.Test.YtcefcglonooelaaGreatDoorB14
import Derived.Test.YtcefcglonooelaaGreatDoorB15
import Derived.Test.YtcefcglonooelaaGreatDoorB16
import Derived.Test.YtcefcglonooelaaGreatDoorB17
import Derived.Test.YtcefcglonooelaaGreatDoorB18
import Derived.Test.YtcefcglonooelaaGreatDoorB19
import Derived.Test.YtcefcglonooelaaGreatDoorB20
import Derived.Test.YtcefcglonooelaaGreatDoorB21
import Derived.Test.YtcefcglonooelaaGreatDoorB22
import Derived.Test.YtcefcglonooelaaGreatDoorB23
import Derived.Test.YtcefcglonooelaaGreatDoorB24
import Derived.Test.YtcefcglonooelaaGreatDoorB25
import Derived.Test.YtcefcglonooelaaGreatDoorB26
import Derived.Test.YtcefcglonooelaaGreatDoorB27
import Derived.Test.YtcefcglonooelaaGreatDoorB28
import Derived.Test.YtcefcglonooelaaGreatDoorB29
import Derived.Test.YtcefcglonooelaaGreatDoorB30
import Derived.Test.YtcefcglonooelaaGreatDoorB31
import Derived.Test.YtcefcglonooelaaGreatDoorB32
import Derived.Test.YtcefcglonooelaaGreatDoorB33
import Derived.Test.YtcefcglonooelaaGreatDoorB34
import Derived.Test.YtcefcglonooelaaGreatDoorB35
import Derived.Test.YtcefcglonooelaaGreatDoorB36
import Derived.Test.YtcefcglonooelaaGreatDoorB37
import Derived.Test.YtcefcglonooelaaGreatDoorB38
import Derived.Test.YtcefcglonooelaaGreatDoorB39
import Derived.Test.YtcefcglonooelaaGreatDoorB40
import Derived.Test.YtcefcglonooelaaGreatDoorB41
import Derived.Test.YtcefcglonooelaaGreatDoorB42
import Derived.Test.YtcefcglonooelaaGreatDoorB43
import Derived.Test.YtcefcglonooelaaGreatDoorB44
import Derived.Test.YtcefcglonooelaaGreatDoorY01
import Derived.Test.YtcefcglonooelaaGreatDoorF01
namespace Go.Proofs.YtcefcglonooelaaGreatDoor
open Go.RowKit

set_option linter.unusedVariables false


set_option maxRecDepth 100000 in
set_option maxHeartbeats 6400000 in
theorem likePlains_any (v v' : Value) (aks bks : List Pk) (w : World) (ra : ReadsK w.heap.size w v aks) (rb : ReadsK w.heap.size w v' bks) :
    Calls Tryz.prog 12 #[v, v'] w fun e w' => e = .returned (.bool (samePlains (aks.map Pk.pv) (bks.map Pk.pv))) ∧ Below w.heap.size w w' := by
  have RM : Hid _ := ra.maps
  have RM' : Hid _ := rb.maps
  obtain ⟨o1, cap1, rfl, m1, c1, -⟩ := ra.row
  obtain ⟨o2, cap2, rfl, m2, c2, -⟩ := rb.row
  have C1 : Hid _ := five_cellsK c1
  have C2 : Hid _ := five_cellsK c2
  unfold maxLen at m1 m2
  clear c1 c2 ra rb
  by_cases hlen : aks.length = bks.length
  · have HL : Hid (bks.length = aks.length) := hlen.symm
    rw [← hlen]
    clear hlen
    obtain ⟨ps, hps⟩ : ∃ ps, aks.map Pk.pv = ps := ⟨_, rfl⟩
    obtain ⟨bs, hbs⟩ : ∃ bs, bks.map Pk.pv = bs := ⟨_, rfl⟩
    have HA : Hid (ps.length = aks.length ∧ ∀ (i : Nat) (h1 : i < aks.length) (h2 : i < ps.length), ps[i] = aks[i].pv) := by subst hps; exact ⟨by simp, fun i h1 h2 => by simp⟩
    have HB : Hid (bs.length = bks.length ∧ ∀ (i : Nat) (h1 : i < bks.length) (h2 : i < bs.length), bs[i] = bks[i].pv) := by subst hbs; exact ⟨by simp, fun i h1 h2 => by simp⟩
    rw [hps, hbs]
    clear hps hbs
    go_enter Tryz.func12, Tryz.ntmps12
    go_wp2_with fail
    go_loopw [5] (fun i wr => ∃ q : Nat, q ≤ aks.length ∧ i = .int .i64 q ∧ (∀ j (h1 : j < ps.length) (h2 : j < bs.length), j < q → ps[j].same bs[j] = true) ∧ Below w.heap.size w wr) (fun i _ => aks.length - (intOf i).toNat)
    case atStart => exact ⟨0, Nat.zero_le _, rfl, fun j _ _ h => by omega, Below.refl _ _⟩
    case round =>
      obtain ⟨q, hq, rfl, hall, hb⟩ := hrel
      have HALL : Hid _ := hall
      clear hall
      by_cases hlt : q < aks.length
      · have hlt2 : q < bks.length := by have := HL.out; omega
        obtain ⟨g1, of1, rfl, q1, a0, a1, a2, a3, a4⟩ := C1.out q hlt
        obtain ⟨g2, of2, rfl, q2, b0, b1, b2, b3, b4⟩ := C2.out q hlt2
        have rm := ((RM.out aks[q] (List.getElem_mem hlt)).below hb).mono hb.size
        have rm' := ((RM'.out bks[q] (List.getElem_mem hlt2)).below hb).mono hb.size
        have hqa : q < ps.length := by have := HA.out.1; omega
        have hqb : q < bs.length := by have := HB.out.1; omega
        have hat := HA.out.2 q hlt hqa
        have hbt := HB.out.2 q hlt2 hqb
        obtain ⟨x, hx⟩ : ∃ x, aks[q] = x := ⟨_, rfl⟩
        obtain ⟨y, hy⟩ : ∃ y, bks[q] = y := ⟨_, rfl⟩
        rw [hx] at a0 a1 a2 a3 a4 rm hat
        rw [hy] at b0 b1 b2 b3 b4 rm' hbt
        clear hx hy
        obtain ⟨nm, sz, m, rs, fx, ep⟩ := x
        obtain ⟨nm', sz', m', rs', fx', ep'⟩ := y
        simp only at a0 a1 a2 a3 a4 rm b0 b1 b2 b3 b4 rm'
        obtain ⟨oa, ca, hma⟩ := rm.form
        subst hma
        obtain ⟨ob, cb, hmb⟩ := rm'.form
        subst hmb
        have HSM : Hid (ps[q].same bs[q] = sameOf nm nm' sz sz' fx fx' ep ep' rs rs') := by rw [Hid, hat, hbt]; rfl
        clear hat hbt
        replace a0 := (hb.cell (p := ⟨g1, of1 + q * 5, none⟩) q1).trans a0
        replace a1 := (hb.cell (p := ⟨g1, of1 + q * 5 + 1, none⟩) q1).trans a1
        replace a2 := (hb.cell (p := ⟨g1, of1 + q * 5 + 2, none⟩) q1).trans a2
        replace a3 := (hb.cell (p := ⟨g1, of1 + q * 5 + 3, none⟩) q1).trans a3
        replace a4 := (hb.cell (p := ⟨g1, of1 + q * 5 + 4, none⟩) q1).trans a4
        replace b0 := (hb.cell (p := ⟨g2, of2 + q * 5, none⟩) q2).trans b0
        replace b1 := (hb.cell (p := ⟨g2, of2 + q * 5 + 1, none⟩) q2).trans b1
        replace b2 := (hb.cell (p := ⟨g2, of2 + q * 5 + 2, none⟩) q2).trans b2
        replace b3 := (hb.cell (p := ⟨g2, of2 + q * 5 + 3, none⟩) q2).trans b3
        replace b4 := (hb.cell (p := ⟨g2, of2 + q * 5 + 4, none⟩) q2).trans b4
        obtain ⟨WA, hWA, -, dA, -⟩ := box1 wr #[.string nm, .int .i64 sz, .slice oa rs.length ca, .bool fx, .int .i64 ep] 51
        have l2 : g2 < wr.heap.size := Nat.lt_of_lt_of_le q2 hb.size
        replace b0 := (dA.cell (p := ⟨g2, of2 + q * 5, none⟩) l2).trans b0
        replace b1 := (dA.cell (p := ⟨g2, of2 + q * 5 + 1, none⟩) l2).trans b1
        replace b2 := (dA.cell (p := ⟨g2, of2 + q * 5 + 2, none⟩) l2).trans b2
        replace b3 := (dA.cell (p := ⟨g2, of2 + q * 5 + 3, none⟩) l2).trans b3
        replace b4 := (dA.cell (p := ⟨g2, of2 + q * 5 + 4, none⟩) l2).trans b4
        obtain ⟨W2, hW2, kA, kB, d2, z2⟩ := box2 wr #[.string nm, .int .i64 sz, .slice oa rs.length ca, .bool fx, .int .i64 ep] #[.string nm', .int .i64 sz', .slice ob rs'.length cb, .bool fx', .int .i64 ep'] 51 51
        have RA := readsK_to ((rm.below d2).mono d2.size)
        have RB := readsK_to ((rm'.below d2).mono d2.size)
        have hb2 := hb.trans (d2.mono hb.size)
        have u0 := at_cell kA 0
        have t0 := at_cell kB 0
        have u1 := at_cell kA 1
        have t1 := at_cell kB 1
        have u2 := at_cell kA 2
        have t2 := at_cell kB 2
        have u3 := at_cell kA 3
        have t3 := at_cell kB 3
        have u4 := at_cell kA 4
        have t4 := at_cell kB 4
        have i0 : (0 : Int) ≤ (q : Int) := by omega
        have i1 : (q : Int) < (aks.length : Int) := by omega
        have D2 : Hid _ := And.intro RA (And.intro RB (And.intro hb2 (And.intro kA kB)))
        clear rm rm' kA kB d2 z2 RA RB hb2 dA
        subst hWA hW2
        clear C1 C2 RM RM'
        cases h1 : (nm.toList == nm'.toList)
        · have n1 : (nm.toList != nm'.toList) = true := by simp [bne, h1]
          have HV : Hid (samePlains ps bs = false) := same_no q hqa hqb (by rw [HSM.out]; simp [sameOf, h1])
          go_wp2_with fail
          go_ret
          exact ⟨ret_bool HV.out.symm, D2.out.2.2.1⟩
        have n1 : (nm.toList != nm'.toList) = false := by simp [bne, h1]
        cases h2 : (sz == sz')
        · have n2 : (sz != sz') = true := by simp [bne, h2]
          have HV : Hid (samePlains ps bs = false) := same_no q hqa hqb (by rw [HSM.out]; simp [sameOf, h1, h2])
          go_wp2_with fail
          go_ret
          exact ⟨ret_bool HV.out.symm, D2.out.2.2.1⟩
        have n2 : (sz != sz') = false := by simp [bne, h2]
        go_wp2_with fail
        refine (likeInts_any _ _ rs rs' _ D2.out.1 D2.out.2.1).mono ?_
        rintro e w3 ⟨rfl, b3⟩
        have hb3 := D2.out.2.2.1.trans (b3.mono D2.out.2.2.1.size)
        have kA3 := (b3.block _ (heap_lt D2.out.2.2.2.1)).trans D2.out.2.2.2.1
        have kB3 := (b3.block _ (heap_lt D2.out.2.2.2.2)).trans D2.out.2.2.2.2
        have x3 := at_cell kA3 3
        have x4 := at_cell kA3 4
        have y3 := at_cell kB3 3
        have y4 := at_cell kB3 4
        clear a0 a1 a2 a3 a4 b0 b1 b2 b4 u0 u1 u2 u3 u4 t0 t1 t2 t3 t4 kA3 kB3 D2
        cases h5 : decide (rs = rs')
        · have HV : Hid (samePlains ps bs = false) := same_no q hqa hqb (by rw [HSM.out]; simp [sameOf, h5])
          clear h5
          go_wp2_with fail
          go_ret
          exact ⟨ret_bool HV.out.symm, hb3⟩
        cases h3 : (fx == fx')
        · have n3 : (fx != fx') = true := by simp [bne, h3]
          have HV : Hid (samePlains ps bs = false) := same_no q hqa hqb (by rw [HSM.out]; simp [sameOf, h3])
          clear h5
          go_wp2_with fail
          go_ret
          exact ⟨ret_bool HV.out.symm, hb3⟩
        have n3 : (fx != fx') = false := by simp [bne, h3]
        cases h4 : (ep == ep')
        · have n4 : (ep != ep') = true := by simp [bne, h4]
          have HV : Hid (samePlains ps bs = false) := same_no q hqa hqb (by rw [HSM.out]; simp [sameOf, h4])
          clear h5
          go_wp2_with fail
          go_ret
          exact ⟨ret_bool HV.out.symm, hb3⟩
        have n4 : (ep != ep') = false := by simp [bne, h4]
        have HV : Hid (ps[q].same bs[q] = true) := by rw [Hid, HSM.out]; simp [sameOf, h1, h2, h3, h4, h5]
        clear h5
        go_wp2_with fail
        go_roundw
        case rel => exact ⟨q + 1, by omega, by go_num, (fun j h1 h2 hj => by
          rcases Nat.lt_or_ge j q with y | y
          · exact HALL.out j h1 h2 y
          · obtain rfl : j = q := by omega
            exact HV.out), hb3⟩
        case measure => simp [intOf]; omega
      · have HV : Hid (samePlains ps bs = true) := same_yes (by have := HA.out.1; have := HB.out.1; have := HL.out; omega) (fun i h1 h2 => HALL.out i h1 h2 (by have := HA.out.1; omega))
        have i1 : ¬ (q : Int) < (aks.length : Int) := by omega
        clear HALL C1 C2
        go_wp2_with fail
        go_ret
        exact ⟨ret_bool HV.out.symm, hb⟩
  · have hn : ((aks.length : Int) != (bks.length : Int)) = true := by rw [bne_iff_ne]; omega
    have HX : Hid (samePlains (aks.map Pk.pv) (bks.map Pk.pv) = false) := same_len (by simpa using hlen)
    clear hlen
    go_enter Tryz.func12, Tryz.ntmps12
    go_wp2_with fail
    go_ret
    exact ⟨ret_bool HX.out.symm, Below.refl _ _⟩
end Go.Proofs.YtcefcglonooelaaGreatDoor

namespace Go.Proofs.YtcefcglonooelaaGreatDoor
open Go.RowKit

set_option linter.unusedVariables false


theorem eqItems_ints (d : Nat) (xs ys : List Int) (w : World) : ∀ is : List Nat, (∀ i ∈ is, i < xs.length ∧ i < ys.length) →
    (Op.eqItems (d + 1) 2 1 (xs.map (Value.int .i64)).toArray (ys.map (Value.int .i64)).toArray is).run Tryz.prog w = .ok (is.all fun i => xs[i]?.getD 0 == ys[i]?.getD 0) w
  | [], _ => by simp [Op.eqItems]
  | i :: is, h => by
    have he : Tryz.prog.plainKey 2 = true := by kernel_rfl
    obtain ⟨h1, h2⟩ := h i (by simp)
    have p1 := run_part_plain w he (xs := (xs.map (Value.int .i64)).toArray) (off := i * 1) (v := .int .i64 xs[i]) (by simp [h1])
    have p2 := run_part_plain w he (xs := (ys.map (Value.int .i64)).toArray) (off := i * 1) (v := .int .i64 ys[i]) (by simp [h2])
    have p3 := run_equalIn_int w d 2 .i64 .i64 xs[i] ys[i] Tryz.underlying2
    have ih := eqItems_ints d xs ys w is (fun j hj => h j (by simp [hj]))
    simp only [Op.eqItems, Sem.run_bind, p1, p2, p3, Result.andThen_ok]
    cases hb : (xs[i] == ys[i])
    · simp [h1, h2, hb]
    · rw [List.all_cons, show (xs[i]?.getD 0 == ys[i]?.getD 0) = true by simp only [h1, h2, List.getElem?_eq_getElem, Option.getD_some]; exact hb, Bool.true_and]
      simpa using ih

theorem all_at (xs ys : List Int) (n : Nat) (h1 : xs.length = n) (h2 : ys.length = n) : ((List.range n).all fun i => xs[i]?.getD 0 == ys[i]?.getD 0) = decide (xs = ys) := by
  by_cases h : xs = ys
  · subst h; simp
  · rw [decide_eq_false h, List.all_eq_false]
    have : ∃ i, i < n ∧ xs[i]? ≠ ys[i]? := Classical.byContradiction fun hc => by
      refine h (List.ext_getElem? fun i => ?_)
      by_cases hi : i < n
      · exact Classical.byContradiction fun hh => hc ⟨i, hi, hh⟩
      · rw [List.getElem?_eq_none (by omega), List.getElem?_eq_none (by omega)]
    obtain ⟨i, hi, hne⟩ := this
    refine ⟨i, List.mem_range.2 hi, ?_⟩
    rw [List.getElem?_eq_getElem (by omega), List.getElem?_eq_getElem (by omega)] at hne ⊢
    simpa using hne

theorem blk_equal (xs ys : List Int) (w : World) : (Op.equalIn 10000 169 (.agg (blk xs)) (.agg (blk ys))).run Tryz.prog w = .ok (decide (blkL xs = blkL ys)) w := by
  obtain ⟨i, hi⟩ : ∃ i, Tryz.prog.info? 2 = some i := Option.isSome_iff_exists.1 (by kernel_rfl)
  have hc : Tryz.prog.cellsOf 2 = 1 := by kernel_rfl
  rw [show (10000 : Nat) = 9998 + 1 + 1 from rfl, run_equalIn_array w (9998 + 1) (blk xs) (blk ys) Tryz.underlying169 hi, hc]
  rw [← all_at (blkL xs) (blkL ys) 16 (blkL_len xs) (blkL_len ys)]
  exact eqItems_ints 9998 (blkL xs) (blkL ys) w (List.range 16) (fun j hj => by rw [blkL_len, blkL_len]; exact ⟨List.mem_range.1 hj, List.mem_range.1 hj⟩)

theorem blk_more {xs ys : List Int} (k : Nat) (hl : xs.length = ys.length) (ht : xs.take k = ys.take k) (h : blkL (xs.drop k) = blkL (ys.drop k)) : xs.take (k + 16) = ys.take (k + 16) := by
  have e : (xs.drop k).take 16 = (ys.drop k).take 16 := by
    unfold blkL at h
    rw [List.length_drop, List.length_drop, hl] at h
    exact List.append_cancel_right h
  rw [List.take_add, List.take_add, ht, e]

theorem blk_cut {w W : World} {o : Option Addr} {xs : List Int} {g off : Nat} (k : Nat) (ho : o = some ⟨g, off, none⟩) (hd : Below w.heap.size w W) (hc : ∀ j u, (xs.map (Value.int .i64))[j]? = some u → ∃ g off, o = some ⟨g, off, none⟩ ∧ g < w.heap.size ∧ w.cell? ⟨g, off + j, none⟩ = some u) : BlkSrc (some ⟨g, off + k, none⟩) W (xs.drop k) := fun j x hj => by
  rw [List.getElem?_drop] at hj
  obtain ⟨g', off', e, hl, hx⟩ := hc (k + j) (.int .i64 x) (by rw [List.getElem?_map, hj]; rfl)
  rw [ho] at e
  cases e
  refine ⟨_, rfl, ?_, Nat.lt_of_lt_of_le hl hd.size⟩
  have e2 : (⟨g, off + k, none⟩ : Addr).add j = ⟨g, off + (k + j), none⟩ := by unfold Addr.add; split <;> simp_all [Nat.add_assoc]
  rw [e2]
  exact (hd.cell (p := ⟨g, off + (k + j), none⟩) hl).trans hx

set_option maxRecDepth 100000 in
set_option maxHeartbeats 3200000 in
theorem sameValues_any (v1 v2 : Value) (xs ys : List Int) (w : World) (hx : xs.length ≤ 1048576) (hy : ys.length ≤ 1048576) (h1 : Reads w.heap.size w v1 (xs.map (Value.int .i64))) (h2 : Reads w.heap.size w v2 (ys.map (Value.int .i64))) :
    Calls Tryz.prog 90 #[v1, v2] w fun e w' => e = .returned (.bool (decide (xs = ys))) ∧ Below w.heap.size w w' := by
  obtain ⟨o1, cap1, rfl, m1, c1, r1⟩ := h1
  obtain ⟨o2, cap2, rfl, m2, c2, r2⟩ := h2
  simp only [List.length_map] at m1 m2 c1 c2 r1 r2 ⊢
  by_cases hlen : xs.length = ys.length
  · rw [← hlen]
    have C1 : Hid (∀ j u, (xs.map (Value.int .i64))[j]? = some u → ∃ g off, o1 = some ⟨g, off, none⟩ ∧ g < w.heap.size ∧ w.cell? ⟨g, off + j, none⟩ = some u) := c1
    have C2 : Hid (∀ j u, (ys.map (Value.int .i64))[j]? = some u → ∃ g off, o2 = some ⟨g, off, none⟩ ∧ g < w.heap.size ∧ w.cell? ⟨g, off + j, none⟩ = some u) := c2
    have HL : Hid (xs.length = ys.length) := hlen
    rw [← hlen] at r2
    have HG : Hid (Tryz.prog.eqGuardType Tryz.prog.depth 169 = false) := Tryz.eqGuardType169
    unfold maxLen at m1
    clear c1 c2 m2 hlen hy
    go_enter Tryz.func90, Tryz.ntmps90
    go_wp2
    go_loopw [5] (fun i wr => ∃ k : Nat, k ≤ xs.length + 16 ∧ i = .int .i64 k ∧ xs.take k = ys.take k ∧ Below w.heap.size w wr) (fun i _ => xs.length + 16 - (intOf i).toNat)
    case atStart => exact ⟨0, Nat.zero_le _, rfl, rfl, Below.refl _ _⟩
    case round =>
      obtain ⟨k, hk, rfl, htk, hb⟩ := hrel
      have HT : Hid (xs.take k = ys.take k) := htk
      clear htk
      by_cases hlt : k < xs.length
      · have hlt2 : k < ys.length := by have := HL.out; omega
        obtain ⟨g1, of1, rfl, q1, -⟩ := C1.out k (.int .i64 xs[k]) (by simp [hlt])
        obtain ⟨g2, of2, rfl, q2, -⟩ := C2.out k (.int .i64 ys[k]) (by simp [hlt2])
        obtain ⟨X, hX⟩ : ∃ X, blk (xs.drop k) = X := ⟨_, rfl⟩
        obtain ⟨Y, hY⟩ : ∃ Y, blk (ys.drop k) = Y := ⟨_, rfl⟩
        obtain ⟨bb, hbb⟩ : ∃ b, decide (blkL (xs.drop k) = blkL (ys.drop k)) = b := ⟨_, rfl⟩
        have HBB : Hid (decide (blkL (xs.drop k) = blkL (ys.drop k)) = bb) := hbb
        have HEQ : ∀ W : World, (Op.equalIn 10000 169 (.agg X) (.agg Y)).run Tryz.prog W = .ok bb W := fun W => by rw [← hX, ← hY, ← hbb]; exact blk_equal _ _ W
        have hne := BelowOf.any wr
        have HA : ∀ z : BelowOf wr, Calls Tryz.prog 137 #[.slice (some ⟨g1, of1 + k, none⟩) (xs.length - k) (cap1 - k)] z.w' fun e w' => e = .returned (.agg X) ∧ Below z.w'.heap.size z.w' w' := fun z => by
          rw [← hX]
          exact blockOf_any _ _ _ (xs.drop k) z.w' (by simp) (by unfold maxLen; omega) (blk_cut k rfl (hb.trans (z.h.mono hb.size)) C1.out)
        have HB : ∀ z : BelowOf wr, Calls Tryz.prog 137 #[.slice (some ⟨g2, of2 + k, none⟩) (xs.length - k) (cap2 - k)] z.w' fun e w' => e = .returned (.agg Y) ∧ Below z.w'.heap.size z.w' w' := fun z => by
          rw [← hY]
          exact blockOf_any _ _ _ (ys.drop k) z.w' (by have := HL.out; simp; omega) (by unfold maxLen; omega) (blk_cut k rfl (hb.trans (z.h.mono hb.size)) C2.out)
        have hg := HG.out
        have n1 : ¬ cap1 = k := by omega
        have n2 : ¬ cap2 = k := by omega
        have n3 : k ≤ xs.length := by omega
        have n4 : k ≤ cap1 := by omega
        have n5 : k ≤ cap2 := by omega
        have i0 : (0 : Int) ≤ (k : Int) := by omega
        have i1 : (k : Int) < (xs.length : Int) := by omega
        have i2 : (k : Int) ≤ (xs.length : Int) := by omega
        clear hX hY hbb C1 C2
        go_wp2_with fail
        refine wp_region_of (by kernel_rfl) (by kernel_rfl) ?_
        repeat (go_big_quiet_step ((first | (go_at_call 137; first | exact calls_of (HA _) | exact calls_of (HB _)) | rfl)))
        refine wpQuiet_nil ?_
        intro w5 hw5
        obtain ⟨⟨wx, cx⟩, hwx⟩ := hw5
        have b5 : Below wr.heap.size wr w5 := by rw [hwx]; exact cx
        have hb5 := hb.trans (b5.mono hb.size)
        clear hwx cx wx hne HA HB HEQ hg
        cases bb
        · have HV : Hid (decide (xs = ys) = false) := by rw [Hid, decide_eq_false_iff_not]; intro e; have h := HBB.out; rw [e] at h; simp at h
          go_wp2_with fail
          go_ret
          exact ⟨ret_bool HV.out.symm, hb5⟩
        · have HV : Hid (xs.take (k + 16) = ys.take (k + 16)) := blk_more k HL.out HT.out (of_decide_eq_true HBB.out)
          go_wp2_with fail
          go_roundw
          case rel => exact ⟨k + 16, by omega, by go_num, HV.out, hb5⟩
          case measure => simp [intOf]; omega
      · have HV : Hid (decide (xs = ys) = true) := by
          rw [Hid, decide_eq_true_eq]
          have h := HT.out
          have := HL.out
          rwa [List.take_of_length_le (by omega), List.take_of_length_le (by omega)] at h
        have i1 : ¬ (k : Int) < (xs.length : Int) := by omega
        clear C1 C2
        go_wp2
        go_ret
        exact ⟨ret_bool HV.out.symm, hb⟩
  · have hn : ((xs.length : Int) != (ys.length : Int)) = true := by rw [bne_iff_ne]; omega
    have HX : Hid (decide (xs = ys) = false) := by rw [Hid, decide_eq_false_iff_not]; intro e; rw [e] at hlen; exact hlen rfl
    unfold maxLen at m1 m2
    clear hlen c1 c2
    go_enter Tryz.func90, Tryz.ntmps90
    go_wp2
    go_ret
    exact ⟨ret_bool HX.out.symm, Below.refl _ _⟩
end Go.Proofs.YtcefcglonooelaaGreatDoor

namespace Go.Proofs.YtcefcglonooelaaGreatDoor
open Go.RowKit

set_option linter.unusedVariables false


set_option maxRecDepth 100000 in
set_option maxHeartbeats 6400000 in
theorem samePlain_any (nm : ByteArray) (sz : Int) (m : Value) (rs : List Int) (fx : Bool) (ep : Int) (nm' : ByteArray) (sz' : Int) (m' : Value) (rs' : List Int) (fx' : Bool) (ep' : Int) (w : World) (hx : rs.length ≤ 1048576) (hy : rs'.length ≤ 1048576) (rm : ReadsR 1 intC w.heap.size w m rs) (rm' : ReadsR 1 intC w.heap.size w m' rs') :
    Calls Tryz.prog 50 #[.agg #[.string nm, .int .i64 sz, m, .bool fx, .int .i64 ep], .agg #[.string nm', .int .i64 sz', m', .bool fx', .int .i64 ep']] w fun e w' => e = .returned (.bool (sameOf nm nm' sz sz' fx fx' ep ep' rs rs')) ∧ Below w.heap.size w w' := by
  obtain ⟨oa, ca, hma⟩ := rm.form
  subst hma
  obtain ⟨ob, cb, hmb⟩ := rm'.form
  subst hmb
  obtain ⟨W2, hW2, kA, kB, d2, z2⟩ := box2 w #[.string nm, .int .i64 sz, .slice oa rs.length ca, .bool fx, .int .i64 ep] #[.string nm', .int .i64 sz', .slice ob rs'.length cb, .bool fx', .int .i64 ep'] 51 51
  have RA := readsK_to ((rm.below d2).mono d2.size)
  have RB := readsK_to ((rm'.below d2).mono d2.size)
  have u0 := at_cell kA 0
  have t0 := at_cell kB 0
  have u1 := at_cell kA 1
  have t1 := at_cell kB 1
  have u2 := at_cell kA 2
  have t2 := at_cell kB 2
  have u3 := at_cell kA 3
  have t3 := at_cell kB 3
  have u4 := at_cell kA 4
  have t4 := at_cell kB 4
  have D2 : Hid _ := And.intro RA (And.intro RB d2)
  clear rm rm' kA kB d2 z2 RA RB
  subst hW2
  cases h1 : (nm.toList == nm'.toList)
  · have n1 : (nm.toList != nm'.toList) = true := by simp [bne, h1]
    have HV : Hid (sameOf nm nm' sz sz' fx fx' ep ep' rs rs' = false) := by simp [Hid, sameOf, h1]
    go_enter Tryz.func50, Tryz.ntmps50
    go_wp2_with fail
    go_ret
    exact ⟨ret_bool HV.out.symm, D2.out.2.2⟩
  have n1 : (nm.toList != nm'.toList) = false := by simp [bne, h1]
  cases h2 : (sz == sz')
  · have n2 : (sz != sz') = true := by simp [bne, h2]
    have HV : Hid (sameOf nm nm' sz sz' fx fx' ep ep' rs rs' = false) := by simp [Hid, sameOf, h1, h2]
    go_enter Tryz.func50, Tryz.ntmps50
    go_wp2_with fail
    go_ret
    exact ⟨ret_bool HV.out.symm, D2.out.2.2⟩
  have n2 : (sz != sz') = false := by simp [bne, h2]
  cases h3 : (fx == fx')
  · have n3 : (fx != fx') = true := by simp [bne, h3]
    have HV : Hid (sameOf nm nm' sz sz' fx fx' ep ep' rs rs' = false) := by simp [Hid, sameOf, h1, h2, h3]
    go_enter Tryz.func50, Tryz.ntmps50
    go_wp2_with fail
    go_ret
    exact ⟨ret_bool HV.out.symm, D2.out.2.2⟩
  have n3 : (fx != fx') = false := by simp [bne, h3]
  cases h4 : (ep == ep')
  · have n4 : (ep != ep') = true := by simp [bne, h4]
    have HV : Hid (sameOf nm nm' sz sz' fx fx' ep ep' rs rs' = false) := by simp [Hid, sameOf, h1, h2, h3, h4]
    go_enter Tryz.func50, Tryz.ntmps50
    go_wp2_with fail
    go_ret
    exact ⟨ret_bool HV.out.symm, D2.out.2.2⟩
  have n4 : (ep != ep') = false := by simp [bne, h4]
  have HH : Hid (sameOf nm nm' sz sz' fx fx' ep ep' rs rs' = decide (rs = rs')) := by simp [Hid, sameOf, h1, h2, h3, h4]
  go_enter Tryz.func50, Tryz.ntmps50
  go_wp2_with fail
  refine (sameValues_any _ _ rs rs' _ hx hy D2.out.1 D2.out.2.1).mono ?_
  rintro e w3 ⟨rfl, b3⟩
  have hb3 := D2.out.2.2.trans (b3.mono D2.out.2.2.size)
  obtain ⟨bb, hbb⟩ : ∃ b, decide (rs = rs') = b := ⟨_, rfl⟩
  have HBB : Hid (decide (rs = rs') = bb) := hbb
  rw [hbb]
  clear hbb u0 u1 u2 u3 u4 t0 t1 t2 t3 t4
  go_wp2_with fail
  go_ret
  exact ⟨ret_bool (HH.out.trans HBB.out).symm, hb3⟩

set_option maxRecDepth 100000 in
set_option maxHeartbeats 6400000 in
theorem equalFunc_any (v v' : Value) (aks bks : List Pk) (w : World) (hra : ∀ b ∈ aks, b.rs.length ≤ 1048576) (hrb : ∀ b ∈ bks, b.rs.length ≤ 1048576) (ra : ReadsK w.heap.size w v aks) (rb : ReadsK w.heap.size w v' bks) :
    Calls Tryz.prog 49 #[v, v', .func (.func 50) #[] #[]] w fun e w' => e = .returned (.bool (samePlains (aks.map Pk.pv) (bks.map Pk.pv))) ∧ Below w.heap.size w w' := by
  have RM : Hid _ := ra.maps
  have RM' : Hid _ := rb.maps
  have RL : Hid _ := hra
  have RL' : Hid _ := hrb
  obtain ⟨o1, cap1, rfl, m1, c1, -⟩ := ra.row
  obtain ⟨o2, cap2, rfl, m2, c2, -⟩ := rb.row
  have C1 : Hid _ := five_cellsK c1
  have C2 : Hid _ := five_cellsK c2
  unfold maxLen at m1 m2
  clear c1 c2 ra rb hra hrb
  by_cases hlen : aks.length = bks.length
  · have HL : Hid (bks.length = aks.length) := hlen.symm
    rw [← hlen]
    clear hlen
    obtain ⟨ps, hps⟩ : ∃ ps, aks.map Pk.pv = ps := ⟨_, rfl⟩
    obtain ⟨bs, hbs⟩ : ∃ bs, bks.map Pk.pv = bs := ⟨_, rfl⟩
    have HA : Hid (ps.length = aks.length ∧ ∀ (i : Nat) (h1 : i < aks.length) (h2 : i < ps.length), ps[i] = aks[i].pv) := by subst hps; exact ⟨by simp, fun i h1 h2 => by simp⟩
    have HB : Hid (bs.length = bks.length ∧ ∀ (i : Nat) (h1 : i < bks.length) (h2 : i < bs.length), bs[i] = bks[i].pv) := by subst hbs; exact ⟨by simp, fun i h1 h2 => by simp⟩
    rw [hps, hbs]
    clear hps hbs
    go_enter Tryz.func49, Tryz.ntmps49
    go_wp2_with fail
    go_loopw [17] (fun i wr => ∃ q : Nat, q ≤ aks.length ∧ i = .int .i64 q ∧ (∀ j (h1 : j < ps.length) (h2 : j < bs.length), j < q → ps[j].same bs[j] = true) ∧ Below w.heap.size w wr) (fun i _ => aks.length - (intOf i).toNat)
    case atStart => exact ⟨0, Nat.zero_le _, rfl, fun j _ _ h => by omega, Below.refl _ _⟩
    case round =>
      obtain ⟨q, hq, rfl, hall, hb⟩ := hrel
      have HALL : Hid _ := hall
      clear hall
      by_cases hlt : q < aks.length
      · have hlt2 : q < bks.length := by have := HL.out; omega
        obtain ⟨g1, of1, rfl, q1, a0, a1, a2, a3, a4⟩ := C1.out q hlt
        obtain ⟨g2, of2, rfl, q2, b0, b1, b2, b3, b4⟩ := C2.out q hlt2
        have rm := ((RM.out aks[q] (List.getElem_mem hlt)).below hb).mono hb.size
        have rm' := ((RM'.out bks[q] (List.getElem_mem hlt2)).below hb).mono hb.size
        have rl := RL.out aks[q] (List.getElem_mem hlt)
        have rl' := RL'.out bks[q] (List.getElem_mem hlt2)
        have hqa : q < ps.length := by have := HA.out.1; omega
        have hqb : q < bs.length := by have := HB.out.1; omega
        have hat := HA.out.2 q hlt hqa
        have hbt := HB.out.2 q hlt2 hqb
        obtain ⟨x, hx⟩ : ∃ x, aks[q] = x := ⟨_, rfl⟩
        obtain ⟨y, hy⟩ : ∃ y, bks[q] = y := ⟨_, rfl⟩
        rw [hx] at a0 a1 a2 a3 a4 rm hat rl
        rw [hy] at b0 b1 b2 b3 b4 rm' hbt rl'
        clear hx hy
        obtain ⟨nm, sz, m, rs, fx, ep⟩ := x
        obtain ⟨nm', sz', m', rs', fx', ep'⟩ := y
        simp only at a0 a1 a2 a3 a4 rm b0 b1 b2 b3 b4 rm' rl rl'
        obtain ⟨oa, ca, hma⟩ := rm.form
        subst hma
        obtain ⟨ob, cb, hmb⟩ := rm'.form
        subst hmb
        have HSM : Hid (ps[q].same bs[q] = sameOf nm nm' sz sz' fx fx' ep ep' rs rs') := by rw [Hid, hat, hbt]; rfl
        clear hat hbt
        replace a0 := (hb.cell (p := ⟨g1, of1 + q * 5, none⟩) q1).trans a0
        replace a1 := (hb.cell (p := ⟨g1, of1 + q * 5 + 1, none⟩) q1).trans a1
        replace a2 := (hb.cell (p := ⟨g1, of1 + q * 5 + 2, none⟩) q1).trans a2
        replace a3 := (hb.cell (p := ⟨g1, of1 + q * 5 + 3, none⟩) q1).trans a3
        replace a4 := (hb.cell (p := ⟨g1, of1 + q * 5 + 4, none⟩) q1).trans a4
        replace b0 := (hb.cell (p := ⟨g2, of2 + q * 5, none⟩) q2).trans b0
        replace b1 := (hb.cell (p := ⟨g2, of2 + q * 5 + 1, none⟩) q2).trans b1
        replace b2 := (hb.cell (p := ⟨g2, of2 + q * 5 + 2, none⟩) q2).trans b2
        replace b3 := (hb.cell (p := ⟨g2, of2 + q * 5 + 3, none⟩) q2).trans b3
        replace b4 := (hb.cell (p := ⟨g2, of2 + q * 5 + 4, none⟩) q2).trans b4
        obtain ⟨WA, hWA, -, dA, -⟩ := box1 wr #[.string nm, .int .i64 sz, .slice oa rs.length ca, .bool fx, .int .i64 ep] 51
        have l2 : g2 < wr.heap.size := Nat.lt_of_lt_of_le q2 hb.size
        replace b0 := (dA.cell (p := ⟨g2, of2 + q * 5, none⟩) l2).trans b0
        replace b1 := (dA.cell (p := ⟨g2, of2 + q * 5 + 1, none⟩) l2).trans b1
        replace b2 := (dA.cell (p := ⟨g2, of2 + q * 5 + 2, none⟩) l2).trans b2
        replace b3 := (dA.cell (p := ⟨g2, of2 + q * 5 + 3, none⟩) l2).trans b3
        replace b4 := (dA.cell (p := ⟨g2, of2 + q * 5 + 4, none⟩) l2).trans b4
        obtain ⟨W2, hW2, kA, kB, d2, z2⟩ := box2 wr #[.string nm, .int .i64 sz, .slice oa rs.length ca, .bool fx, .int .i64 ep] #[.string nm', .int .i64 sz', .slice ob rs'.length cb, .bool fx', .int .i64 ep'] 51 51
        have RA := (rm.below d2).mono d2.size
        have RB := (rm'.below d2).mono d2.size
        have hb2 := hb.trans (d2.mono hb.size)
        have u0 := at_cell kA 0
        have t0 := at_cell kB 0
        have u1 := at_cell kA 1
        have t1 := at_cell kB 1
        have u2 := at_cell kA 2
        have t2 := at_cell kB 2
        have u3 := at_cell kA 3
        have t3 := at_cell kB 3
        have u4 := at_cell kA 4
        have t4 := at_cell kB 4
        have i0 : (0 : Int) ≤ (q : Int) := by omega
        have i1 : (q : Int) < (aks.length : Int) := by omega
        have D2 : Hid _ := And.intro RA (And.intro RB hb2)
        clear rm rm' kA kB d2 z2 RA RB hb2 dA
        subst hWA hW2
        clear C1 C2 RM RM' RL RL'
        go_wp2_with fail
        refine (samePlain_any nm sz _ rs fx ep nm' sz' _ rs' fx' ep' _ rl rl' D2.out.1 D2.out.2.1).mono ?_
        rintro e w3 ⟨rfl, b3⟩
        have hb3 := D2.out.2.2.trans (b3.mono D2.out.2.2.size)
        obtain ⟨bb, hbb⟩ : ∃ b, sameOf nm nm' sz sz' fx fx' ep ep' rs rs' = b := ⟨_, rfl⟩
        have HBB : Hid (sameOf nm nm' sz sz' fx fx' ep ep' rs rs' = bb) := hbb
        rw [hbb]
        clear hbb a0 a1 a2 a3 a4 b0 b1 b2 b4 u0 u1 u2 u3 u4 t0 t1 t2 t3 t4
        cases bb
        · have HV : Hid (samePlains ps bs = false) := same_no q hqa hqb (by rw [HSM.out]; exact HBB.out)
          go_wp2_with fail
          go_ret
          exact ⟨ret_bool HV.out.symm, hb3⟩
        · have HV : Hid (ps[q].same bs[q] = true) := by rw [Hid, HSM.out]; exact HBB.out
          go_wp2_with fail
          go_roundw
          case rel => exact ⟨q + 1, by omega, by go_num, (fun j h1 h2 hj => by
            rcases Nat.lt_or_ge j q with y | y
            · exact HALL.out j h1 h2 y
            · obtain rfl : j = q := by omega
              exact HV.out), hb3⟩
          case measure => simp [intOf]; omega
      · have HV : Hid (samePlains ps bs = true) := same_yes (by have := HA.out.1; have := HB.out.1; have := HL.out; omega) (fun i h1 h2 => HALL.out i h1 h2 (by have := HA.out.1; omega))
        have i1 : ¬ (q : Int) < (aks.length : Int) := by omega
        clear HALL C1 C2
        go_wp2_with fail
        go_ret
        exact ⟨ret_bool HV.out.symm, hb⟩
  · have hn : ((aks.length : Int) != (bks.length : Int)) = true := by rw [bne_iff_ne]; omega
    have HX : Hid (samePlains (aks.map Pk.pv) (bks.map Pk.pv) = false) := same_len (by simpa using hlen)
    clear hlen
    go_enter Tryz.func49, Tryz.ntmps49
    go_wp2_with fail
    go_ret
    exact ⟨ret_bool HX.out.symm, Below.refl _ _⟩

set_option maxHeartbeats 1600000 in
theorem implSamePlains_any (v v' : Value) (aks bks : List Pk) (w : World) (hra : ∀ b ∈ aks, b.rs.length ≤ 1048576) (hrb : ∀ b ∈ bks, b.rs.length ≤ 1048576) (ra : ReadsK w.heap.size w v aks) (rb : ReadsK w.heap.size w v' bks) :
    Calls Tryz.prog 15 #[v, v'] w fun e w' => e = .returned (.bool (samePlains (aks.map Pk.pv) (bks.map Pk.pv))) ∧ Below w.heap.size w w' := by
  obtain ⟨o1, cap1, rfl, -⟩ := id ra.row
  obtain ⟨o2, cap2, rfl, -⟩ := id rb.row
  obtain ⟨bb, hbb⟩ : ∃ b, samePlains (aks.map Pk.pv) (bks.map Pk.pv) = b := ⟨_, rfl⟩
  have HBB : Hid (samePlains (aks.map Pk.pv) (bks.map Pk.pv) = bb) := hbb
  rw [hbb]
  have HRA : Hid (ReadsK w.heap.size w (.slice o1 aks.length cap1) aks ∧ ReadsK w.heap.size w (.slice o2 bks.length cap2) bks) := ⟨ra, rb⟩
  have HRL : Hid ((∀ b ∈ aks, b.rs.length ≤ 1048576) ∧ (∀ b ∈ bks, b.rs.length ≤ 1048576)) := ⟨hra, hrb⟩
  clear hbb ra rb hra hrb
  go_enter Tryz.func15, Tryz.ntmps15
  go_wp2_with fail
  refine (equalFunc_any _ _ aks bks _ HRL.out.1 HRL.out.2 HRA.out.1 HRA.out.2).mono ?_
  rw [HBB.out]
  rintro e w3 ⟨rfl, b3⟩
  go_wp2_with fail
  go_ret
  exact ⟨rfl, b3⟩
end Go.Proofs.YtcefcglonooelaaGreatDoor

