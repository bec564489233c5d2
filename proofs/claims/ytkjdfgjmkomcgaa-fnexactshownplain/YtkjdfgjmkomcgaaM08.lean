/-
  Contracts and plain laws, one chapter behind the other.
-/
import Derived.Deep.DeepCutAuto
import Derived.Laws.Cover1
import Derived.Lib.LazyBuf
import Derived.Test.YtkjdfgjmkomcgaaM02
import Derived.Test.YtkjdfgjmkomcgaaM03
import Derived.Test.YtkjdfgjmkomcgaaM04
import Derived.Test.YtkjdfgjmkomcgaaM05
import Derived.Test.YtkjdfgjmkomcgaaM06
import Derived.Test.YtkjdfgjmkomcgaaM07
namespace Go.Proofs.Ytkjdfgjmkomcgaa
open Go.RowKit

set_option linter.unusedVariables false


/-! ### Plain -/
def rowB (bs : List Pb) : Bool := decide (bs.length ≤ 6) && bs.all Pb.ok && sortedB (bs.map Pb.nm)

theorem shelfOk_parts (s : Sf) : shelfOk s = (poolOk s.cs s.ps && rowB s.bs && countsOk s.cs s.bs) := by simp [shelfOk, rowB, Bool.and_assoc]

theorem row_no_many {bs : List Pb} (h : 6 < bs.length) : rowB bs = false := by
  have h6 : ¬ bs.length ≤ 6 := by omega
  simp [rowB, h6]

theorem row_no_book {bs : List Pb} (i : Nat) (hi : i < bs.length) (h : bs[i].ok = false) : rowB bs = false := by
  have : bs.all Pb.ok = false := by rw [List.all_eq_false]; exact ⟨bs[i], List.getElem_mem hi, by rw [h]; decide⟩
  simp [rowB, this]

theorem row_no_order {bs : List Pb} (i : Nat) (hi : i + 1 < bs.length) (h : ltB bs[i].nm bs[i + 1].nm = false) : rowB bs = false := by
  have : sortedB (bs.map Pb.nm) = false := sorted_not _ i (by simpa using hi) (by simpa using h)
  simp [rowB, this]

theorem row_yes {bs : List Pb} (h2 : bs.length ≤ 6) (h3 : ∀ (i : Nat) (hi : i < bs.length), bs[i].ok = true) (h4 : ∀ (i : Nat) (hi : i + 1 < bs.length), ltB (bs[i]'(by omega)).nm bs[i + 1].nm = true) : rowB bs = true := by
  have h5 : sortedB (bs.map Pb.nm) = true := sorted_adj _ (fun j h1 => by simpa using h4 j (by simpa using h1))
  have h6 : bs.all Pb.ok = true := List.all_eq_true.2 (fun b hb => by obtain ⟨j, hj, rfl⟩ := List.getElem_of_mem hb; exact h3 j hj)
  simp [rowB, h2, h5, h6]

theorem row_parts {bs : List Pb} (h : rowB bs = true) : bs.length ≤ 6 ∧ ∀ (i : Nat) (hi : i < bs.length), bs[i].ok = true := by
  simp only [rowB, Bool.and_eq_true, decide_eq_true_eq] at h
  exact ⟨h.1.1, fun i hi => List.all_eq_true.1 h.1.2 _ (List.getElem_mem hi)⟩

set_option maxRecDepth 100000 in
set_option maxHeartbeats 6400000 in
theorem rowOk_any (vb : Value) (bks : List Bk) (w : World) (hn : ∀ b ∈ bks, b.nm.size ≤ maxLen) (hf : ∀ b ∈ bks, FitRuns b.rs) (rb : ReadsB w.heap.size w vb bks) :
    Calls Try.prog 41 #[vb] w fun e w' => e = .returned (.bool (rowB (bks.map Bk.pb))) ∧ Below w.heap.size w w' := by
  have HN : Hid _ := hn
  have HF : Hid _ := hf
  obtain ⟨ob, cpb, f3, mb, cb, -⟩ := rb.row
  subst f3
  unfold maxLen at mb
  have CB : Hid _ := five_cells cb
  have RM : Hid _ := rb.maps
  clear hn hf rb cb
  obtain ⟨bs, hbs⟩ : ∃ bs, bks.map Bk.pb = bs := ⟨_, rfl⟩
  have hbl : bs.length = bks.length := by rw [← hbs, List.length_map]
  have HAT : Hid (∀ (i : Nat) (h1 : i < bks.length) (h2 : i < bs.length), bs[i] = bks[i].pb) := fun i h1 h2 => by subst hbs; simp
  rw [hbs]
  have HBL : Hid (bs.length = bks.length) := hbl
  clear hbs hbl
  by_cases hmany : 6 < bks.length
  · have HV : Hid (rowB bs = false) := row_no_many (by rw [HBL.out]; exact hmany)
    have h6 : (6 : Int) < (bks.length : Int) := by omega
    go_enter Try.func41, Try.ntmps41
    go_wp2_with fail
    go_ret
    exact ⟨ret_bool HV.out.symm, Below.refl _ _⟩
  have h6 : ¬ (6 : Int) < (bks.length : Int) := by omega
  go_enter Try.func41, Try.ntmps41
  go_wp2_with fail
  go_loopw [10] (fun i wr => ∃ q : Nat, q ≤ bks.length ∧ i = .int .i64 q ∧ (∀ j (hj : j < bs.length), j < q → bs[j].ok = true) ∧ (∀ j (hj : j + 1 < bs.length), j + 1 < q → ltB (bs[j]'(by omega)).nm bs[j + 1].nm = true) ∧ Below w.heap.size w wr) (fun i _ => bks.length - (intOf i).toNat)
  case atStart => exact ⟨0, Nat.zero_le _, rfl, fun j _ h => by omega, fun j _ h => by omega, Below.refl _ _⟩
  case round =>
    obtain ⟨q, hq, rfl, hoks, hsrt, hb⟩ := hrel
    have HOKS : Hid _ := hoks
    have HSRT : Hid _ := hsrt
    clear hoks hsrt
    by_cases hlt : q < bks.length
    · obtain ⟨g, off, rfl, hg, a0, a1, a2, a3, a4⟩ := CB.out q hlt
      have hltb : q < bs.length := by have := HBL.out; omega
      have rm := (RM.out bks[q] (List.getElem_mem hlt)).below hb
      have hnm := HN.out bks[q] (List.getElem_mem hlt)
      have hfr := HF.out bks[q] (List.getElem_mem hlt)
      have hat := HAT.out q hlt hltb
      have HPREV : Hid (∀ q', q = q' + 1 → ∃ (h : q' < bs.length), wr.cell? ⟨g, off + q' * 5, none⟩ = some (.string bs[q'].nm)) := fun q' e => by
        have hl' : q' < bks.length := by omega
        obtain ⟨g', off', e', hg', c0, -⟩ := CB.out q' hl'
        cases e'
        have hl2 : q' < bs.length := by have := HBL.out; omega
        refine ⟨hl2, ?_⟩
        rw [HAT.out q' hl' hl2]
        exact (hb.cell (p := ⟨g, off + q' * 5, none⟩) hg).trans c0
      obtain ⟨x, hx⟩ : ∃ x, bks[q] = x := ⟨_, rfl⟩
      rw [hx] at a0 a1 a2 a3 a4 rm hnm hat hfr
      clear hx
      obtain ⟨nm, sz, m, rs, fx, ep⟩ := x
      simp only at a0 a1 a2 a3 a4 rm hnm hfr
      obtain ⟨o', cap', hm'⟩ := rm.form
      subst hm'
      have lg : g < wr.heap.size := Nat.lt_of_lt_of_le hg hb.size
      replace a0 := (hb.cell (p := ⟨g, off + q * 5, none⟩) hg).trans a0
      replace a1 := (hb.cell (p := ⟨g, off + q * 5 + 1, none⟩) hg).trans a1
      replace a2 := (hb.cell (p := ⟨g, off + q * 5 + 2, none⟩) hg).trans a2
      replace a3 := (hb.cell (p := ⟨g, off + q * 5 + 3, none⟩) hg).trans a3
      replace a4 := (hb.cell (p := ⟨g, off + q * 5 + 4, none⟩) hg).trans a4
      obtain ⟨WB, hWB, kB, dB, zB⟩ := box1 wr #[.string nm, .int .i64 sz, .slice o' rs.length cap', .bool fx, .int .i64 ep] 39
      have HWB : Hid (WB = _) := hWB
      have lB : wr.heap.size < WB.heap.size := heap_lt kB
      have lg2 : g < WB.heap.size := by omega
      have hbB := bw_call hb dB
      obtain ⟨okv, hok⟩ : ∃ x, bookOk nm sz rs ep = x := ⟨_, rfl⟩
      have HBO : Hid (bs[q].ok = okv) := by rw [Hid, hat]; exact hok
      have HBN : Hid (bs[q].nm = nm) := by rw [Hid, hat]; rfl
      have rmB := rm.below ((dB.mono hb.size))
      have HOK : Hid (bookOk nm sz rs ep = okv) := hok
      have HP2 : Hid (∀ q', q = q' + 1 → ∃ (h : q' < bs.length), WB.cell? ⟨g, off + q' * 5, none⟩ = some (.string bs[q'].nm)) := fun q' e => by
        obtain ⟨h, c⟩ := HPREV.out q' e
        exact ⟨h, (dB.cell (p := ⟨g, off + q' * 5, none⟩) lg).trans c⟩
      have i0 : (0 : Int) ≤ (q : Int) := by omega
      have i1 : (q : Int) < (bks.length : Int) := by omega
      clear hok hat hWB zB rm HPREV
      go_upto_region 6 with fail
      rw [← HWB.out]
      have hne := BelowOf.any WB
      have c0 := BelowOf.cell (v := .string nm) (at_cell kB 0) lB
      have c1 := BelowOf.cell (v := .int .i64 sz) (at_cell kB 1) lB
      have c2 := BelowOf.cell (v := .slice o' rs.length cap') (at_cell kB 2) lB
      have c3 := BelowOf.cell (v := .bool fx) (at_cell kB 3) lB
      have c4 := BelowOf.cell (v := .int .i64 ep) (at_cell kB 4) lB
      have HBK : ∀ z : BelowOf WB, Calls Try.prog 87 #[.agg #[.string nm, .int .i64 sz, .slice o' rs.length cap', .bool fx, .int .i64 ep]] z.w' fun e w' => e = .returned (.bool okv) ∧ Below z.w'.heap.size z.w' w' := fun z => by have h := implBookOk_any nm sz _ rs fx ep z.w' hnm hfr (rmB.of hbB.size z); rwa [HOK.out] at h
      clear a0 a1 a2 a3 a4 HWB dB
      go_cut [32] (fun v wx => ∃ y : Bool, v = .bool y ∧ (y = true → rowB bs = false) ∧ (y = false → okv = true ∧ ∀ q', q = q' + 1 → ∀ (h : q' < bs.length), ltB bs[q'].nm nm = true) ∧ Below WB.heap.size WB wx)
      case first =>
        cases okv
        · have HV : Hid _ := row_no_book q hltb HBO.out
          refine wp_region_of (by kernel_rfl) (by kernel_rfl) ?_
          repeat (go_big_quiet_step ((first | (go_at_call 87; exact calls_of (HBK _)) | rfl)))
          refine wpQuiet_nil ?_
          intro w5 hw5
          obtain ⟨⟨wx, cx⟩, hwx⟩ := hw5
          have b5 : Below WB.heap.size WB w5 := by rw [hwx]; exact cx
          clear hwx cx wx
          go_wp2_with fail
          go_meet
          exact ⟨true, rfl, fun _ => HV.out, (fun h => by cases h), b5⟩
        · rcases Nat.eq_zero_or_pos q with hq0 | hqp
          · have j2 : decide (0 < q) = false := decide_eq_false (by omega)
            have HQ0 : Hid (q = 0) := hq0
            clear hq0
            refine wp_region_of (by kernel_rfl) (by kernel_rfl) ?_
            repeat (go_big_quiet_step ((first | (go_at_call 87; exact calls_of (HBK _)) | rfl)))
            refine wpQuiet_nil ?_
            intro w5 hw5
            obtain ⟨⟨wx, cx⟩, hwx⟩ := hw5
            have b5 : Below WB.heap.size WB w5 := by rw [hwx]; exact cx
            clear hwx cx wx
            go_wp2_with fail
            go_meet
            exact ⟨false, rfl, (fun h => by cases h), (fun _ => ⟨by first | rfl | trivial, fun q' h => by have := HQ0.out; omega⟩), b5⟩
          · obtain ⟨q', hqq⟩ : ∃ q', q = q' + 1 := ⟨q - 1, by omega⟩
            have HQQ : Hid (q = q' + 1) := hqq
            obtain ⟨hl2, cp⟩ := HP2.out q' hqq
            have cP := BelowOf.cell cp lg2
            obtain ⟨pn, hpn⟩ : ∃ x, bs[q'].nm = x := ⟨_, rfl⟩
            have HPN : Hid (bs[q'].nm = pn) := hpn
            rw [hpn] at cP
            have hw1 : IntKind.i64.wrap ((q : Int) - 1) = q' := by rw [IntKind.wrap_i64]; omega
            have hw2 : (q : Int) - 1 = q' := by omega
            have hw3 : IntKind.i64.wrap (q' : Int) = q' := by rw [IntKind.wrap_i64]; omega
            have j0 : (0 : Int) ≤ (q' : Int) := by omega
            have j1 : (q' : Int) < (bks.length : Int) := by omega
            have j2 : decide (0 < q) = true := decide_eq_true (by omega)
            obtain ⟨ly, hly⟩ : ∃ y, Op.bytesLess pn.toList nm.toList = y := ⟨_, rfl⟩
            have HLY : Hid (ltB pn nm = ly) := hly
            clear hpn cp hqq hqp
            refine wp_region_of (by kernel_rfl) (by kernel_rfl) ?_
            repeat (go_big_quiet_step ((first | (go_at_call 87; exact calls_of (HBK _)) | rfl)))
            refine wpQuiet_nil ?_
            intro w5 hw5
            obtain ⟨⟨wx, cx⟩, hwx⟩ := hw5
            have b5 : Below WB.heap.size WB w5 := by rw [hwx]; exact cx
            clear hwx cx wx
            go_wp2_with fail
            go_meet
            refine ⟨(!ly), rfl, fun h => ?_, fun h => ⟨by first | rfl | trivial, fun q'' e hh => ?_⟩, b5⟩
            · have hf : ltB pn nm = false := by rw [HLY.out]; simpa using h
              have hq1 := HQQ.out
              subst hq1
              exact row_no_order q' hltb (by rw [HPN.out, HBN.out]; exact hf)
            · obtain rfl : q'' = q' := by have := HQQ.out; omega
              rw [HPN.out, HLY.out]; simpa using h
      case rest =>
        obtain ⟨y, rfl, hy1, hy2, b5⟩ := hcut
        have hbc := bw_call hbB b5
        clear c0 c1 c2 c3 c4 HBK hne HP2 b5 kB
        cases y
        · obtain ⟨hokv, hord⟩ := hy2 rfl
          have HOK2 : Hid (∀ j (hj : j < bs.length), j < q + 1 → bs[j].ok = true) := fun j hj h => by
            rcases Nat.lt_or_ge j q with z | z
            · exact HOKS.out j hj z
            · obtain rfl : j = q := by omega
              rw [HBO.out]; exact hokv
          have HSR2 : Hid (∀ j (hj : j + 1 < bs.length), j + 1 < q + 1 → ltB (bs[j]'(by omega)).nm bs[j + 1].nm = true) := fun j hj h => by
            rcases Nat.lt_or_ge (j + 1) q with z | z
            · exact HSRT.out j hj z
            · obtain rfl : q = j + 1 := by omega
              have := hord j rfl (by omega)
              rwa [← HBN.out] at this
          clear hy1 hy2 hord hokv
          go_wp2_with fail
          go_roundw
          case rel => exact ⟨q + 1, by omega, by go_num, HOK2.out, HSR2.out, hbc⟩
          case measure => simp [intOf]; omega
        · have HV : Hid _ := hy1 rfl
          clear hy1 hy2
          go_wp2_with fail
          go_ret
          exact ⟨ret_bool HV.out.symm, hbc⟩
    · have HV : Hid (rowB bs = true) := row_yes (by have := HBL.out; omega) (fun j hj => HOKS.out j hj (by have := HBL.out; omega)) (fun j hj => HSRT.out j hj (by have := HBL.out; omega))
      have hql : ¬ (q : Int) < (bks.length : Int) := by omega
      clear HOKS HSRT
      go_wp2_with fail
      go_ret
      exact ⟨ret_bool HV.out.symm, hb⟩
end Go.Proofs.Ytkjdfgjmkomcgaa

namespace Go.Proofs.Ytkjdfgjmkomcgaa
open Go.RowKit

set_option linter.unusedVariables false

set_option maxRecDepth 100000

theorem new_fiveK (w : World) (x0 x1 x2 x3 x4 : Value) (t : TypeId) : ∀ (j : Nat) (u : Value), [x0, x1, x2, x3, x4][j]? = some u → (w.alloc (.cells #[x0, x1, x2, x3, x4] t)).cell? ((⟨w.heap.size, 0, none⟩ : Addr).add j) = some u := fun j u hj => by
  rw [addr_add, at_cell (heap_alloc_new w _)]
  simpa using hj
end Go.Proofs.Ytkjdfgjmkomcgaa

namespace Go.Proofs.Ytkjdfgjmkomcgaa
open Go.RowKit

set_option linter.unusedVariables false


theorem own_noplains (w : World) : (w.alloc (.cells #[] 46)).ownsRow w.heap.size 46 5 (.slice (some ⟨w.heap.size, 0, none⟩) 0 0) 0 [] := World.ownsRow_lit w #[] 0 (Nat.le_refl _) (Nat.zero_le _) rfl

theorem pages_reads {w : World} {base g cap : Nat} {rs : List (Int × Int × Int)} (op : w.ownsRow base 2 1 (.slice (some ⟨g, 0, none⟩) 16 cap) 16 ((pages rs).map (Value.int .i64))) : ReadsR 1 intC w.heap.size w (.slice (some ⟨g, 0, none⟩) 16 cap) (pages rs) := by
  have h : w.ownsRow base 2 1 (.slice (some ⟨g, 0, none⟩) 16 cap) (pages rs).length ((pages rs).flatMap intC) := by rw [flat_intC, pages_length]; exact op
  exact ReadsR.of_own intC_len h

theorem one_plain (b : Pk) (h : ∃ o k cp, b.m = .slice o k cp) : ∀ u ∈ pkC b, u.oneCell' = true := fun u hu => by
  obtain ⟨o, k, cp, h⟩ := h
  simp [pkC, h] at hu
  rcases hu with rfl | rfl | rfl | rfl | rfl <;> rfl

set_option maxRecDepth 100000 in
set_option maxHeartbeats 6400000 in
theorem l9Shown_any (v1 v2 vb : Value) (cs ps : List Int) (bks : List Bk) (w : World) (hinv : ShInv ⟨cs, ps, bks.map Bk.pb⟩) (r1 : Reads w.heap.size w v1 (cs.map (Value.int .i64))) (r2 : Reads w.heap.size w v2 (ps.map (Value.int .i64))) (rb : ReadsB w.heap.size w vb bks) :
    Calls Try.prog 47 #[.agg #[v1, v2, vb]] w fun e w' => ∃ (v' : Value) (ms : List Pk), e = .returned v' ∧ ms.map Pk.pv = (bks.map Bk.pb).map (shownP ps) ∧ OwnK w.heap.size w' v' ms ∧ Below w.heap.size w w' := by
  obtain ⟨i0, hi, hz0, hz1, hz2⟩ := info_parts Try.infoI64
  obtain ⟨j0, ji, jz0, jz1, jz2⟩ := info_parts Try.infoPlain
  have RM : Hid _ := rb.maps
  have HFEW : Hid (bks.length ≤ 6) := by rw [Hid]; have := hinv.few; simpa using this
  have HPART : Hid (∀ i (h : i < bks.length), mapOk bks[i].rs = true ∧ (1 ≤ bks[i].sz ∧ bks[i].sz ≤ 16) ∧ ∀ k, k < 16 → -1 ≤ (pages bks[i].rs).getD k 0 ∧ (pages bks[i].rs).getD k 0 < ps.length) := fun i h => by
    have := shown_parts hinv i (by simpa using h)
    simpa [Bk.pb] using this
  obtain ⟨o1, cp1, rfl, -⟩ := r1
  obtain ⟨o2, cp2, rfl, m2, c2, -⟩ := r2
  obtain ⟨ob, cpb, rfl, mb, cb, -⟩ := rb.row
  simp only [List.length_map] at m2 c2 ⊢
  have C2 : Hid (∀ j u, (ps.map (Value.int .i64))[j]? = some u → ∃ g off, o2 = some ⟨g, off, none⟩ ∧ g < w.heap.size ∧ w.cell? ⟨g, off + j, none⟩ = some u) := c2
  have HC : Hid _ := five_cells cb
  unfold maxLen at m2 mb
  clear c2 cb rb hinv
  obtain ⟨W0, hW0, kS, d0, z0⟩ := box1 w #[.slice o1 cs.length cp1, .slice o2 ps.length cp2, .slice ob bks.length cpb] 29
  have own0 := own_noplains W0
  have bd0 : Below W0.heap.size W0 (W0.alloc (.cells #[] 46)) := bw_alloc (Below.refl _ _)
  have HW0 : Hid (W0 = _) := hW0
  have HD0 : Hid (Below w.heap.size w W0 ∧ W0.heap.size = w.heap.size + 1) := ⟨d0, z0⟩
  have HKS : Hid _ := kS
  clear hW0 d0 z0 kS
  go_enter Try.func47, Try.ntmps47
  go_wp2_with fail
  rw [← HW0.out]
  clear HW0
  rw [show w.heap.size + 1 = W0.heap.size from HD0.out.2.symm]
  generalize W0.alloc (.cells #[] 46) = W1 at own0 bd0 ⊢
  go_loopw [3, 4] (fun q i wr => ∃ (j g cp : Nat) (ms : List Pk), j ≤ bks.length ∧ i = .int .i64 j ∧ q = .slice (some ⟨g, 0, none⟩) ms.length cp ∧ ms.map Pk.pv = ((bks.take j).map Bk.pb).map (shownP ps) ∧ OwnK W0.heap.size wr (.slice (some ⟨g, 0, none⟩) ms.length cp) ms ∧ Below W0.heap.size W0 wr) (fun _ i _ => bks.length - (intOf i).toNat)
  case atStart => exact ⟨0, _, _, [], Nat.zero_le _, rfl, rfl, rfl, ⟨own0, fun b hb => by simp at hb⟩, bd0⟩
  case round =>
    rename World => wo
    clear own0 bd0
    obtain ⟨j, g, cp, ms, hj, rfl, rfl, hpl, own, hb⟩ := hrel
    have HML : Hid (ms.length = j) := by have := congrArg List.length hpl; simp at this; rw [Hid]; omega
    have hb0 : Below w.heap.size w wo := HD0.out.1.trans (hb.mono (by have := HD0.out.2; omega))
    have hw1 : w.heap.size < wo.heap.size := by have := hb.size; have := HD0.out.2; omega
    have kSr := (hb.block w.heap.size (by have := HD0.out.2; omega)).trans HKS.out
    have s1 := at_cell kSr 1
    have s2 := at_cell kSr 2
    by_cases hlt : j < bks.length
    · obtain ⟨g0, off, rfl, hg, a0, a1, a2, a3, a4⟩ := HC.out j hlt
      have rm := ((RM.out bks[j] (List.getElem_mem hlt)).below hb0).mono hb0.size
      have hpart := HPART.out j hlt
      have hpt : ((bks.take (j + 1)).map Bk.pb).map (shownP ps) = ((bks.take j).map Bk.pb).map (shownP ps) ++ [shownP ps bks[j].pb] := by rw [List.take_succ_eq_append_getElem hlt, List.map_append, List.map_append]; rfl
      obtain ⟨x, hx⟩ : ∃ x, bks[j] = x := ⟨_, rfl⟩
      rw [hx] at a0 a1 a2 a3 a4 rm hpart hpt
      clear hx
      obtain ⟨nm, sz, m, rs, fx, ep⟩ := x
      simp only at a0 a1 a2 a3 a4 rm hpart
      obtain ⟨hmok, ⟨hs1, hs2⟩, hpg⟩ := hpart
      obtain ⟨om, cm, hmm⟩ := rm.form
      subst hmm
      obtain ⟨n, hn⟩ := Int.eq_ofNat_of_zero_le (show 0 ≤ sz by omega)
      subst hn
      have hn16 : n ≤ 16 := by omega
      have HPG : Hid _ := hpg
      have HP : Hid _ := And.intro hpl hpt
      replace a0 := (hb0.cell (p := ⟨g0, off + j * 5, none⟩) hg).trans a0
      replace a1 := (hb0.cell (p := ⟨g0, off + j * 5 + 1, none⟩) hg).trans a1
      replace a2 := (hb0.cell (p := ⟨g0, off + j * 5 + 2, none⟩) hg).trans a2
      replace a3 := (hb0.cell (p := ⟨g0, off + j * 5 + 3, none⟩) hg).trans a3
      replace a4 := (hb0.cell (p := ⟨g0, off + j * 5 + 4, none⟩) hg).trans a4
      obtain ⟨W2, hW2, kA, kP, d2, z2⟩ := box2 wo #[.string nm, .int .i64 (n : Int), .slice om rs.length cm, .bool fx, .int .i64 ep] #[.string nm, .int .i64 (n : Int), .slice none 0 0, .bool fx, .int .i64 ep] 39 46
      have rm2 := (rm.below d2).mono d2.size
      have u0 := at_cell kA 0
      have u1 := at_cell kA 1
      have u2 := at_cell kA 2
      have u3 := at_cell kA 3
      have u4 := at_cell kA 4
      have HK2 : Hid _ := And.intro kA (And.intro kP (And.intro d2 z2))
      have HOWN : Hid _ := And.intro own (And.intro hb (And.intro hb0 kSr))
      -- the book's box alone, ahead of the plain's
      obtain ⟨WA, hWA, kA1, dA, -⟩ := box1 wo #[.string nm, .int .i64 (n : Int), .slice om rs.length cm, .bool fx, .int .i64 ep] 39
      have p0 := at_cell kA1 0
      have p1 := at_cell kA1 1
      have p3 := at_cell kA1 3
      have p4 := at_cell kA1 4
      have HW2 : Hid (W2 = _) := hW2
      clear own hb hb0 kSr kA kP d2 z2 rm hpl hpt kA1 dA
      subst hWA
      clear hW2
      have i0' : (0 : Int) ≤ (j : Int) := by omega
      have i1' : (j : Int) < (bks.length : Int) := by omega
      have HRM : Hid (ReadsR 3 runC W2.heap.size W2 (.slice om rs.length cm) rs) := rm2
      have HMOK : Hid (mapOk rs = true) := hmok
      clear rm2 hmok hpg
      have HW2b := HW2.out
      subst HW2b
      clear HW2
      go_wp2_with fail
      refine (l5Pages_any _ rs _ HMOK.out HRM.out).mono ?_
      rintro e w3 ⟨gp, cpp, rfl, op, b3⟩
      obtain ⟨kA, kP, d2, z2⟩ := HK2.out
      have d3 : Below wo.heap.size wo w3 := d2.trans (b3.mono d2.size)
      have kA3 := (b3.block _ (heap_lt kA)).trans kA
      have kP3 := (b3.block _ (heap_lt kP)).trans kP
      have hz3 : wo.heap.size + 1 < w3.heap.size := heap_lt kP3
      have RP : Hid (ReadsR 1 intC w3.heap.size w3 (.slice (some ⟨gp, 0, none⟩) 16 cpp) (pages rs)) := pages_reads op
      have HGP : Hid (gp ≠ wo.heap.size + 1) := fun e => own_not_box op kP3 (by decide) (by rw [e]; rfl)
      have H3 : Hid _ := And.intro kA3 (And.intro d3 hz3)
      have KP3 : Hid _ := kP3
      clear op b3 kA kP d2 z2 d3 kA3 kP3 hz3 HK2 HRM u0 u1 u2 u3 u4 p0 p1 p3 p4 a0 a1 a2 a3 a4 s1 s2
      go_wp2_with fail
      go_loopw [8] (fun i WW => ∃ (k : Nat) (vv : Value), k ≤ n ∧ i = .int .i64 k ∧ WW.heap[wo.heap.size + 1]? = some (.cells #[.string nm, .int .i64 (n : Int), vv, .bool fx, .int .i64 ep] 46 (0, 0)) ∧ WW.ownsRow w3.heap.size 2 1 vv k ((shownV ps rs k).map (Value.int .i64)) ∧ Upto (wo.heap.size + 1) w3 WW) (fun i _ => n - (intOf i).toNat)
      case atStart => exact ⟨0, _, Nat.zero_le _, rfl, KP3.out, World.ownsRow_nil _ _ _ _, Upto.refl _ _⟩
      case round =>
        obtain ⟨k, vv, hk, rfl, kP, ow, up⟩ := hrel
        have HKP : Hid _ := kP
        have HOW : Hid (wr.ownsRow w3.heap.size 2 1 vv k ((shownV ps rs k).map (Value.int .i64))) := ow
        have HU : Hid _ := up
        obtain ⟨own, hb, hb0, kSr⟩ := HOWN.out
        obtain ⟨kA3, d3, hz3⟩ := H3.out
        have upB : Below wo.heap.size w3 wr := up.toBelow (by omega) (by omega)
        have kAi := (up.block wo.heap.size (by omega) (by omega)).trans kA3
        have kSi := (upB.block w.heap.size (by omega)).trans ((d3.block w.heap.size (by omega)).trans kSr)
        have u1 := at_cell kAi 1
        have s1 := at_cell kSi 1
        have HDI : Hid (Below w.heap.size w wr) := (hb0.trans (d3.mono hb0.size)).trans (upB.mono hb0.size)
        by_cases hkn : k < n
        · have HKN : Hid (k < n ∧ n ≤ 16) := ⟨hkn, hn16⟩
          obtain ⟨og, ocp, hf, -, hcc, -⟩ := RP.out
          simp only [Value.slice.injEq] at hf
          obtain ⟨hf1, -, -⟩ := hf
          obtain ⟨g1, of1, e1, l1, cc⟩ := one_cellK hcc k (by rw [pages_length]; omega)
          rw [← hf1] at e1
          cases e1
          have cpg := (up.cell (p := ⟨gp, 0 + k, none⟩) l1 HGP.out).trans cc
          have hgd : (pages rs)[k]'(by rw [pages_length]; omega) = (pages rs).getD k 0 := by simp [show k < (pages rs).length by rw [pages_length]; omega]
          have hpgk := HPG.out k (by omega)
          obtain ⟨pg, hpgv⟩ : ∃ pg, (pages rs).getD k 0 = pg := ⟨_, rfl⟩
          have HX0 : Hid (valAt ps rs k = if pg < 0 then 0 else ps.getD pg.toNat 0) := by rw [Hid, valAt, hpgv]
          rw [hgd, hpgv, Nat.zero_add] at cpg
          rw [hpgv] at hpgk
          have j0' : (0 : Int) ≤ (k : Int) := by omega
          have j1' : (k : Int) < 16 := by omega
          have j2' : (k : Int) < (n : Int) := by omega
          clear hcc cc hgd hpgv own hb hb0 kSr kA3 d3 upB kAi kSi kP ow up hf1
          by_cases hpos : 0 ≤ pg
          · obtain ⟨pn, hpn⟩ := Int.eq_ofNat_of_zero_le hpos
            subst hpn
            have hpl : pn < ps.length := by omega
            obtain ⟨g2, of2, e2, l2, cv⟩ := C2.out pn (.int .i64 ps[pn]) (by simp [hpl])
            subst e2
            replace cv := (HDI.out.cell (p := ⟨g2, of2 + pn, none⟩) l2).trans cv
            obtain ⟨x, hx⟩ : ∃ x, ps[pn] = x := ⟨_, rfl⟩
            have HX : Hid (valAt ps rs k = x) := by rw [Hid, HX0.out, if_neg (by omega), ← hx]; simp [hpl]
            rw [hx] at cv
            have q1 : (pn : Int) < (ps.length : Int) := by omega
            clear hx HX0
            go_wp2_with fail
            go_quiet (fail)
            have OWX : Hid ((wr.drewN nq).ownsRow w3.heap.size 2 1 vv k ((shownV ps rs k).map (Value.int .i64))) := HOW.out
            have UX : Hid (Upto (wo.heap.size + 1) w3 (wr.drewN nq)) := HU.out.drewN nq
            have pc2 := at_cell HKP.out 2
            go_wp2_with (at_builtin; refine wpList_append_own _ rfl _ _ 24 rfl w3.heap.size 2 i0 (.int .i64 0) 1 8 Try.underlying24 hi hz0 hz1 hz2 rfl (by decide) _ _ _ rfl (OWX.out.alloc _) ⟨wr.heap.size, 0, none⟩ 1 1 [.int .i64 x] rfl rfl ?c1 ?c2 ?c3 ?c4 ?c5 ?_)
            case c1 => exact new_one _ _ _
            case c2 => first | rfl | (intro u hu; simp only [List.mem_singleton] at hu; subst hu; rfl)
            case c3 => have := HKN.out; unfold maxLen; omega
            case c4 => have := HKN.out; omega
            case c5 => have := HU.out.size; simp at this ⊢; omega
            intro v' w5 hown' hgrow' hnil'
            have hne : (some (wo.heap.size + 1) : Option Nat) ≠ vv.ownBlock := fun e => own_not_box HOW.out HKP.out (by decide) e.symm
            have k5 : w5.heap[wo.heap.size + 1]? = some (.cells #[.string nm, .int .i64 (n : Int), vv, .bool fx, .int .i64 ep] 46 (0, 0)) := (hgrow'.block _ (by have := heap_lt HKP.out; simp; omega) hne).trans ((Below.heap_alloc _ _ _ (heap_lt HKP.out)).trans HKP.out)
            have k6 := set_at k5 2 v'
            have own5 : w5.ownsRow w3.heap.size 2 1 v' (k + 1) ((shownV ps rs (k + 1)).map (Value.int .i64)) := by rw [shownV_succ, HX.out, List.map_append]; exact hown'
            have own6 := own_box own5 k5 (by decide) 2 v'
            have U6 : Upto (wo.heap.size + 1) w3 (w5.setCell ⟨wo.heap.size + 1, 2, none⟩ v') := ((UX.out.alloc _).grown hgrow' (fun q hq => .inl (HOW.out.lt q hq).1)).setCell ⟨wo.heap.size + 1, 2, none⟩ (.inl rfl) v'
            have c5 := at_cell k5 2
            have f5 := at_open k5 2
            obtain ⟨o5, cp5, hv5⟩ := own_slice own5
            subst hv5
            have HR : Hid _ := And.intro k6 (And.intro own6 U6)
            clear hown' hgrow' hnil' hne k5 k6 own5 own6 U6 HKP HOW HU OWX UX
            go_wp2_with fail
            go_roundw
            case rel => exact ⟨k + 1, _, by have := HKN.out; omega, by go_num, HR.out⟩
            case measure => simp [intOf]; omega
          · obtain ⟨x, hx⟩ : ∃ x : Int, x = 0 := ⟨_, rfl⟩
            have HX : Hid (valAt ps rs k = x) := by rw [Hid, HX0.out, if_pos (by omega), hx]
            have q1 : ¬ (0 : Int) ≤ pg := hpos
            have OWX : Hid (wr.ownsRow w3.heap.size 2 1 vv k ((shownV ps rs k).map (Value.int .i64))) := HOW.out
            have UX : Hid (Upto (wo.heap.size + 1) w3 wr) := HU.out
            have pc2 := at_cell HKP.out 2
            subst hx
            clear HX0
            go_wp2_with (at_builtin; refine wpList_append_own _ rfl _ _ 24 rfl w3.heap.size 2 i0 (.int .i64 0) 1 8 Try.underlying24 hi hz0 hz1 hz2 rfl (by decide) _ _ _ rfl (OWX.out.alloc _) ⟨wr.heap.size, 0, none⟩ 1 1 [.int .i64 0] rfl rfl ?y1 ?y2 ?y3 ?y4 ?y5 ?_)
            case y2 => first | rfl | (intro u hu; simp only [List.mem_singleton] at hu; subst hu; rfl)
            case y3 => have := HKN.out; unfold maxLen; omega
            case y4 => have := HKN.out; omega
            case y5 => have := HU.out.size; simp at this ⊢; omega
            intro v' w5 hown' hgrow' hnil'
            have hne : (some (wo.heap.size + 1) : Option Nat) ≠ vv.ownBlock := fun e => own_not_box HOW.out HKP.out (by decide) e.symm
            have k5 : w5.heap[wo.heap.size + 1]? = some (.cells #[.string nm, .int .i64 (n : Int), vv, .bool fx, .int .i64 ep] 46 (0, 0)) := (hgrow'.block _ (by have := heap_lt HKP.out; simp; omega) hne).trans ((Below.heap_alloc _ _ _ (heap_lt HKP.out)).trans HKP.out)
            have k6 := set_at k5 2 v'
            have own5 : w5.ownsRow w3.heap.size 2 1 v' (k + 1) ((shownV ps rs (k + 1)).map (Value.int .i64)) := by rw [shownV_succ, HX.out, List.map_append]; exact hown'
            have own6 := own_box own5 k5 (by decide) 2 v'
            have U6 : Upto (wo.heap.size + 1) w3 (w5.setCell ⟨wo.heap.size + 1, 2, none⟩ v') := ((UX.out.alloc _).grown hgrow' (fun q hq => .inl (HOW.out.lt q hq).1)).setCell ⟨wo.heap.size + 1, 2, none⟩ (.inl rfl) v'
            have c5 := at_cell k5 2
            have f5 := at_open k5 2
            obtain ⟨o5, cp5, hv5⟩ := own_slice own5
            subst hv5
            have HR : Hid _ := And.intro k6 (And.intro own6 U6)
            clear hown' hgrow' hnil' hne k5 k6 own5 own6 U6 HKP HOW HU OWX UX
            go_wp2_with fail
            go_roundw
            case rel => exact ⟨k + 1, _, by have := HKN.out; omega, by go_num, HR.out⟩
            case measure => simp [intOf]; omega
        · obtain rfl : k = n := by omega
          obtain ⟨ov, cv, hvv⟩ := own_slice HOW.out
          have bo : Below wo.heap.size wo wr := d3.trans upB
          have ownR := own.below bo
          have hbR : Below W0.heap.size W0 wr := hb.trans (bo.mono hb.size)
          have ownV : wr.ownsRow W0.heap.size 2 1 vv (shownV ps rs k).length ((shownV ps rs k).flatMap intC) := by
            rw [flat_intC, shownV_len]
            exact owns_mono HOW.out (Nat.le_trans hb.size (Nat.le_trans d3.size (Nat.le_refl _)))
          subst hvv
          have hgl := (ownR.row.lt g rfl).1
          have HXX : Hid (OwnK W0.heap.size wr (.slice (some ⟨g, 0, none⟩) ms.length cp) ms ∧ wr.ownsRow W0.heap.size 2 1 (.slice ov k cv) (shownV ps rs k).length ((shownV ps rs k).flatMap intC) ∧ Below W0.heap.size W0 wr ∧ W0.heap.size ≤ g) := ⟨ownR, ownV, hbR, hgl⟩
          have HN6 : Hid (ms.length + 1 ≤ 6) := by have := HML.out; have := HFEW.out; rw [Hid]; omega
          have x0 := at_cell kP 0
          have x1 := at_cell kP 1
          have x2 := at_cell kP 2
          have x3 := at_cell kP 3
          have x4 := at_cell kP 4
          have hnk : ¬ (k : Int) < (k : Int) := by omega
          clear kP ow up own hb hb0 kSr kA3 d3 hz3 upB kAi kSi bo ownR hbR ownV hgl HKP HOW HU
          go_wp2_with (at_builtin; refine wpList_append_own _ rfl _ _ 35 rfl W0.heap.size 46 j0 (.agg #[.string ByteArray.empty, .int .i64 0, .slice none 0 0, .bool false, .int .i64 0]) 5 64 Try.underlying35 ji jz0 jz1 jz2 rfl (by decide) _ _ _ rfl (HXX.out.1.row.alloc _) ⟨wr.heap.size, 0, none⟩ 1 1 (pkC ⟨nm, (k : Int), .slice ov k cv, shownV ps rs k, fx, ep⟩) rfl rfl ?z1 ?z2 ?z3 ?z4 ?z5 ?_)
          case z1 => exact fun j u h => h
          case z2 => exact one_plain _ ⟨_, _, _, rfl⟩
          case z3 => have := HN6.out; unfold maxLen; omega
          case z4 => have := HN6.out; omega
          case z5 => have := HXX.out.2.2.1.size; simp at this ⊢; omega
          intro v'' w5 hown' hgrow' hnil'
          have own5 : w5.ownsRow W0.heap.size 46 5 v'' (ms ++ [(⟨nm, (k : Int), .slice ov k cv, shownV ps rs k, fx, ep⟩ : Pk)]).length ((ms ++ [(⟨nm, (k : Int), .slice ov k cv, shownV ps rs k, fx, ep⟩ : Pk)]).flatMap pkC) := by simpa using hown'
          obtain ⟨g', cp', hv'⟩ : ∃ g' cp', v'' = .slice (some ⟨g', 0, none⟩) (ms ++ [(⟨nm, (k : Int), .slice ov k cv, shownV ps rs k, fx, ep⟩ : Pk)]).length cp' := by
            rcases own5.2 with ⟨e, _⟩ | ⟨g', cp', _, e, _⟩
            · exact absurd e hnil'
            · exact ⟨g', cp', e⟩
          have row5 := HXX.out.1.row.alloc (.cells #[.string nm, .int .i64 (k : Int), .slice ov k cv, .bool fx, .int .i64 ep] 46)
          have mp5 : ∀ b ∈ ms ++ [(⟨nm, (k : Int), .slice ov k cv, shownV ps rs k, fx, ep⟩ : Pk)], w5.ownsRow W0.heap.size 2 1 b.m b.rs.length (b.rs.flatMap intC) := fun b hbm => by
            rcases List.mem_append.1 hbm with y | y
            · exact own_grown ((HXX.out.1.maps b y).alloc _) row5 (by decide) hgrow'
            · simp only [List.mem_singleton] at y
              subst y
              exact own_grown (HXX.out.2.1.alloc _) row5 (by decide) hgrow'
          have hb5 : Below W0.heap.size W0 w5 := (bw_alloc HXX.out.2.2.1).grown hgrow' (by have := HXX.out.2.2.1.size; simp at this ⊢; omega) (fun q hq => by cases hq; exact HXX.out.2.2.2)
          have hpl5 : (ms ++ [(⟨nm, (k : Int), .slice ov k cv, shownV ps rs k, fx, ep⟩ : Pk)]).map Pk.pv = ((bks.take (j + 1)).map Bk.pb).map (shownP ps) := by rw [HP.out.2, ← HP.out.1, List.map_append]; rfl
          subst hv'
          have HO : Hid _ := And.intro hpl5 (And.intro (OwnK.mk own5 mp5) hb5)
          clear hown' hgrow' hnil' own5 mp5 hb5 hpl5 row5 HXX HP x0 x1 x2 x3 x4
          go_wp2_with fail
          go_roundw
          case rel => exact ⟨j + 1, g', cp', _, by omega, by go_num, rfl, HO.out⟩
          case measure => simp [intOf]; omega
    · have htk : bks.take j = bks := List.take_of_length_le (by omega)
      rw [htk] at hpl
      have hnj : ¬ (j : Int) < (bks.length : Int) := by omega
      have HO : Hid _ := And.intro hpl (And.intro (own.mono (base' := w.heap.size) (by have := HD0.out.2; omega)) hb0)
      clear hpl own hb hb0 HC RM
      go_wp2_with fail
      go_ret
      exact ⟨_, rfl, ms, by rw [← List.map_map]; exact HO.out.1, HO.out.2⟩
end Go.Proofs.Ytkjdfgjmkomcgaa

namespace Go.Proofs.Ytkjdfgjmkomcgaa
open Go.RowKit

set_option linter.unusedVariables false


theorem made_roomI (n : Nat) (hn : n ≤ 1048576) : ∃ M : Array Value, (∀ W : World, (Instr.makeSlice 24 (.int .i64 0) (.int .i64 (n : Int))).run Try.prog W = .ok (.slice (some ⟨W.heap.size, 0, none⟩) 0 n) (W.alloc (.cells M 2))) ∧
    ∀ (W : World) (base : Nat), base ≤ W.heap.size → (W.alloc (.cells M 2)).ownsRow base 2 1 (.slice (some ⟨W.heap.size, 0, none⟩) 0 n) 0 [] := by
  obtain ⟨i0, hi, hz0, hz1, hz2⟩ := info_parts Try.infoI64
  refine ⟨madeCells (Value.int .i64 0).cells (n * 1), fun W => ?_, fun W base hb => ?_⟩
  · have h := run_make (P := Try.prog) W 24 2 i0 (.int .i64 0) Try.underlying24 hi hz0 .i64 .i64 0 (n : Int) (by omega) (by omega) (by rw [hz2]; omega) (by omega)
    rw [hz1, Int.toNat_natCast] at h
    simpa using h
  · exact ⟨rfl, .inr ⟨_, n, _, rfl, hb, heap_alloc_new W _, Nat.zero_le _, by unfold maxLen; omega, by rw [size_madeCells], by simp⟩⟩

theorem page_at {rs : List (Int × Int × Int)} (hm : mapOk rs = true) (k : Nat) (hk : k < 16) : pageOf rs (k : Int) = (pages rs).getD k 0 := by
  rw [pageOf, if_pos ⟨hm, by omega, by omega⟩, Int.toNat_natCast]

set_option maxRecDepth 100000 in
set_option maxHeartbeats 6400000 in
theorem shownBook_any (base i : Nat) (v1 v2 vb : Value) (cs ps : List Int) (bks : List Bk) (w : World) (hi : i < bks.length) (hnm : bks[i].nm.size ≤ 1099511627776) (hfit : FitRuns bks[i].rs)
    (hpart : mapOk bks[i].rs = true ∧ (1 ≤ bks[i].sz ∧ bks[i].sz ≤ 16) ∧ ∀ k, k < 16 → -1 ≤ (pages bks[i].rs).getD k 0 ∧ (pages bks[i].rs).getD k 0 < ps.length) (own : OwnS base w v1 v2 vb cs ps bks) :
    Calls Try.prog 35 #[.agg #[v1, v2, vb], .int .i64 i] w fun e w' => ∃ vv : Value, e = .returned (.agg #[.string bks[i].nm, .int .i64 bks[i].sz, vv, .bool bks[i].fx, .int .i64 bks[i].ep]) ∧ w'.ownsRow w.heap.size 2 1 vv bks[i].sz.toNat ((shownV ps bks[i].rs bks[i].sz.toNat).map (Value.int .i64)) ∧ Below w.heap.size w w' := by
  obtain ⟨i0, hI, hz0, hz1, hz2⟩ := info_parts Try.infoI64
  obtain ⟨o1, k1, o2, k2, ob, kb, rfl, rfl, rfl⟩ := own.forms
  obtain ⟨g, cap, hvb⟩ := own.b.at i hi
  cases hvb
  obtain ⟨⟨a0, a1, a2, a3, a4⟩, -⟩ := own_five own.b.row i hi
  have hgl := (own.b.row.lt g rfl).2
  have hmi := own.b.maps _ (List.getElem_mem hi)
  have HVA : Hid (∀ (W : World) (k : Nat), k < 16 → OwnS base W (.slice o1 cs.length k1) (.slice o2 ps.length k2) (.slice (some ⟨g, 0, none⟩) bks.length kb) cs ps bks → Calls Try.prog 73 #[.agg #[.slice o1 cs.length k1, .slice o2 ps.length k2, .slice (some ⟨g, 0, none⟩) bks.length kb], .int .i64 i, .int .i64 (k : Int)] W fun e w' => e = .returned (.int .i64 (valAt ps bks[i].rs k)) ∧ Below W.heap.size W w') := fun W k hk ow => by
    have e := page_at hpart.1 k hk
    have h := valueAt_any base i (k : Int) _ _ _ cs ps bks W hi hfit (by rw [e]; exact (hpart.2.2 k hk).2) (by rw [e]; exact (hpart.2.2 k hk).1) ow
    rw [e] at h
    exact h
  obtain ⟨x, hx⟩ : ∃ x, bks[i] = x := ⟨_, rfl⟩
  rw [hx] at a0 a1 a2 a3 a4 hnm hpart hmi HVA ⊢
  clear hx hfit
  obtain ⟨nm, sz, m, rs, fx, ep⟩ := x
  simp only at a0 a1 a2 a3 a4 hnm hpart hmi HVA ⊢
  obtain ⟨-, ⟨hs1, hs2⟩, -⟩ := hpart
  obtain ⟨om, cm, hmm⟩ := own_slice hmi
  subst hmm
  obtain ⟨n, hn⟩ := Int.eq_ofNat_of_zero_le (show 0 ≤ sz by omega)
  subst hn
  rw [show ((n : Int)).toNat = n from rfl]
  have hn16 : n ≤ 16 := by omega
  obtain ⟨W2, hW2, kS2, -, d2, z2⟩ := box2 w #[.slice o1 cs.length k1, .slice o2 ps.length k2, .slice (some ⟨g, 0, none⟩) bks.length kb] #[.string ⟨#[]⟩, .int .i64 0, .slice none 0 0, .bool false, .int .i64 0] 29 46
  have s2 := at_cell kS2 2
  replace a0 := (d2.cell (p := ⟨g, i * 5, none⟩) hgl).trans a0
  replace a1 := (d2.cell (p := ⟨g, i * 5 + 1, none⟩) hgl).trans a1
  replace a2 := (d2.cell (p := ⟨g, i * 5 + 2, none⟩) hgl).trans a2
  replace a3 := (d2.cell (p := ⟨g, i * 5 + 3, none⟩) hgl).trans a3
  replace a4 := (d2.cell (p := ⟨g, i * 5 + 4, none⟩) hgl).trans a4
  obtain ⟨W3, hW3, kS, kZ, kB, d3, z3⟩ := box3 w #[.slice o1 cs.length k1, .slice o2 ps.length k2, .slice (some ⟨g, 0, none⟩) bks.length kb] #[.string ⟨#[]⟩, .int .i64 0, .slice none 0 0, .bool false, .int .i64 0] #[.string nm, .int .i64 (n : Int), .slice om rs.length cm, .bool fx, .int .i64 ep] 29 46 39
  obtain ⟨M, hmk, hown⟩ := made_roomI n (by omega)
  have own0 := hown W3 W3.heap.size (Nat.le_refl _)
  have bd0 : Below W3.heap.size W3 (W3.alloc (.cells M 2)) := bw_alloc (Below.refl _ _)
  have u1 : (((w.alloc (.cells #[.slice o1 cs.length k1, .slice o2 ps.length k2, .slice (some ⟨g, 0, none⟩) bks.length kb] 29)).alloc (.cells #[.string ⟨#[]⟩, .int .i64 0, .slice none 0 0, .bool false, .int .i64 0] 46)).alloc (.cells #[.string nm, .int .i64 (n : Int), .slice om rs.length cm, .bool fx, .int .i64 ep] 39)).cell? ⟨w.heap.size + 1 + 1, 1, none⟩ = some (.int .i64 (n : Int)) := by rw [← hW3]; exact at_cell kB 1
  have hwx : w.heap.size + 1 + 1 < (W3.alloc (.cells M 2)).heap.size := by simp; omega
  have u1' : ((((w.alloc (.cells #[.slice o1 cs.length k1, .slice o2 ps.length k2, .slice (some ⟨g, 0, none⟩) bks.length kb] 29)).alloc (.cells #[.string ⟨#[]⟩, .int .i64 0, .slice none 0 0, .bool false, .int .i64 0] 46)).alloc (.cells #[.string nm, .int .i64 (n : Int), .slice om rs.length cm, .bool fx, .int .i64 ep] 39)).alloc (.cells M 2)).cell? ⟨w.heap.size + 1 + 1, 1, none⟩ = some (.int .i64 (n : Int)) := by rw [← hW3]; exact (bd0.cell (p := ⟨w.heap.size + 1 + 1, 1, none⟩) (by show w.heap.size + 1 + 1 < W3.heap.size; omega)).trans (at_cell kB 1)
  have HW3 : Hid (W3 = _) := hW3
  have HK : Hid _ := And.intro kS (And.intro kZ (And.intro kB (And.intro d3 z3)))
  have HOWN : Hid _ := own
  have i0' : (0 : Int) ≤ (i : Int) := by omega
  have i1' : (i : Int) < (bks.length : Int) := by omega
  subst hW2
  clear hW3 kS kZ kB d3 z3 own d2 z2 kS2 hown hmi hwx
  go_enter Try.func35, Try.ntmps35
  go_wp2_with fail
  rw [← HW3.out]
  clear HW3 hmk u1 u1' a0 a1 a2 a3 a4 s2
  generalize W3.alloc (.cells M 2) = W4 at own0 bd0 ⊢
  go_loopw [6, 18] (fun q i' wr => ∃ k gv cp : Nat, k ≤ n ∧ i' = .int .i64 k ∧ q = .slice (some ⟨gv, 0, none⟩) k cp ∧ wr.ownsRow W3.heap.size 2 1 (.slice (some ⟨gv, 0, none⟩) k cp) k ((shownV ps rs k).map (Value.int .i64)) ∧ Below W3.heap.size W3 wr) (fun _ i' _ => n - (intOf i').toNat)
  case atStart => exact ⟨0, _, _, Nat.zero_le _, rfl, rfl, (by have h := own0; rw [HK.out.2.2.2.2] at h ⊢; exact h), bd0⟩
  case round =>
    clear own0 bd0
    obtain ⟨k, gv, cp, hk, rfl, rfl, ow, hb⟩ := hrel
    obtain ⟨kS, kZ, kB, d3, z3⟩ := HK.out
    have kSr := (hb.block _ (heap_lt kS)).trans kS
    have kZr := (hb.block _ (heap_lt kZ)).trans kZ
    have kBr := (hb.block _ (heap_lt kB)).trans kB
    have dw : Below w.heap.size w wr := d3.trans (hb.mono (by omega))
    by_cases hkn : k < n
    · have s0 := at_cell kSr 0
      have s1 := at_cell kSr 1
      have s2 := at_cell kSr 2
      obtain ⟨x, hx⟩ : ∃ x, valAt ps rs k = x := ⟨_, rfl⟩
      have HX : Hid (valAt ps rs k = x) := hx
      have HKN : Hid (k < n ∧ n ≤ 16) := ⟨hkn, hn16⟩
      have HOR : Hid _ := HOWN.out.below dw
      have HB : Hid (Below W3.heap.size W3 wr) := hb
      have HOW : Hid (wr.ownsRow W3.heap.size 2 1 (.slice (some ⟨gv, 0, none⟩) k cp) k ((shownV ps rs k).map (Value.int .i64))) := ow
      have j2' : (k : Int) < (n : Int) := by omega
      clear hx kS kZ kB d3 z3 kSr kZr kBr dw hb ow
      go_wp2_with fail
      refine (HVA.out _ k (by have := HKN.out; omega) HOR.out).mono ?_
      rw [HX.out]
      rintro e w5 ⟨rfl, b5⟩
      have ow5 := owns_below HOW.out b5
      have hb5 := bw_call HB.out b5
      have hb5s := hb5.size
      have hgl5 := fun q hq => (ow5.lt q hq).1
      clear s0 s1 s2 b5
      go_wp2_with (at_builtin; refine wpList_append_own _ rfl _ _ 24 rfl W3.heap.size 2 i0 (.int .i64 0) 1 8 Try.underlying24 hI hz0 hz1 hz2 rfl (by decide) _ _ _ rfl (ow5.alloc _) ⟨w5.heap.size, 0, none⟩ 1 1 [.int .i64 x] rfl rfl ?c1 ?c2 ?c3 ?c4 ?c5 ?_)
      case c1 => exact new_one _ _ _
      case c2 => first | rfl | (intro u hu; simp only [List.mem_singleton] at hu; subst hu; rfl)
      case c3 => have := HKN.out; unfold maxLen; omega
      case c4 => have := HKN.out; omega
      case c5 => simp; omega
      intro v' w6 hown' hgrow' hnil'
      have own6 : w6.ownsRow W3.heap.size 2 1 v' (k + 1) ((shownV ps rs (k + 1)).map (Value.int .i64)) := by rw [shownV_succ, HX.out, List.map_append]; exact hown'
      obtain ⟨g', cp', hv'⟩ : ∃ g' cp', v' = .slice (some ⟨g', 0, none⟩) (k + 1) cp' := owns_form own6
      subst hv'
      have hb6 : Below W3.heap.size W3 w6 := (bw_alloc hb5).grown hgrow' (by simp; omega) hgl5
      have HO : Hid _ := And.intro own6 hb6
      clear hown' hgrow' hnil' own6 hb6 ow5 hb5 hgl5
      go_wp2_with fail
      go_roundw
      case rel => exact ⟨k + 1, _, _, by have := HKN.out; omega, by go_num, rfl, HO.out⟩
      case measure => simp [intOf]; omega
    · obtain rfl : k = n := by omega
      have hnk : ¬ (k : Int) < (k : Int) := by omega
      have O0 : wr.drew.cell? ⟨w.heap.size + 1 + 1, 0, none⟩ = some (.string nm) := at_cell kBr 0
      have O1 : wr.drew.cell? ⟨w.heap.size + 1 + 1, 1, none⟩ = some (.int .i64 (k : Int)) := at_cell kBr 1
      have O3 : wr.drew.cell? ⟨w.heap.size + 1 + 1, 3, none⟩ = some (.bool fx) := at_cell kBr 3
      have O4 : wr.drew.cell? ⟨w.heap.size + 1 + 1, 4, none⟩ = some (.int .i64 ep) := at_cell kBr 4
      have HDW : Hid (Below w.heap.size w wr) := dw
      have HZ3 : Hid (W3.heap.size = w.heap.size + 1 + 1 + 1) := z3
      clear kS kZ kB d3 kSr hb dw z3
      go_wp2_with fail
      have HKeep : ∀ X, Upto (w.heap.size + 1) wr X → (X.cell? ⟨w.heap.size + 1 + 1, 0, none⟩ = some (.string nm) ∧ X.cell? ⟨w.heap.size + 1 + 1, 1, none⟩ = some (.int .i64 (k : Int)) ∧ X.cell? ⟨w.heap.size + 1 + 1, 3, none⟩ = some (.bool fx) ∧ X.cell? ⟨w.heap.size + 1 + 1, 4, none⟩ = some (.int .i64 ep)) := fun X hX => by
        have x0 := (hX.block _ (heap_lt kBr) (by omega)).trans kBr
        exact ⟨at_cell x0 0, at_cell x0 1, at_cell x0 3, at_cell x0 4⟩
      clear O0 O1 O3 O4
      go_region_held3 (fun w' => w'.cell? ⟨w.heap.size + 1 + 1, 0, none⟩ = some (.string nm) ∧ w'.cell? ⟨w.heap.size + 1 + 1, 1, none⟩ = some (.int .i64 (k : Int)) ∧ w'.cell? ⟨w.heap.size + 1 + 1, 3, none⟩ = some (.bool fx) ∧ w'.cell? ⟨w.heap.size + 1 + 1, 4, none⟩ = some (.int .i64 ep))
        ((refine HKeep _ ?_; repeat (first | exact U5 | exact Upto.refl _ _ | (apply Upto.setCell; rotate_left; exact Or.inl rfl) | refine Upto.drew ?_)))
        ((go_at_call 74; refine (clone_any nm _ hnm).mono ?_; rintro e w5 ⟨rfl, b5⟩; have U5 : Upto (w.heap.size + 1) wr w5 := ((Upto.refl _ wr).drew).below b5; have kZ5 := (b5.block _ (heap_lt kZr)).trans kZr; have q0 := at_cell kZ5 0; have q1 := at_cell kZ5 1; have q2 := at_cell kZ5 2; have q3 := at_cell kZ5 3; have q4 := at_cell kZ5 4; have f0 := at_open kZ5 0; have f1 := at_open kZ5 1; have f2 := at_open kZ5 2; have f3 := at_open kZ5 3; have f4 := at_open kZ5 4))
      all_goals
        have ow5 := owns_below (owns_below ow ((Below.refl _ wr).drew)) b5
        have hk6 := set_five kZ5 (.string nm) (.int .i64 (k : Int)) (.slice (some ⟨gv, 0, none⟩) k cp) (.bool fx) (.int .i64 ep)
        have hd5 := bw_call (bw_drew HDW.out) b5
        have U6 := ((((((Upto.refl (w.heap.size + 1) w5).setCell ⟨w.heap.size + 1, 0, none⟩ (.inl rfl) (.string nm)).setCell ⟨w.heap.size + 1, 1, none⟩ (.inl rfl) (.int .i64 (k : Int))).setCell ⟨w.heap.size + 1, 2, none⟩ (.inl rfl) (.slice (some ⟨gv, 0, none⟩) k cp)).setCell ⟨w.heap.size + 1, 3, none⟩ (.inl rfl) (.bool fx)).setCell ⟨w.heap.size + 1, 4, none⟩ (.inl rfl) (.int .i64 ep))
        have ow6 := own_rng_not ow5 (fun q hq hqv => U6.block q hq (fun e => own_not_box ow5 kZ5 (by decide) (by rw [← e]; exact hqv)))
        have hb6 := bw_five hd5 (Nat.le_succ _) (.string nm) (.int .i64 (k : Int)) (.slice (some ⟨gv, 0, none⟩) k cp) (.bool fx) (.int .i64 ep)
        have HR : Hid _ := And.intro (owns_mono ow6 (show w.heap.size ≤ W3.heap.size by have := HZ3.out; omega)) hb6
        have c0 := at_cell hk6 0
        have c1 := at_cell hk6 1
        have c2 := at_cell hk6 2
        have c3 := at_cell hk6 3
        have c4 := at_cell hk6 4
        clear ow5 hk6 hd5 U6 ow6 hb6 ow kZr kBr HKeep q0 q1 q2 q3 q4 f0 f1 f2 f3 f4 kZ5 b5
        go_wp2_with fail
        refine bodyPost_ret (v := .agg #[.string nm, .int .i64 (k : Int), .slice (some ⟨gv, 0, none⟩) k cp, .bool fx, .int .i64 ep]) ?_ rfl ⟨_, rfl, HR.out⟩
        simp [results, Try.results35, go_sem, c0, c1, c2, c3, c4]
end Go.Proofs.Ytkjdfgjmkomcgaa

