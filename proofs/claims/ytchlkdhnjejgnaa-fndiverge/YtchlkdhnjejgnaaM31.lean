/-
  Contracts and plain laws, one chapter behind the other.
-/
import Derived.Deep.DeepCutAuto
import Derived.Laws.Cover1
import Derived.Lib.LazyBuf
import Derived.Test.YtchlkdhnjejgnaaM04
import Derived.Test.YtchlkdhnjejgnaaM08
import Derived.Test.YtchlkdhnjejgnaaM09
import Derived.Test.YtchlkdhnjejgnaaM11
import Derived.Test.YtchlkdhnjejgnaaM16
import Derived.Test.YtchlkdhnjejgnaaM25
import Derived.Test.YtchlkdhnjejgnaaM26
import Derived.Test.YtchlkdhnjejgnaaM30
namespace Go.Proofs.Ytchlkdhnjejgnaa
open Go.RowKit

set_option linter.unusedVariables false


/-! ### Plain -/
def rowB (bs : List Pb) : Bool := decide (bs.length ≤ 6) && bs.all Pb.ok && sortedB (bs.map Pb.nm)

theorem shelfOk_parts (s : Sf) : shelfOk s = (poolOk s.cs s.ps && rowB s.bs && countsOk s.cs s.bs) := by simp [shelfOk, rowB, Bool.and_assoc]

theorem row_no_many {bs : List Pb} (h : 6 < bs.length) : rowB bs = false := by
  have h6 : ¬ bs.length ≤ 6 := by omega
  simp [rowB, h6]

theorem row_no_book {bs : List Pb} (i : Nat) (hi : i < bs.length) (h : bs[i].ok = false) : rowB bs = false := by
  have : bs.all Pb.ok = false := by rw [List.all_eq_false]; exact ⟨bs[i], List.getElem_mem hi, by rw [h]; decide⟩
  simp [rowB, this]

theorem row_no_order {bs : List Pb} (i : Nat) (hi : i + 1 < bs.length) (h : ltB bs[i].nm bs[i + 1].nm = false) : rowB bs = false := by
  have : sortedB (bs.map Pb.nm) = false := sorted_not _ i (by simpa using hi) (by simpa using h)
  simp [rowB, this]

theorem row_yes {bs : List Pb} (h2 : bs.length ≤ 6) (h3 : ∀ (i : Nat) (hi : i < bs.length), bs[i].ok = true) (h4 : ∀ (i : Nat) (hi : i + 1 < bs.length), ltB (bs[i]'(by omega)).nm bs[i + 1].nm = true) : rowB bs = true := by
  have h5 : sortedB (bs.map Pb.nm) = true := sorted_adj _ (fun j h1 => by simpa using h4 j (by simpa using h1))
  have h6 : bs.all Pb.ok = true := List.all_eq_true.2 (fun b hb => by obtain ⟨j, hj, rfl⟩ := List.getElem_of_mem hb; exact h3 j hj)
  simp [rowB, h2, h5, h6]

theorem row_parts {bs : List Pb} (h : rowB bs = true) : bs.length ≤ 6 ∧ ∀ (i : Nat) (hi : i < bs.length), bs[i].ok = true := by
  simp only [rowB, Bool.and_eq_true, decide_eq_true_eq] at h
  exact ⟨h.1.1, fun i hi => List.all_eq_true.1 h.1.2 _ (List.getElem_mem hi)⟩

set_option maxRecDepth 100000 in
set_option maxHeartbeats 6400000 in
theorem rowOk_any (vb : Value) (bks : List Bk) (w : World) (hn : ∀ b ∈ bks, b.nm.size ≤ maxLen) (hf : ∀ b ∈ bks, FitRuns b.rs) (rb : ReadsB w.heap.size w vb bks) :
    Calls Try.prog 68 #[vb] w fun e w' => e = .returned (.bool (rowB (bks.map Bk.pb))) ∧ Below w.heap.size w w' := by
  have HN : Hid _ := hn
  have HF : Hid _ := hf
  obtain ⟨ob, cpb, f3, mb, cb, -⟩ := rb.row
  subst f3
  unfold maxLen at mb
  have CB : Hid _ := five_cells cb
  have RM : Hid _ := rb.maps
  clear hn hf rb cb
  obtain ⟨bs, hbs⟩ : ∃ bs, bks.map Bk.pb = bs := ⟨_, rfl⟩
  have hbl : bs.length = bks.length := by rw [← hbs, List.length_map]
  have HAT : Hid (∀ (i : Nat) (h1 : i < bks.length) (h2 : i < bs.length), bs[i] = bks[i].pb) := fun i h1 h2 => by subst hbs; simp
  rw [hbs]
  have HBL : Hid (bs.length = bks.length) := hbl
  clear hbs hbl
  by_cases hmany : 6 < bks.length
  · have HV : Hid (rowB bs = false) := row_no_many (by rw [HBL.out]; exact hmany)
    have h6 : (6 : Int) < (bks.length : Int) := by omega
    go_enter Try.func68, Try.ntmps68
    go_wp2_with fail
    go_ret
    exact ⟨ret_bool HV.out.symm, Below.refl _ _⟩
  have h6 : ¬ (6 : Int) < (bks.length : Int) := by omega
  go_enter Try.func68, Try.ntmps68
  go_wp2_with fail
  go_loopw [10] (fun i wr => ∃ q : Nat, q ≤ bks.length ∧ i = .int .i64 q ∧ (∀ j (hj : j < bs.length), j < q → bs[j].ok = true) ∧ (∀ j (hj : j + 1 < bs.length), j + 1 < q → ltB (bs[j]'(by omega)).nm bs[j + 1].nm = true) ∧ Below w.heap.size w wr) (fun i _ => bks.length - (intOf i).toNat)
  case atStart => exact ⟨0, Nat.zero_le _, rfl, fun j _ h => by omega, fun j _ h => by omega, Below.refl _ _⟩
  case round =>
    obtain ⟨q, hq, rfl, hoks, hsrt, hb⟩ := hrel
    have HOKS : Hid _ := hoks
    have HSRT : Hid _ := hsrt
    clear hoks hsrt
    by_cases hlt : q < bks.length
    · obtain ⟨g, off, rfl, hg, a0, a1, a2, a3, a4⟩ := CB.out q hlt
      have hltb : q < bs.length := by have := HBL.out; omega
      have rm := (RM.out bks[q] (List.getElem_mem hlt)).below hb
      have hnm := HN.out bks[q] (List.getElem_mem hlt)
      have hfr := HF.out bks[q] (List.getElem_mem hlt)
      have hat := HAT.out q hlt hltb
      have HPREV : Hid (∀ q', q = q' + 1 → ∃ (h : q' < bs.length), wr.cell? ⟨g, off + q' * 5, none⟩ = some (.string bs[q'].nm)) := fun q' e => by
        have hl' : q' < bks.length := by omega
        obtain ⟨g', off', e', hg', c0, -⟩ := CB.out q' hl'
        cases e'
        have hl2 : q' < bs.length := by have := HBL.out; omega
        refine ⟨hl2, ?_⟩
        rw [HAT.out q' hl' hl2]
        exact (hb.cell (p := ⟨g, off + q' * 5, none⟩) hg).trans c0
      obtain ⟨x, hx⟩ : ∃ x, bks[q] = x := ⟨_, rfl⟩
      rw [hx] at a0 a1 a2 a3 a4 rm hnm hat hfr
      clear hx
      obtain ⟨nm, sz, m, rs, fx, ep⟩ := x
      simp only at a0 a1 a2 a3 a4 rm hnm hfr
      obtain ⟨o', cap', hm'⟩ := rm.form
      subst hm'
      have lg : g < wr.heap.size := Nat.lt_of_lt_of_le hg hb.size
      replace a0 := (hb.cell (p := ⟨g, off + q * 5, none⟩) hg).trans a0
      replace a1 := (hb.cell (p := ⟨g, off + q * 5 + 1, none⟩) hg).trans a1
      replace a2 := (hb.cell (p := ⟨g, off + q * 5 + 2, none⟩) hg).trans a2
      replace a3 := (hb.cell (p := ⟨g, off + q * 5 + 3, none⟩) hg).trans a3
      replace a4 := (hb.cell (p := ⟨g, off + q * 5 + 4, none⟩) hg).trans a4
      obtain ⟨WB, hWB, kB, dB, zB⟩ := box1 wr #[.string nm, .int .i64 sz, .slice o' rs.length cap', .bool fx, .int .i64 ep] 39
      have HWB : Hid (WB = _) := hWB
      have lB : wr.heap.size < WB.heap.size := heap_lt kB
      have lg2 : g < WB.heap.size := by omega
      have hbB := bw_call hb dB
      obtain ⟨okv, hok⟩ : ∃ x, bookOk nm sz rs ep = x := ⟨_, rfl⟩
      have HBO : Hid (bs[q].ok = okv) := by rw [Hid, hat]; exact hok
      have HBN : Hid (bs[q].nm = nm) := by rw [Hid, hat]; rfl
      have rmB := rm.below ((dB.mono hb.size))
      have HOK : Hid (bookOk nm sz rs ep = okv) := hok
      have HP2 : Hid (∀ q', q = q' + 1 → ∃ (h : q' < bs.length), WB.cell? ⟨g, off + q' * 5, none⟩ = some (.string bs[q'].nm)) := fun q' e => by
        obtain ⟨h, c⟩ := HPREV.out q' e
        exact ⟨h, (dB.cell (p := ⟨g, off + q' * 5, none⟩) lg).trans c⟩
      have i0 : (0 : Int) ≤ (q : Int) := by omega
      have i1 : (q : Int) < (bks.length : Int) := by omega
      clear hok hat hWB zB rm HPREV
      go_upto_region 6 with fail
      rw [← HWB.out]
      have hne := BelowOf.any WB
      have c0 := BelowOf.cell (v := .string nm) (at_cell kB 0) lB
      have c1 := BelowOf.cell (v := .int .i64 sz) (at_cell kB 1) lB
      have c2 := BelowOf.cell (v := .slice o' rs.length cap') (at_cell kB 2) lB
      have c3 := BelowOf.cell (v := .bool fx) (at_cell kB 3) lB
      have c4 := BelowOf.cell (v := .int .i64 ep) (at_cell kB 4) lB
      have HBK : ∀ z : BelowOf WB, Calls Try.prog 94 #[.agg #[.string nm, .int .i64 sz, .slice o' rs.length cap', .bool fx, .int .i64 ep]] z.w' fun e w' => e = .returned (.bool okv) ∧ Below z.w'.heap.size z.w' w' := fun z => by have h := implBookOk_any nm sz _ rs fx ep z.w' hnm hfr (rmB.of hbB.size z); rwa [HOK.out] at h
      clear a0 a1 a2 a3 a4 HWB dB
      go_cut [32] (fun v wx => ∃ y : Bool, v = .bool y ∧ (y = true → rowB bs = false) ∧ (y = false → okv = true ∧ ∀ q', q = q' + 1 → ∀ (h : q' < bs.length), ltB bs[q'].nm nm = true) ∧ Below WB.heap.size WB wx)
      case first =>
        cases okv
        · have HV : Hid _ := row_no_book q hltb HBO.out
          refine wp_region_of (by kernel_rfl) (by kernel_rfl) ?_
          repeat (go_big_quiet_step ((first | (go_at_call 94; exact calls_of (HBK _)) | rfl)))
          refine wpQuiet_nil ?_
          intro w5 hw5
          obtain ⟨⟨wx, cx⟩, hwx⟩ := hw5
          have b5 : Below WB.heap.size WB w5 := by rw [hwx]; exact cx
          clear hwx cx wx
          go_wp2_with fail
          go_meet
          exact ⟨true, rfl, fun _ => HV.out, (fun h => by cases h), b5⟩
        · rcases Nat.eq_zero_or_pos q with hq0 | hqp
          · have j2 : decide (0 < q) = false := decide_eq_false (by omega)
            have HQ0 : Hid (q = 0) := hq0
            clear hq0
            refine wp_region_of (by kernel_rfl) (by kernel_rfl) ?_
            repeat (go_big_quiet_step ((first | (go_at_call 94; exact calls_of (HBK _)) | rfl)))
            refine wpQuiet_nil ?_
            intro w5 hw5
            obtain ⟨⟨wx, cx⟩, hwx⟩ := hw5
            have b5 : Below WB.heap.size WB w5 := by rw [hwx]; exact cx
            clear hwx cx wx
            go_wp2_with fail
            go_meet
            exact ⟨false, rfl, (fun h => by cases h), (fun _ => ⟨by first | rfl | trivial, fun q' h => by have := HQ0.out; omega⟩), b5⟩
          · obtain ⟨q', hqq⟩ : ∃ q', q = q' + 1 := ⟨q - 1, by omega⟩
            have HQQ : Hid (q = q' + 1) := hqq
            obtain ⟨hl2, cp⟩ := HP2.out q' hqq
            have cP := BelowOf.cell cp lg2
            obtain ⟨pn, hpn⟩ : ∃ x, bs[q'].nm = x := ⟨_, rfl⟩
            have HPN : Hid (bs[q'].nm = pn) := hpn
            rw [hpn] at cP
            have hw1 : IntKind.i64.wrap ((q : Int) - 1) = q' := by rw [IntKind.wrap_i64]; omega
            have hw2 : (q : Int) - 1 = q' := by omega
            have hw3 : IntKind.i64.wrap (q' : Int) = q' := by rw [IntKind.wrap_i64]; omega
            have j0 : (0 : Int) ≤ (q' : Int) := by omega
            have j1 : (q' : Int) < (bks.length : Int) := by omega
            have j2 : decide (0 < q) = true := decide_eq_true (by omega)
            obtain ⟨ly, hly⟩ : ∃ y, Op.bytesLess pn.toList nm.toList = y := ⟨_, rfl⟩
            have HLY : Hid (ltB pn nm = ly) := hly
            clear hpn cp hqq hqp
            refine wp_region_of (by kernel_rfl) (by kernel_rfl) ?_
            repeat (go_big_quiet_step ((first | (go_at_call 94; exact calls_of (HBK _)) | rfl)))
            refine wpQuiet_nil ?_
            intro w5 hw5
            obtain ⟨⟨wx, cx⟩, hwx⟩ := hw5
            have b5 : Below WB.heap.size WB w5 := by rw [hwx]; exact cx
            clear hwx cx wx
            go_wp2_with fail
            go_meet
            refine ⟨(!ly), rfl, fun h => ?_, fun h => ⟨by first | rfl | trivial, fun q'' e hh => ?_⟩, b5⟩
            · have hf : ltB pn nm = false := by rw [HLY.out]; simpa using h
              have hq1 := HQQ.out
              subst hq1
              exact row_no_order q' hltb (by rw [HPN.out, HBN.out]; exact hf)
            · obtain rfl : q'' = q' := by have := HQQ.out; omega
              rw [HPN.out, HLY.out]; simpa using h
      case rest =>
        obtain ⟨y, rfl, hy1, hy2, b5⟩ := hcut
        have hbc := bw_call hbB b5
        clear c0 c1 c2 c3 c4 HBK hne HP2 b5 kB
        cases y
        · obtain ⟨hokv, hord⟩ := hy2 rfl
          have HOK2 : Hid (∀ j (hj : j < bs.length), j < q + 1 → bs[j].ok = true) := fun j hj h => by
            rcases Nat.lt_or_ge j q with z | z
            · exact HOKS.out j hj z
            · obtain rfl : j = q := by omega
              rw [HBO.out]; exact hokv
          have HSR2 : Hid (∀ j (hj : j + 1 < bs.length), j + 1 < q + 1 → ltB (bs[j]'(by omega)).nm bs[j + 1].nm = true) := fun j hj h => by
            rcases Nat.lt_or_ge (j + 1) q with z | z
            · exact HSRT.out j hj z
            · obtain rfl : q = j + 1 := by omega
              have := hord j rfl (by omega)
              rwa [← HBN.out] at this
          clear hy1 hy2 hord hokv
          go_wp2_with fail
          go_roundw
          case rel => exact ⟨q + 1, by omega, by go_num, HOK2.out, HSR2.out, hbc⟩
          case measure => simp [intOf]; omega
        · have HV : Hid _ := hy1 rfl
          clear hy1 hy2
          go_wp2_with fail
          go_ret
          exact ⟨ret_bool HV.out.symm, hbc⟩
    · have HV : Hid (rowB bs = true) := row_yes (by have := HBL.out; omega) (fun j hj => HOKS.out j hj (by have := HBL.out; omega)) (fun j hj => HSRT.out j hj (by have := HBL.out; omega))
      have hql : ¬ (q : Int) < (bks.length : Int) := by omega
      clear HOKS HSRT
      go_wp2_with fail
      go_ret
      exact ⟨ret_bool HV.out.symm, hb⟩
end Go.Proofs.Ytchlkdhnjejgnaa

namespace Go.Proofs.Ytchlkdhnjejgnaa
open Go.RowKit

set_option linter.unusedVariables false

set_option maxRecDepth 100000

theorem new_fiveK (w : World) (x0 x1 x2 x3 x4 : Value) (t : TypeId) : ∀ (j : Nat) (u : Value), [x0, x1, x2, x3, x4][j]? = some u → (w.alloc (.cells #[x0, x1, x2, x3, x4] t)).cell? ((⟨w.heap.size, 0, none⟩ : Addr).add j) = some u := fun j u hj => by
  rw [addr_add, at_cell (heap_alloc_new w _)]
  simpa using hj
end Go.Proofs.Ytchlkdhnjejgnaa

namespace Go.Proofs.Ytchlkdhnjejgnaa
open Go.RowKit

set_option linter.unusedVariables false

set_option maxRecDepth 100000


theorem own_noplains (w : World) : (w.alloc (.cells #[] 46)).ownsRow w.heap.size 46 5 (.slice (some ⟨w.heap.size, 0, none⟩) 0 0) 0 [] := World.ownsRow_lit w #[] 0 (Nat.le_refl _) (Nat.zero_le _) rfl

theorem one_plain (b : Pk) (h : ∃ o k cp, b.m = .slice o k cp) : ∀ u ∈ pkC b, u.oneCell' = true := fun u hu => by
  obtain ⟨o, k, cp, h⟩ := h
  simp [pkC, h] at hu
  rcases hu with rfl | rfl | rfl | rfl | rfl <;> rfl
end Go.Proofs.Ytchlkdhnjejgnaa

namespace Go.Proofs.Ytchlkdhnjejgnaa
open Go.RowKit

set_option linter.unusedVariables false


theorem made_roomI (n : Nat) (hn : n ≤ 1048576) : ∃ M : Array Value, (∀ W : World, (Instr.makeSlice 24 (.int .i64 0) (.int .i64 (n : Int))).run Try.prog W = .ok (.slice (some ⟨W.heap.size, 0, none⟩) 0 n) (W.alloc (.cells M 2))) ∧
    ∀ (W : World) (base : Nat), base ≤ W.heap.size → (W.alloc (.cells M 2)).ownsRow base 2 1 (.slice (some ⟨W.heap.size, 0, none⟩) 0 n) 0 [] := by
  obtain ⟨i0, hi, hz0, hz1, hz2⟩ := info_parts Try.infoI64
  refine ⟨madeCells (Value.int .i64 0).cells (n * 1), fun W => ?_, fun W base hb => ?_⟩
  · have h := run_make (P := Try.prog) W 24 2 i0 (.int .i64 0) Try.underlying24 hi hz0 .i64 .i64 0 (n : Int) (by omega) (by omega) (by rw [hz2]; omega) (by omega)
    rw [hz1, Int.toNat_natCast] at h
    simpa using h
  · exact ⟨rfl, .inr ⟨_, n, _, rfl, hb, heap_alloc_new W _, Nat.zero_le _, by unfold maxLen; omega, by rw [size_madeCells], by simp⟩⟩

theorem page_at {rs : List (Int × Int × Int)} (hm : mapOk rs = true) (k : Nat) (hk : k < 16) : pageOf rs (k : Int) = (pages rs).getD k 0 := by
  rw [pageOf, if_pos ⟨hm, by omega, by omega⟩, Int.toNat_natCast]
end Go.Proofs.Ytchlkdhnjejgnaa

