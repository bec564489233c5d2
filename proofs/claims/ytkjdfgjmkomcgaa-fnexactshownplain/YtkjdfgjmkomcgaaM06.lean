/-
  Contracts and plain laws, one chapter behind the other.
-/
import Derived.Deep.DeepCutAuto
import Derived.Laws.Cover1
import Derived.Laws.OwnMore
import Derived.OwnWalk
import Derived.Deep.RegionLaw
import Derived.Laws.CopyOwn
import Derived.Lib.Strings
import Derived.Shelf.LaysM
import Derived.Shelf.Strconv.Clone
import Derived.Test.YtkjdfgjmkomcgaaM01
import Derived.Test.YtkjdfgjmkomcgaaM02
import Derived.Test.YtkjdfgjmkomcgaaM03
import Derived.Test.YtkjdfgjmkomcgaaM04
namespace Go.Proofs.Ytkjdfgjmkomcgaa
open Go.RowKit

set_option linter.unusedVariables false


theorem cell_i64 {B : Nat} {w : World} {o : Option Addr} {xs : List Int} (hc : ∀ j u, (xs.map (Value.int .i64))[j]? = some u → ∃ g off, o = some ⟨g, off, none⟩ ∧ g < B ∧ w.cell? ⟨g, off + j, none⟩ = some u) (j : Nat) (hj : j < xs.length) : ∃ g off, o = some ⟨g, off, none⟩ ∧ g < B ∧ w.cell? ⟨g, off + j, none⟩ = some (.int .i64 (xs.getD j 0)) := hc j _ (getD_some xs j hj)

/-- A count more. -/
theorem row24_inc {w : World} {base g : Nat} {f : Nat → Int} (h : w.ownsRow base 2 1 (.slice (some ⟨g, 0, none⟩) 24 24) 24 ((row24 f).map (Value.int .i64))) (m : Nat) (hm : m < 24) :
    w.cell? ⟨g, m, none⟩ = some (.int .i64 (f m)) ∧ w.frozen? ⟨g, m, none⟩ = false ∧ (w.setCell ⟨g, m, none⟩ (.int .i64 (f m + 1))).ownsRow base 2 1 (.slice (some ⟨g, 0, none⟩) 24 24) 24 ((row24 (fun k => if m = k then f m + 1 else f k)).map (Value.int .i64)) := by
  refine ⟨?_, h.frozenAt m, ?_⟩
  · rw [h.cellAt m (by omega), getD_some _ m (by rw [row24_length]; exact hm), row24_get f m hm]
  · have := (h.stored m (.int .i64 (f m + 1))).1
    rwa [← List.map_set, row24_set f m hm] at this

set_option maxRecDepth 100000 in
set_option maxHeartbeats 6400000 in
theorem specShelfOk_any (v1 v2 vb : Value) (cs ps : List Int) (bks : List Bk) (w : World) (hn : ∀ b ∈ bks, b.nm.size ≤ maxLen) (r1 : Reads w.heap.size w v1 (cs.map (Value.int .i64))) (r2 : Reads w.heap.size w v2 (ps.map (Value.int .i64))) (rb : ReadsB w.heap.size w vb bks) :
    Calls Try.prog 9 #[.agg #[v1, v2, vb]] w fun e w' => e = .returned (.bool (shelfOk ⟨cs, ps, bks.map Bk.pb⟩)) ∧ Below w.heap.size w w' := by
  obtain ⟨W0, hW0, k0, d0, z0⟩ := box1 w #[v1, v2, vb] 29
  have s1 := (r1.below d0).mono d0.size
  have s2 := (r2.below d0).mono d0.size
  have sb := (rb.below d0).mono d0.size
  have HW0 : Hid (W0 = _) := hW0
  have HN : Hid _ := hn
  have l0 := heap_lt k0
  obtain ⟨o1, cp1, f1, m1, -, -⟩ := s1
  obtain ⟨o2, cp2, f2, m2, -, -⟩ := s2
  obtain ⟨ob, cpb, f3, mb, -, -⟩ := sb.row
  simp only [List.length_map] at f1 f2 m1
  subst f1 f2 f3
  have s1 := (r1.below d0).mono d0.size
  have s2 := (r2.below d0).mono d0.size
  unfold maxLen at mb m1
  clear hW0 z0 r1 r2 rb hn
  go_enter Try.func9, Try.ntmps9
  go_wp2_with fail
  rw [← HW0.out]
  clear HW0
  refine (specPoolOk_any _ _ cs ps _ s1 s2).mono ?_
  rintro e w1 ⟨rfl, b1⟩
  replace k0 := (b1.block _ l0).trans k0
  replace d0 := bw_call d0 b1
  replace s1 := (s1.below b1).mono b1.size
  replace sb := (sb.below b1).mono b1.size
  replace l0 := Nat.lt_of_lt_of_le l0 b1.size
  clear b1 s2
  have p2 := at_cell k0 2
  cases hpo : poolOk cs ps
  · have HV : Hid _ := shelf_no_pool ⟨cs, ps, bks.map Bk.pb⟩ hpo
    clear hpo k0
    go_wp2_with fail
    go_ret
    exact ⟨ret_bool HV.out.symm, d0⟩
  have HPO : Hid _ := hpo
  clear hpo
  by_cases hmany : 6 < bks.length
  · have HV : Hid _ := shelf_no_many ⟨cs, ps, bks.map Bk.pb⟩ (by simpa using hmany)
    have h6 : (6 : Int) < (bks.length : Int) := by omega
    clear k0
    go_wp2_with fail
    go_ret
    exact ⟨ret_bool HV.out.symm, d0⟩
  have h6 : ¬ (6 : Int) < (bks.length : Int) := by omega
  obtain ⟨M, -, hmk, hown⟩ := made_ints 24 (by omega)
  have own0 := hown w1 w1.heap.size (Nat.le_refl _)
  have bd0 : Below w1.heap.size w1 (w1.alloc (.cells M 2)) := bw_alloc (Below.refl _ _)
  rw [row24_zero] at own0
  have e24 : ((24 : Nat) : Int) = 24 := rfl
  rw [e24] at hmk
  clear hown e24
  go_wp2_with fail
  generalize w1.alloc (.cells M 2) = WM at *
  clear hmk p2
  obtain ⟨bs, hbs⟩ : ∃ bs, bks.map Bk.pb = bs := ⟨_, rfl⟩
  have hbl : bs.length = bks.length := by rw [← hbs, List.length_map]
  have HAT : Hid (∀ (i : Nat) (h1 : i < bks.length) (h2 : i < bs.length), bs[i] = bks[i].pb) := fun i h1 h2 => by subst hbs; simp
  have HBS : Hid _ := hbs
  have HBL : Hid (bs.length = bks.length) := hbl
  obtain ⟨ob', cpb', eb, -, cb, -⟩ := sb.row
  cases eb
  have CB : Hid _ := five_cells cb
  have RM : Hid _ := sb.maps
  have d1 : Below w.heap.size w WM := bw_call d0 bd0
  clear cb hbs
  go_loopw [4] (fun i wr => ∃ q : Nat, q ≤ bks.length ∧ i = .int .i64 q ∧ (∀ j (hj : j < bs.length), j < q → bs[j].ok = true) ∧ (∀ j (hj : j + 1 < bs.length), j + 1 < q → ltB (bs[j]'(by omega)).nm bs[j + 1].nm = true) ∧ wr.ownsRow w1.heap.size 2 1 (.slice (some ⟨w1.heap.size, 0, none⟩) 24 24) 24 ((row24 (fun k => cntAll (bs.take q) (k : Int))).map (Value.int .i64)) ∧ Below w1.heap.size w1 wr) (fun i _ => bks.length - (intOf i).toNat)
  case atStart => exact ⟨0, Nat.zero_le _, rfl, fun j _ h => by omega, fun j _ h => by omega, own0, bd0⟩
  case round =>
    clear own0 bd0 d1
    obtain ⟨q, hq, rfl, hoks, hsrt, own, hb⟩ := hrel
    have HOKS : Hid _ := hoks
    have HSRT : Hid _ := hsrt
    have kq := (hb.block _ l0).trans k0
    have dq := bw_call d0 hb
    have lq : w.heap.size < wr.heap.size := Nat.lt_of_lt_of_le l0 hb.size
    clear hoks hsrt
    by_cases hlt : q < bks.length
    · obtain ⟨g, off, rfl, hg, a0, a1, a2, a3, a4⟩ := CB.out q hlt
      have hltb : q < bs.length := by have := HBL.out; omega
      have rm := (RM.out bks[q] (List.getElem_mem hlt)).below hb
      have hnm := HN.out bks[q] (List.getElem_mem hlt)
      have hat := HAT.out q hlt hltb
      have HPREV : Hid (∀ q', q = q' + 1 → ∃ (h : q' < bs.length), wr.cell? ⟨g, off + q' * 5, none⟩ = some (.string bs[q'].nm)) := fun q' e => by
        have hl' : q' < bks.length := by omega
        obtain ⟨g', off', e', hg', c0, -⟩ := CB.out q' hl'
        cases e'
        have hl2 : q' < bs.length := by have := HBL.out; omega
        refine ⟨hl2, ?_⟩
        rw [HAT.out q' hl' hl2]
        exact (hb.cell (p := ⟨g, off + q' * 5, none⟩) hg).trans c0
      obtain ⟨x, hx⟩ : ∃ x, bks[q] = x := ⟨_, rfl⟩
      rw [hx] at a0 a1 a2 a3 a4 rm hnm hat
      clear hx
      obtain ⟨nm, sz, m, rs, fx, ep⟩ := x
      simp only at a0 a1 a2 a3 a4 rm hnm
      obtain ⟨o', cap', hm'⟩ := rm.form
      subst hm'
      have lg : g < wr.heap.size := Nat.lt_of_lt_of_le hg hb.size
      have hne := BelowOf.any wr
      have c0 := BelowOf.cell ((hb.cell (p := ⟨g, off + q * 5, none⟩) hg).trans a0) lg
      have c1 := BelowOf.cell ((hb.cell (p := ⟨g, off + q * 5 + 1, none⟩) hg).trans a1) lg
      have c2 := BelowOf.cell ((hb.cell (p := ⟨g, off + q * 5 + 2, none⟩) hg).trans a2) lg
      have c3 := BelowOf.cell ((hb.cell (p := ⟨g, off + q * 5 + 3, none⟩) hg).trans a3) lg
      have c4 := BelowOf.cell ((hb.cell (p := ⟨g, off + q * 5 + 4, none⟩) hg).trans a4) lg
      have cB := BelowOf.cell (v := .slice (some ⟨g, off, none⟩) bks.length cpb) (at_cell kq 2) lq
      obtain ⟨okv, hok⟩ : ∃ x, bookOk nm sz rs ep = x := ⟨_, rfl⟩
      have HOK : Hid (bookOk nm sz rs ep = okv) := hok
      have HBO : Hid (bs[q].ok = okv) := by rw [Hid, hat]; exact hok
      have HBN : Hid (bs[q].nm = nm ∧ bs[q].rs = rs) := by rw [Hid, hat]; exact ⟨rfl, rfl⟩
      have H52 : ∀ z : BelowOf wr, Calls Try.prog 32 #[.agg #[.string nm, .int .i64 sz, .slice o' rs.length cap', .bool fx, .int .i64 ep]] z.w' fun e w' => e = .returned (.bool okv) ∧ Below z.w'.heap.size z.w' w' := fun z => by have h := specBookOk_any nm sz _ rs fx ep z.w' hnm (rm.of hb.size z); rwa [HOK.out] at h
      have i0 : (0 : Int) ≤ (q : Int) := by omega
      have i1 : (q : Int) < (bks.length : Int) := by omega
      have pB := at_cell kq 2
      clear hok hat a0 a1 a2 a3 a4
      go_upto_region 7 with fail
      clear pB
      go_cut [52] (fun v wx => ∃ y : Bool, v = .bool y ∧ (y = true → shelfOk ⟨cs, ps, bs⟩ = false) ∧ (y = false → okv = true ∧ ∀ q', q = q' + 1 → ∀ (h : q' < bs.length), ltB bs[q'].nm nm = true) ∧ Below wr.heap.size wr wx)
      case first =>
        cases okv
        · have HV : Hid _ := shelf_no_book ⟨cs, ps, bs⟩ q hltb HBO.out
          refine wp_region_of (by kernel_rfl) (by kernel_rfl) ?_
          repeat (go_big_quiet_step ((first | (go_at_call 32; exact calls_of (H52 _)) | rfl)))
          refine wpQuiet_nil ?_
          intro w5 hw5
          obtain ⟨⟨wx, cx⟩, hwx⟩ := hw5
          have b5 : Below wr.heap.size wr w5 := by rw [hwx]; exact cx
          clear hwx cx wx
          go_wp2_with fail
          go_meet
          exact ⟨true, rfl, fun _ => HV.out, (fun h => by cases h), b5⟩
        · rcases Nat.eq_zero_or_pos q with hq0 | hqp
          · have j2 : decide (0 < q) = false := decide_eq_false (by omega)
            have HQ0 : Hid (q = 0) := hq0
            clear hq0
            refine wp_region_of (by kernel_rfl) (by kernel_rfl) ?_
            repeat (go_big_quiet_step ((first | (go_at_call 32; exact calls_of (H52 _)) | rfl)))
            refine wpQuiet_nil ?_
            intro w5 hw5
            obtain ⟨⟨wx, cx⟩, hwx⟩ := hw5
            have b5 : Below wr.heap.size wr w5 := by rw [hwx]; exact cx
            clear hwx cx wx
            go_wp2_with fail
            go_meet
            exact ⟨false, rfl, (fun h => by cases h), (fun _ => ⟨by first | rfl | trivial, fun q' h => by have := HQ0.out; omega⟩), b5⟩
          · obtain ⟨q', hqq⟩ : ∃ q', q = q' + 1 := ⟨q - 1, by omega⟩
            have HQQ : Hid (q = q' + 1) := hqq
            obtain ⟨hl2, cp⟩ := HPREV.out q' hqq
            have cP := BelowOf.cell cp lg
            obtain ⟨pn, hpn⟩ : ∃ x, bs[q'].nm = x := ⟨_, rfl⟩
            have HPN : Hid (bs[q'].nm = pn) := hpn
            rw [hpn] at cP
            have hw1 : IntKind.i64.wrap ((q : Int) - 1) = q' := by rw [IntKind.wrap_i64]; omega
            have hw2 : (q : Int) - 1 = q' := by omega
            have hw3 : IntKind.i64.wrap (q' : Int) = q' := by rw [IntKind.wrap_i64]; omega
            have j0 : (0 : Int) ≤ (q' : Int) := by omega
            have j1 : (q' : Int) < (bks.length : Int) := by omega
            have j2 : decide (0 < q) = true := decide_eq_true (by omega)
            have HGT : Hid (ltB pn nm = !(ltB nm pn || (nm.toList == pn.toList))) := ltB_gt pn nm
            obtain ⟨ly, hly⟩ : ∃ y, Op.bytesLess nm.toList pn.toList = y := ⟨_, rfl⟩
            obtain ⟨ey, hey⟩ : ∃ y, (nm.toList == pn.toList) = y := ⟨_, rfl⟩
            have HLY : Hid (ltB nm pn = ly ∧ (nm.toList == pn.toList) = ey) := ⟨hly, hey⟩
            clear hpn cp hqq hqp
            refine wp_region_of (by kernel_rfl) (by kernel_rfl) ?_
            repeat (go_big_quiet_step ((first | (go_at_call 32; exact calls_of (H52 _)) | rfl)))
            refine wpQuiet_nil ?_
            intro w5 hw5
            obtain ⟨⟨wx, cx⟩, hwx⟩ := hw5
            have b5 : Below wr.heap.size wr w5 := by rw [hwx]; exact cx
            clear hwx cx wx
            go_wp2_with fail
            go_meet
            refine ⟨(ly || ey), rfl, fun h => ?_, fun h => ⟨by first | rfl | trivial, fun q'' e hh => ?_⟩, b5⟩
            · have hf : ltB pn nm = false := by rw [HGT.out, HLY.out.1, HLY.out.2, h]; rfl
              have hq1 := HQQ.out
              subst hq1
              exact shelf_no_order ⟨cs, ps, bs⟩ q' hltb (by simp only; rw [HPN.out, HBN.out.1]; exact hf)
            · obtain rfl : q'' = q' := by have := HQQ.out; omega
              rw [HPN.out, HGT.out, HLY.out.1, HLY.out.2, h]; rfl
      case rest =>
        obtain ⟨y, rfl, hy1, hy2, b5⟩ := hcut
        have kc := (b5.block _ lq).trans kq
        have dc := bw_call dq b5
        have ownc := owns_below own b5
        have pB := at_cell kc 2
        have c2' := c2 ⟨wc, b5⟩
        simp only at c2'
        have rmc := rm.of hb.size ⟨wc, b5⟩
        simp only at rmc
        have hbc := bw_call hb b5
        clear c0 c1 c2 c3 c4 cB H52 hne HPREV own
        cases y
        · obtain ⟨hokv, hord⟩ := hy2 rfl
          have HORD : Hid _ := hord
          have hok2 : bookOk nm sz rs ep = true := HOK.out.trans hokv
          have HMP : Hid (mapOk rs = true) := (book_parts (b := ⟨nm, sz, rs, fx, ep⟩) hok2).2.2.2.1
          have HBQ : Hid (bs[q].ok = true) := HBO.out.trans hokv
          clear hy1 hy2 hord hok2 hokv HOK HBO
          go_wp2_with fail
          clear pB c2'
          refine (l5Of_any _ rs _ HMP.out rmc).mono ?_
          rintro e w6 ⟨v', rfl, own6, hnn, b6⟩
          have HPI : Hid (∀ p ∈ (pages rs).filter (fun p => decide (0 ≤ p)), 0 ≤ p ∧ p ≤ 23) := fun p hp => pagesOf_in rs HMP.out p (by rw [pagesOf, if_pos HMP.out]; exact hp)
          have HCN : Hid (∀ k : Nat, (((pages rs).filter (fun p => decide (0 ≤ p))).count (k : Int) : Int) = bs[q].cnt (k : Int)) := fun k => by
            have := pagesOf_cnt bs[q] HBQ.out k
            rw [HBN.out.2, pagesOf, if_pos HMP.out] at this
            exact this
          have hLl : ((pages rs).filter (fun p => decide (0 ≤ p))).length ≤ 16 := by
            have := List.length_filter_le (fun p => decide (0 ≤ p)) (pages rs)
            rw [pages_length] at this
            exact this
          generalize (pages rs).filter (fun p => decide (0 ≤ p)) = L at *
          obtain ⟨g6, cap6, hv6⟩ : ∃ g6 cap6, v' = .slice (some ⟨g6, 0, none⟩) L.length cap6 := by
            rcases own6.2 with ⟨e, _⟩ | ⟨g6, cap6, _, e, _⟩
            · exact absurd e hnn
            · exact ⟨g6, cap6, e⟩
          subst hv6
          have hg6 := own6.lt g6 rfl
          have own7 := owns_below ownc b6
          have hlc := (ownc.lt w1.heap.size rfl).2
          have hne6 : ¬ g6 = w1.heap.size := by omega
          have hb7 := bw_call hbc b6
          have hcl := own6.cellAt
          have HCL : Hid (∀ j, j < L.length → w6.cell? ⟨g6, j, none⟩ = some (.int .i64 (L.getD j 0))) := fun j hj => (hcl j (by omega)).trans (getD_some L j hj)
          have hgl : g6 < w6.heap.size := hg6.2
          clear hcl own6 hnn b6 ownc hbc rmc kc dc b5
          go_wp2_with fail
          go_loopw [6] (fun i wr2 => ∃ j : Nat, j ≤ L.length ∧ i = .int .i64 j ∧ wr2.ownsRow w1.heap.size 2 1 (.slice (some ⟨w1.heap.size, 0, none⟩) 24 24) 24 ((row24 (fun k => cntAll (bs.take q) (k : Int) + ((L.take j).count (k : Int) : Int))).map (Value.int .i64)) ∧ Upto w1.heap.size w6 wr2) (fun i _ => L.length - (intOf i).toNat)
          case atStart =>
            refine ⟨0, Nat.zero_le _, rfl, ?_, Upto.refl _ _⟩
            rw [row24_congr _ (fun k => cntAll (bs.take q) (k : Int)) (fun k hk => by simp)]
            exact own7
          case round =>
            obtain ⟨j, hj, rfl, own, u⟩ := hrel
            by_cases hlt2 : j < L.length
            · have hpj := HPI.out (L.getD j 0) (by rw [getD_of L j hlt2]; exact List.getElem_mem hlt2)
              have cj := (u.cell (p := ⟨g6, j, none⟩) hgl hne6).trans (HCL.out j hlt2)
              have HCT : Hid (∀ k : Nat, ((L.take (j + 1)).count (k : Int) : Int) = ((L.take j).count (k : Int) : Int) + (if L.getD j 0 = (k : Int) then 1 else 0)) := fun k => by
                rw [count_take L j hlt2, getD_of L j hlt2]
              generalize L.getD j 0 = p at hpj cj HCT
              obtain ⟨m, rfl⟩ := Int.eq_ofNat_of_zero_le hpj.1
              obtain ⟨cn, fn, ow⟩ := row24_inc own m (by omega)
              have hx0 : 0 ≤ cntAll (bs.take q) (m : Int) := cntAll_nonneg _ _
              have hx1 : cntAll (bs.take q) (m : Int) ≤ 96 := by
                have h1 := cntAll_le (bs.take q) (m : Int)
                have h2 : (bs.take q).length ≤ q := by rw [List.length_take]; omega
                omega
              have hx2 : (L.take j).count (m : Int) ≤ 16 := by
                have := List.count_le_length (a := (m : Int)) (l := L.take j)
                rw [List.length_take] at this
                omega
              have e1 : row24 (fun k => if m = k then cntAll (bs.take q) (m : Int) + ((L.take j).count (m : Int) : Int) + 1 else cntAll (bs.take q) (k : Int) + ((L.take j).count (k : Int) : Int)) = row24 (fun k => cntAll (bs.take q) (k : Int) + ((L.take (j + 1)).count (k : Int) : Int)) := row24_congr _ _ (fun k hk => by
                rw [HCT.out k]
                by_cases e : m = k
                · subst e; rw [if_pos rfl, if_pos rfl]; omega
                · rw [if_neg e, if_neg (by omega)]; omega)
              rw [e1] at ow
              have HO : Hid _ := And.intro ow (u.setCell ⟨w1.heap.size, m, none⟩ (.inl rfl) (.int .i64 (cntAll (bs.take q) (m : Int) + ((L.take j).count (m : Int) : Int) + 1)))
              have hxx : 0 ≤ cntAll (bs.take q) (m : Int) + ((L.take j).count (m : Int) : Int) ∧ cntAll (bs.take q) (m : Int) + ((L.take j).count (m : Int) : Int) ≤ 1000 := by omega
              generalize cntAll (bs.take q) (m : Int) + ((L.take j).count (m : Int) : Int) = x at cn HO hxx
              have t0 : (0 : Int) ≤ (j : Int) := by omega
              have t1 : (j : Int) < (L.length : Int) := by omega
              have t2 : (0 : Int) ≤ (m : Int) := by omega
              have t3 : (m : Int) < 24 := by omega
              have t4 : m < 24 := by omega
              have hwx : IntKind.i64.wrap (x + 1) = x + 1 := by rw [IntKind.wrap_i64]; omega
              clear ow e1 own HCT hx0 hx1 hx2
              go_wp2_with fail
              go_region
              all_goals
                go_wp2_with fail
                go_roundw
                case rel => exact ⟨j + 1, by omega, by go_num, owns_below HO.out.1 ((Below.refl _ _).drew), HO.out.2.drew⟩
                case measure => simp [intOf]; omega
            · have hjl : j = L.length := by omega
              have e1 : row24 (fun k => cntAll (bs.take q) (k : Int) + ((L.take j).count (k : Int) : Int)) = row24 (fun k => cntAll (bs.take (q + 1)) (k : Int)) := row24_congr _ _ (fun k hk => by
                rw [hjl, List.take_length, HCN.out k, cntAll_take bs q hltb])
              rw [e1] at own
              have HO : Hid _ := And.intro own (hb7.trans (u.toBelow hb7.size (Nat.le_refl _)))
              have HOK2 : Hid (∀ j (hj : j < bs.length), j < q + 1 → bs[j].ok = true) := fun j hj h => by
                rcases Nat.lt_or_ge j q with z | z
                · exact HOKS.out j hj z
                · obtain rfl : j = q := by omega
                  exact HBQ.out
              have HSR2 : Hid (∀ j (hj : j + 1 < bs.length), j + 1 < q + 1 → ltB (bs[j]'(by omega)).nm bs[j + 1].nm = true) := fun j hj h => by
                rcases Nat.lt_or_ge (j + 1) q with z | z
                · exact HSRT.out j hj z
                · obtain rfl : q = j + 1 := by omega
                  have := HORD.out j rfl (by omega)
                  rwa [← HBN.out.1] at this
              clear own e1
              go_wp2_with fail
              go_roundw
              case rel => exact ⟨q + 1, by omega, by go_num, HOK2.out, HSR2.out, HO.out.1, HO.out.2⟩
              case measure => simp [intOf]; omega
        · have HV : Hid _ := hy1 rfl
          clear hy1 hy2
          go_wp2_with fail
          go_ret
          exact ⟨ret_bool (by rw [HBS.out]; exact HV.out.symm), dc⟩
    · have hqe : q = bks.length := by omega
      have HOK3 : Hid (∀ j (hj : j < bs.length), bs[j].ok = true) := fun j hj => HOKS.out j hj (by have := HBL.out; omega)
      have HSR3 : Hid (∀ j (hj : j + 1 < bs.length), ltB (bs[j]'(by omega)).nm bs[j + 1].nm = true) := fun j hj => HSRT.out j hj (by have := HBL.out; omega)
      have htk : bs.take q = bs := List.take_of_length_le (by have := HBL.out; omega)
      rw [htk] at own
      have pB := at_cell kq 2
      have p0 := at_cell kq 0
      have s1q := (s1.below hb)
      obtain ⟨_, _, e1, -, c1, -⟩ := s1q
      simp only [List.length_map] at e1
      cases e1
      have C1 : Hid _ := cell_i64 c1
      have HLN : Hid (∀ k, k < 24 → wr.cell? ⟨w1.heap.size, k, none⟩ = some (.int .i64 (cntAll bs (k : Int)))) := fun k hk => by
        rw [own.cellAt k (by omega), getD_some _ k (by rw [row24_length]; exact hk), row24_get _ k hk]
      have hql : ¬ (q : Int) < (bks.length : Int) := by omega
      have lw : w1.heap.size < wr.heap.size := (own.lt _ rfl).2
      clear c1 htk HOKS HSRT own CB RM
      go_wp2_with fail
      clear pB
      generalize wr = wq at *
      go_loopw [7] (fun i wr2 => ∃ k : Nat, k ≤ 24 ∧ i = .int .i64 k ∧ (∀ j, j < k → ¬ ((j < cs.length ∧ cntAll bs (j : Int) ≠ cs.getD j 0) ∨ (cs.length ≤ j ∧ 0 < cntAll bs (j : Int)))) ∧ Below wq.heap.size wq wr2) (fun i _ => 24 - (intOf i).toNat)
      case atStart => exact ⟨0, Nat.zero_le _, rfl, fun j h => by omega, Below.refl _ _⟩
      case round =>
        obtain ⟨k, hk, rfl, hall, hb2⟩ := hrel
        have HA : Hid _ := hall
        have kk := (hb2.block _ lq).trans kq
        have dk := bw_call dq hb2
        have p0 := at_cell kk 0
        clear hall
        by_cases hlt2 : k < 24
        · have ck := (hb2.cell (p := ⟨w1.heap.size, k, none⟩) lw).trans (HLN.out k hlt2)
          have HN1 : Hid (¬ ((k < cs.length ∧ cntAll bs (k : Int) ≠ cs.getD k 0) ∨ (cs.length ≤ k ∧ 0 < cntAll bs (k : Int))) → ∀ j, j < k + 1 → ¬ ((j < cs.length ∧ cntAll bs (j : Int) ≠ cs.getD j 0) ∨ (cs.length ≤ j ∧ 0 < cntAll bs (j : Int)))) := fun h j hj => by
            rcases Nat.lt_or_ge j k with z | z
            · exact HA.out j z
            · obtain rfl : j = k := by omega
              exact h
          have HBAD : Hid (((k < cs.length ∧ cntAll bs (k : Int) ≠ cs.getD k 0) ∨ (cs.length ≤ k ∧ 0 < cntAll bs (k : Int))) → shelfOk ⟨cs, ps, bs⟩ = false) := fun h => shelf_no_count ⟨cs, ps, bs⟩ k hlt2 h
          have t0 : (0 : Int) ≤ (k : Int) := by omega
          have t1 : (k : Int) < 24 := by omega
          by_cases hkl : k < cs.length
          · obtain ⟨g, off, e, hg, cc⟩ := C1.out k hkl
            subst e
            have ccw := (hb2.cell (p := ⟨g, off + k, none⟩) (Nat.lt_trans hg lw)).trans cc
            have hd1 : decide (k < cs.length) = true := decide_eq_true hkl
            have hd2 : decide (cs.length ≤ k) = false := decide_eq_false (by omega)
            have hd3 : (k : Int) < (cs.length : Int) := by omega
            by_cases heq : cntAll bs (k : Int) = cs.getD k 0
            · have HN2 : Hid _ := HN1.out (fun h => by rcases h with h | h; exact h.2 heq; omega)
              rw [← heq] at ccw
              generalize cntAll bs (k : Int) = x at ck ccw
              clear HN1 HBAD HA C1 HLN heq cc
              go_wp2_with fail
              go_quiet (fail)
              go_wp2_with fail
              go_roundw
              case rel => exact ⟨k + 1, by omega, by go_num, HN2.out, ⟨hb2.os, hb2.tape, hb2.output, hb2.size, hb2.block⟩⟩
              case measure => simp [intOf]; omega
            · have HV : Hid _ := HBAD.out (.inl ⟨hkl, heq⟩)
              have hne1 : (cntAll bs (k : Int) == cs.getD k 0) = false := by rw [beq_eq_false_iff_ne]; exact heq
              have hne2 : (cntAll bs (k : Int) != cs.getD k 0) = true := by rw [bne_iff_ne]; exact heq
              generalize cntAll bs (k : Int) = x at ck hne1 hne2
              generalize cs.getD k 0 = y at ccw hne1 hne2
              clear HN1 HBAD HA C1 HLN heq cc
              go_wp2_with fail
              go_quiet (fail)
              go_wp2_with fail
              go_ret
              exact ⟨ret_bool (by rw [HBS.out]; exact HV.out.symm), ⟨dk.os, dk.tape, dk.output, dk.size, dk.block⟩⟩
          · have hd1 : decide (k < cs.length) = false := decide_eq_false hkl
            have hd2 : decide (cs.length ≤ k) = true := decide_eq_true (by omega)
            have hd3 : ¬ (k : Int) < (cs.length : Int) := by omega
            by_cases hpos : 0 < cntAll bs (k : Int)
            · have HV : Hid _ := HBAD.out (.inr ⟨by omega, hpos⟩)
              generalize cntAll bs (k : Int) = x at ck hpos
              clear HN1 HBAD HA C1 HLN
              go_wp2_with fail
              go_quiet (fail)
              go_wp2_with fail
              go_ret
              exact ⟨ret_bool (by rw [HBS.out]; exact HV.out.symm), ⟨dk.os, dk.tape, dk.output, dk.size, dk.block⟩⟩
            · have HN2 : Hid _ := HN1.out (fun h => by rcases h with h | h; exact hkl h.1; exact hpos h.2)
              generalize cntAll bs (k : Int) = x at ck hpos
              clear HN1 HBAD HA C1 HLN
              go_wp2_with fail
              go_quiet (fail)
              go_wp2_with fail
              go_roundw
              case rel => exact ⟨k + 1, by omega, by go_num, HN2.out, ⟨hb2.os, hb2.tape, hb2.output, hb2.size, hb2.block⟩⟩
              case measure => simp [intOf]; omega
        · have HV : Hid (shelfOk ⟨cs, ps, bs⟩ = true) := shelf_yes ⟨cs, ps, bs⟩ HPO.out (by simp only; have := HBL.out; omega) HOK3.out HSR3.out (fun j hj => HA.out j (by omega))
          clear HA C1 HLN
          go_wp2_with fail
          go_ret
          exact ⟨ret_bool (by rw [HBS.out]; exact HV.out.symm), dk⟩
end Go.Proofs.Ytkjdfgjmkomcgaa

namespace Go.Proofs.Ytkjdfgjmkomcgaa
open Go.RowKit

set_option linter.unusedVariables false

set_option maxRecDepth 100000

theorem pagesOf_few (rs : List (Int × Int × Int)) : (pagesOf rs).length ≤ 16 := by
  unfold pagesOf
  split
  · have := List.length_filter_le (fun p => decide (0 ≤ p)) (pages rs)
    rw [pages_length] at this
    exact this
  · simp
end Go.Proofs.Ytkjdfgjmkomcgaa

namespace Go.Proofs.Ytkjdfgjmkomcgaa
open Go.RowKit

set_option linter.unusedVariables false

/-- How memory lies when a map was drawn. -/
structure MapSt (c : Nat) (x : Option Addr) (len cap : Nat) (w W : World) (g cp : Nat) (rs : List (Int × Int × Int)) : Prop where
  own : W.ownsRow w.heap.size 106 3 (.slice (some ⟨g, 0, none⟩) rs.length cp) rs.length (rs.flatMap runC)
  few : rs.length ≤ 17
  fit : FitRuns rs
  kc : Cur W c x len cap
  u : Upto c w W
  lt : c < w.heap.size

theorem MapSt.step {c g cp : Nat} {x : Option Addr} {len cap : Nat} {w W W' : World} {rs : List (Int × Int × Int)} (h : MapSt c x len cap w W g cp rs) (u : Upto c W W') (kc : Cur W' c x len cap) : MapSt c x len cap w W' g cp rs :=
  ⟨ownsRow_upto h.own u h.lt, h.few, h.fit, kc, h.u.trans u, h.lt⟩

theorem MapSt.alloc {c g cp : Nat} {x : Option Addr} {len cap : Nat} {w W : World} {rs : List (Int × Int × Int)} (h : MapSt c x len cap w W g cp rs) (o : Obj) : MapSt c x len cap w (W.alloc o) g cp rs :=
  h.step ((Upto.refl c W).alloc o) (h.kc.alloc o)

theorem MapSt.lo {c g cp : Nat} {x : Option Addr} {len cap : Nat} {w W : World} {rs : List (Int × Int × Int)} (h : MapSt c x len cap w W g cp rs) : w.heap.size ≤ g ∧ g < W.heap.size := h.own.lt g rfl

/-- A run more. -/
theorem MapSt.more {c g cp : Nat} {x : Option Addr} {len cap : Nat} {w W W' : World} {rs : List (Int × Int × Int)} {r : Int × Int × Int} {v : Value} (h : MapSt c x len cap w W g cp rs) (hl : rs.length ≤ 16) (hf : I64 r.1 ∧ I64 r.2.1 ∧ I64 r.2.2) (hown : W'.ownsRow w.heap.size 106 3 v (rs.length + 1) (rs.flatMap runC ++ runC r)) (hg : W.grownBy W' (some g)) (hn : v ≠ .slice none 0 0) :
    ∃ g' cp', v = .slice (some ⟨g', 0, none⟩) (rs ++ [r]).length cp' ∧ MapSt c x len cap w W' g' cp' (rs ++ [r]) := by
  have own3 : W'.ownsRow w.heap.size 106 3 v (rs ++ [r]).length ((rs ++ [r]).flatMap runC) := by simpa using hown
  have hlo := h.lo
  have hlt := h.lt
  have kl := h.kc.lt
  rcases own3.2 with ⟨e, _⟩ | ⟨g', cp', cur, e, h2⟩
  · exact absurd e hn
  · subst e
    refine ⟨g', cp', rfl, own3, by simp; omega, fun q hq => ?_, h.kc.same ((Below.refl _ _).grown hg kl (fun q hq => ?_)), h.u.grown hg (fun q hq => ?_), h.lt⟩
    · rcases List.mem_append.1 hq with hq | hq
      · exact h.fit q hq
      · simp at hq
        subst hq
        exact hf
    · simp at hq; omega
    · simp at hq; left; omega

/-- Pages that may be drawn. -/
def PagesIn (l : List Int) : Prop := l.length = 16 ∧ ∀ j, j < 16 → -1 ≤ l.getD j 0 ∧ l.getD j 0 ≤ 23

theorem PagesIn.set {l : List Int} (h : PagesIn l) (k : Nat) (hk : k < 16) (p : Int) (hp : -1 ≤ p ∧ p ≤ 23) : PagesIn (l.set k p) := by
  refine ⟨by rw [List.length_set]; exact h.1, fun j hj => ?_⟩
  rw [getD_set16 _ _ _ _ (by rw [h.1]; exact hk)]
  by_cases e : k = j
  · rw [if_pos e]; exact hp
  · rw [if_neg e]; exact h.2 j hj

theorem PagesIn.none : PagesIn none16 := ⟨rfl, fun j hj => by rw [none16_at j hj]; omega⟩
end Go.Proofs.Ytkjdfgjmkomcgaa

namespace Go.Proofs.Ytkjdfgjmkomcgaa
open Go.RowKit

set_option linter.unusedVariables false


/-- A book that was drawn: its map is a row of its own, its numbers are small. -/
structure BookSt (c : Nat) (x : Option Addr) (len cap : Nat) (w W : World) (b : Bk) : Prop where
  own : W.ownsRow w.heap.size 106 3 b.m b.rs.length (b.rs.flatMap runC)
  kc : Cur W c x len cap
  u : Upto c w W
  lt : c < w.heap.size
  few : b.rs.length ≤ 17
  fit : FitRuns b.rs
  nm : b.nm.size ≤ 5
  sz : -1 ≤ b.sz ∧ b.sz ≤ 17
  ep : -1 ≤ b.ep ∧ b.ep ≤ 1001

theorem BookSt.step {c : Nat} {x : Option Addr} {len cap : Nat} {w W W' : World} {b : Bk} (h : BookSt c x len cap w W b) (u : Upto c W W') (kc : Cur W' c x len cap) : BookSt c x len cap w W' b :=
  ⟨ownsRow_upto h.own u h.lt, kc, h.u.trans u, h.lt, h.few, h.fit, h.nm, h.sz, h.ep⟩

theorem BookSt.below {c : Nat} {x : Option Addr} {len cap : Nat} {w W W' : World} {b : Bk} (h : BookSt c x len cap w W b) (k : Below W.heap.size W W') : BookSt c x len cap w W' b :=
  h.step (Upto.ofBelow k) (h.kc.below k)

theorem BookSt.form {c : Nat} {x : Option Addr} {len cap : Nat} {w W : World} {b : Bk} (h : BookSt c x len cap w W b) : ∃ o cp, b.m = .slice o b.rs.length cp := own_slice h.own

theorem BookSt.reads {c : Nat} {x : Option Addr} {len cap : Nat} {w W : World} {b : Bk} (h : BookSt c x len cap w W b) : ReadsR 3 runC W.heap.size W b.m b.rs := ReadsR.of_own runC_len h.own

/-- A block of another type that lies behind the start is written. -/
theorem BookSt.put {c : Nat} {x : Option Addr} {len cap : Nat} {w W : World} {b : Bk} {g i : Nat} {cs : Array Value} (h : BookSt c x len cap w W b) (k : W.heap[g]? = some (.cells cs 39 (0, 0))) (hg : w.heap.size ≤ g) (v : Value) : BookSt c x len cap w (W.setCell ⟨g, i, none⟩ v) b := by
  have hne := own_not_box h.own k (by decide)
  have hlt := h.lt
  have hb : ∀ q, q < W.heap.size → q ≠ g → (W.setCell ⟨g, i, none⟩ v).heap[q]? = W.heap[q]? := fun q hq hqg => ((Upto.refl g W).setCell ⟨g, i, none⟩ (.inl rfl) v).block q hq hqg
  refine ⟨own_rng_not h.own (fun q hq hv => hb q hq (fun e => hne (by rw [← e]; exact hv))), h.kc.same (((Upto.refl g W).setCell ⟨g, i, none⟩ (.inl rfl) _).toBelow h.kc.lt (by omega)), h.u.setCell ⟨g, i, none⟩ (.inr hg) _, h.lt, h.few, h.fit, h.nm, h.sz, h.ep⟩

/-- While it is drawn: the book's box at nB, the answer's at the start's end. -/
structure BkSt (c : Nat) (x : Option Addr) (len cap nB : Nat) (w W : World) (b : Bk) : Prop where
  st : BookSt c x len cap w W b
  kB : W.heap[nB]? = some (.cells #[.string b.nm, .int .i64 b.sz, b.m, .bool b.fx, .int .i64 b.ep] 39 (0, 0))
  kR : W.heap[w.heap.size]? = some (.cells #[.string ⟨#[]⟩, .int .i64 0, .slice none 0 0, .bool false, .int .i64 0] 39 (0, 0))
  nb : w.heap.size < nB

theorem BkSt.step {c nB : Nat} {x : Option Addr} {len cap : Nat} {w W W' : World} {b : Bk} (h : BkSt c x len cap nB w W b) (u : Upto c W W') (kc : Cur W' c x len cap) : BkSt c x len cap nB w W' b := by
  have hlt := h.st.lt
  have hnb := h.nb
  exact ⟨h.st.step u kc, (u.block _ (heap_lt h.kB) (by omega)).trans h.kB, (u.block _ (heap_lt h.kR) (by omega)).trans h.kR, h.nb⟩

theorem BkSt.below {c nB : Nat} {x : Option Addr} {len cap : Nat} {w W W' : World} {b : Bk} (h : BkSt c x len cap nB w W b) (k : Below W.heap.size W W') : BkSt c x len cap nB w W' b :=
  h.step (Upto.ofBelow k) (h.st.kc.below k)

theorem BkSt.alloc {c nB : Nat} {x : Option Addr} {len cap : Nat} {w W : World} {b : Bk} (h : BkSt c x len cap nB w W b) (o : Obj) : BkSt c x len cap nB w (W.alloc o) b :=
  h.below (bw_alloc (Below.refl _ _))

theorem BkSt.other {c nB : Nat} {x : Option Addr} {len cap : Nat} {w W : World} {b : Bk} (h : BkSt c x len cap nB w W b) (i : Nat) (v : Value) : (W.setCell ⟨nB, i, none⟩ v).heap[w.heap.size]? = some (.cells #[.string ⟨#[]⟩, .int .i64 0, .slice none 0 0, .bool false, .int .i64 0] 39 (0, 0)) :=
  (((Upto.refl nB W).setCell ⟨nB, i, none⟩ (.inl rfl) v).block _ (heap_lt h.kR) (Nat.ne_of_lt h.nb)).trans h.kR

theorem BkSt.name {c nB : Nat} {x : Option Addr} {len cap : Nat} {w W : World} {b : Bk} (h : BkSt c x len cap nB w W b) (s : ByteArray) (hs : s.size ≤ 5) : BkSt c x len cap nB w (W.setCell ⟨nB, 0, none⟩ (.string s)) ⟨s, b.sz, b.m, b.rs, b.fx, b.ep⟩ := by
  have p := h.st.put (i := 0) h.kB (Nat.le_of_lt h.nb) (.string s)
  exact ⟨⟨p.own, p.kc, p.u, p.lt, p.few, p.fit, hs, p.sz, p.ep⟩, set_at h.kB 0 _, h.other 0 _, h.nb⟩

theorem BkSt.size {c nB : Nat} {x : Option Addr} {len cap : Nat} {w W : World} {b : Bk} (h : BkSt c x len cap nB w W b) (z : Int) (hz : -1 ≤ z ∧ z ≤ 17) : BkSt c x len cap nB w (W.setCell ⟨nB, 1, none⟩ (.int .i64 z)) ⟨b.nm, z, b.m, b.rs, b.fx, b.ep⟩ := by
  have p := h.st.put (i := 1) h.kB (Nat.le_of_lt h.nb) (.int .i64 z)
  exact ⟨⟨p.own, p.kc, p.u, p.lt, p.few, p.fit, p.nm, hz, p.ep⟩, set_at h.kB 1 _, h.other 1 _, h.nb⟩

theorem BkSt.map {c nB base : Nat} {x : Option Addr} {len cap : Nat} {w W : World} {b : Bk} (h : BkSt c x len cap nB w W b) (m : Value) (rs : List (Int × Int × Int)) (hl : rs.length ≤ 17) (hf : FitRuns rs) (hb : w.heap.size ≤ base) (own : W.ownsRow base 106 3 m rs.length (rs.flatMap runC)) : BkSt c x len cap nB w (W.setCell ⟨nB, 2, none⟩ m) ⟨b.nm, b.sz, m, rs, b.fx, b.ep⟩ := by
  have p : BookSt c x len cap w (W.setCell ⟨nB, 2, none⟩ m) ⟨b.nm, b.sz, m, rs, b.fx, b.ep⟩ := BookSt.put (b := ⟨b.nm, b.sz, m, rs, b.fx, b.ep⟩) (i := 2) ⟨owns_mono own hb, h.st.kc, h.st.u, h.st.lt, hl, hf, h.st.nm, h.st.sz, h.st.ep⟩ h.kB (Nat.le_of_lt h.nb) m
  exact ⟨p, set_at h.kB 2 _, h.other 2 _, h.nb⟩
end Go.Proofs.Ytkjdfgjmkomcgaa

namespace Go.Proofs.Ytkjdfgjmkomcgaa
open Go.RowKit

set_option linter.unusedVariables false

set_option maxRecDepth 100000

/-- A row of another type stays where a row grows. -/
theorem own_grown {w w' : World} {base base' : Nat} {e e' : TypeId} {k k' : Nat} {v : Value} {n n' g cp : Nat} {xs ys : List Value} (h : w.ownsRow base e k v n xs) (r : w.ownsRow base' e' k' (.slice (some ⟨g, 0, none⟩) n' cp) n' ys) (hne : e' ≠ e) (hg : w.grownBy w' (some g)) : w'.ownsRow base e k v n xs := by
  have u : Upto g w w' := (Upto.refl g w).grown hg (fun q hq => .inr (by cases hq; rfl))
  rcases r.2 with ⟨h0, _⟩ | ⟨g', cap', cur, h0, _, hh, _⟩
  · simp at h0
  · simp at h0
    obtain ⟨rfl, _⟩ := h0
    have hv := own_not_box h hh hne
    exact own_rng_not h (fun q hq hqv => u.block q hq (fun e => hv (by rw [← e]; exact hqv)))

/-- What the laws know of a book that was drawn. -/
structure Drawn (w : World) (b : Bk) : Prop where
  reads : ReadsR 3 runC w.heap.size w b.m b.rs
  fit : FitRuns b.rs
  nm : b.nm.size ≤ maxLen

theorem Drawn.below {w w' : World} {b : Bk} (h : Drawn w b) (k : Below w.heap.size w w') : Drawn w' b := ⟨(h.reads.below k).mono k.size, h.fit, h.nm⟩
end Go.Proofs.Ytkjdfgjmkomcgaa

namespace Go.Proofs.Ytkjdfgjmkomcgaa
open Go.RowKit

set_option linter.unusedVariables false

set_option maxRecDepth 100000

theorem ReadsR.drop {α : Type} {k : Nat} {cs : α → List Value} {B : Nat} {w : World} {g off n cap : Nat} {xs : List α} (h : ReadsR k cs B w (.slice (some ⟨g, off, none⟩) n cap) xs) (i : Nat) (hi : i ≤ n) : ReadsR k cs B w (.slice (some ⟨g, off + i * k, none⟩) (n - i) (cap - i)) (xs.drop i) := by
  obtain ⟨o', cap', e, hm, hc, hr⟩ := h
  simp only [Value.slice.injEq] at e
  obtain ⟨rfl, rfl, rfl⟩ := e
  refine ⟨_, _, by rw [List.length_drop], by rw [List.length_drop]; omega, fun j x hj => ?_, by rw [List.length_drop]; omega⟩
  rw [List.getElem?_drop] at hj
  obtain ⟨g', off', e, hg, hx⟩ := hc (i + j) x hj
  simp only [Option.some.injEq, Addr.mk.injEq, and_true] at e
  obtain ⟨rfl, rfl⟩ := e
  refine ⟨g, off + i * k, rfl, hg, fun q u hq => ?_⟩
  have := hx q u hq
  rwa [show off + (i + j) * k + q = off + i * k + j * k + q by rw [Nat.add_mul]; omega] at this

theorem ReadsR.take {α : Type} {k : Nat} {cs : α → List Value} {B : Nat} {w : World} {o : Option Addr} {n cap : Nat} {xs : List α} (h : ReadsR k cs B w (.slice o n cap) xs) (i : Nat) (hi : i ≤ n) : ReadsR k cs B w (.slice o i cap) (xs.take i) := by
  obtain ⟨o', cap', e, hm, hc, hr⟩ := h
  simp only [Value.slice.injEq] at e
  obtain ⟨rfl, rfl, rfl⟩ := e
  have hl : (xs.take i).length = i := by rw [List.length_take]; omega
  refine ⟨_, _, by rw [hl], by rw [hl]; omega, fun j x hj => ?_, by rw [hl]; omega⟩
  rw [List.getElem?_take] at hj
  split at hj
  · exact hc j x hj
  · cases hj

/-- A box of another type is written: the row stays. -/
theorem own_box {w : World} {base b : Nat} {e t : TypeId} {k n : Nat} {v : Value} {xs : List Value} {cs : Array Value} (h : w.ownsRow base e k v n xs) (hb : w.heap[b]? = some (.cells cs t (0, 0))) (ht : t ≠ e) (i : Nat) (u : Value) : (w.setCell ⟨b, i, none⟩ u).ownsRow base e k v n xs :=
  own_rng_not h (fun q hq hqv => Below.heap_setCell w ⟨b, i, none⟩ u q (fun hx => own_not_box h hb ht (by rw [hqv]; exact congrArg some hx)))

/-! ### The shelf's state -/
/-- A shelf of one's own: its box, the pool's rows, the row of books and each map. -/
structure ShSt (base b : Nat) (w : World) (v1 v2 vb : Value) (bks : List Bk) (s : Sf) : Prop where
  box : w.heap[b]? = some (.cells #[v1, v2, vb] 29 (0, 0))
  lo : base ≤ b
  pool : OwnP base w v1 v2 s.cs s.ps
  books : OwnB base w vb bks
  eq : bks.map Bk.pb = s.bs

theorem ShSt.below {base b : Nat} {w w' : World} {v1 v2 vb : Value} {bks : List Bk} {s : Sf} (h : ShSt base b w v1 v2 vb bks s) (k : Below w.heap.size w w') : ShSt base b w' v1 v2 vb bks s :=
  ⟨(k.block _ (heap_lt h.box)).trans h.box, h.lo, h.pool.below k, h.books.below k, h.eq⟩

theorem ShSt.forms {base b : Nat} {w : World} {v1 v2 vb : Value} {bks : List Bk} {s : Sf} (h : ShSt base b w v1 v2 vb bks s) : ∀ x ∈ bks, ∃ o k cp, x.m = .slice o k cp := fun x hx => by
  obtain ⟨o, cp, e⟩ := own_slice (h.books.maps x hx)
  exact ⟨o, _, cp, e⟩

/-- The row of books is written, one book's cells: a map of one's own may be the new one. -/
theorem ShSt.put {base b g n cap : Nat} {w : World} {v1 v2 : Value} {bks : List Bk} {s : Sf} (h : ShSt base b w v1 v2 (.slice (some ⟨g, 0, none⟩) n cap) bks s) (i j : Nat) (hi : i < bks.length) (hj : j < 5) (y : Bk) (u : Value) (hy : (bookC bks[i]).set j u = bookC y) (hm : w.ownsRow base 106 3 y.m y.rs.length (y.rs.flatMap runC)) :
    ShSt base b (w.setCell ⟨g, i * 5 + j, none⟩ u) v1 v2 (.slice (some ⟨g, 0, none⟩) n cap) (bks.set i y) ⟨s.cs, s.ps, s.bs.set i y.pb⟩ ∧ Below base w (w.setCell ⟨g, i * 5 + j, none⟩ u) := by
  have hg := h.books.row.lt g rfl
  have ub : Upto g w (w.setCell ⟨g, i * 5 + j, none⟩ u) := (Upto.refl _ _).setCell ⟨g, i * 5 + j, none⟩ (.inl rfl) _
  obtain ⟨cur, hcur⟩ : ∃ cur, w.heap[g]? = some (.cells cur 39 (0, 0)) := by
    rcases h.books.row.2 with ⟨e, _⟩ | ⟨g', cap', cur, e, _, hh, _⟩
    · simp at e
    · simp only [Value.slice.injEq, Option.some.injEq, Addr.mk.injEq, and_true] at e
      obtain ⟨rfl, _⟩ := e
      exact ⟨cur, hh⟩
  have st : ∀ (e : TypeId) (kk n : Nat) (v : Value) (xs : List Value), 39 ≠ e → w.ownsRow base e kk v n xs → (w.setCell ⟨g, i * 5 + j, none⟩ u).ownsRow base e kk v n xs := fun e kk n v xs he hr =>
    own_rng_not hr (fun q hq hqv => ub.block q hq (fun hx => own_not_box hr hcur he (by rw [← hx]; exact hqv)))
  refine ⟨⟨?_, h.lo, ⟨st _ _ _ _ _ (by decide) h.pool.c, st _ _ _ _ _ (by decide) h.pool.p, h.pool.apart⟩, ⟨own_put bookC_len h.books.row i j _ y u (List.getElem?_eq_getElem hi) hj hy, fun x hx => ?_⟩, ?_⟩, ub.toBelow (Nat.le_trans h.lo (Nat.le_of_lt (heap_lt h.box))) hg.1⟩
  · refine (ub.block b (heap_lt h.box) (fun e => ?_)).trans h.box
    rw [← e, h.box] at hcur
    simp at hcur
  · rcases List.mem_or_eq_of_mem_set hx with q | rfl
    · exact st _ _ _ _ _ (by decide) (h.books.maps x q)
    · exact st _ _ _ _ _ (by decide) hm
  · rw [← h.eq, List.map_set]
end Go.Proofs.Ytkjdfgjmkomcgaa

namespace Go.Proofs.Ytkjdfgjmkomcgaa
open Go.RowKit

set_option linter.unusedVariables false

set_option maxRecDepth 100000


theorem pageCountOk_any (n : Int) (w : World) :
    Calls Try.prog 102 #[.int .i64 n] w fun e w' => e = .returned (.bool (decide (1 ≤ n) && decide (n ≤ 24))) ∧ w' = w := by
  by_cases h : (1 : Int) ≤ n
  · go_enter Try.func102, Try.ntmps102
    go_wp2
    go_ret
    exact ⟨ret_bool (by simp [h]), rfl⟩
  · go_enter Try.func102, Try.ntmps102
    go_wp2
    go_ret
    exact ⟨ret_bool (by simp; omega), rfl⟩

theorem valueOk_any (n : Int) (w : World) :
    Calls Try.prog 88 #[.int .i64 n] w fun e w' => e = .returned (.bool (decide (0 ≤ n) && decide (n ≤ 999))) ∧ w' = w := by
  by_cases h : (0 : Int) ≤ n
  · go_enter Try.func88, Try.ntmps88
    go_wp2
    go_ret
    exact ⟨ret_bool (by simp [h]), rfl⟩
  · go_enter Try.func88, Try.ntmps88
    go_wp2
    go_ret
    exact ⟨ret_bool (by simp; omega), rfl⟩

theorem cellOk_any (c p : Int) (w : World) :
    Calls Try.prog 103 #[.int .i64 c, .int .i64 p] w fun e w' => e = .returned (.bool (cellOk c p)) ∧ w' = w := by
  by_cases h1 : c < 0
  · have hv : cellOk c p = false := by simp [cellOk]; omega
    rw [hv]
    go_enter Try.func103, Try.ntmps103
    go_wp2
    go_ret
    exact ⟨rfl, rfl⟩
  by_cases h2 : (400 : Int) < c
  · have hv : cellOk c p = false := by simp [cellOk]; omega
    rw [hv]
    go_enter Try.func103, Try.ntmps103
    go_wp2
    go_ret
    exact ⟨rfl, rfl⟩
  cases hp : (decide (0 ≤ p) && decide (p ≤ 999))
  · have hv : cellOk c p = false := by simp [cellOk, hp]
    rw [hv]
    go_enter Try.func103, Try.ntmps103
    go_wp2_with fail
    refine (valueOk_any _ _).mono ?_
    rintro e w' ⟨rfl, rfl⟩
    rw [hp]
    go_wp2_with fail
    go_ret
    exact ⟨rfl, rfl⟩
  · by_cases h3 : 0 < c
    · have hv : cellOk c p = true := (cellOk_iff c p).2 (by simp at hp; omega)
      rw [hv]
      go_enter Try.func103, Try.ntmps103
      go_wp2_with fail
      refine (valueOk_any _ _).mono ?_
      rintro e w' ⟨rfl, rfl⟩
      rw [hp]
      go_wp2_with fail
      go_ret
      exact ⟨rfl, rfl⟩
    · have hv : cellOk c p = (p == 0) := by
        rw [Bool.eq_iff_iff, cellOk_iff, beq_iff_eq]
        simp at hp; omega
      rw [hv]
      go_enter Try.func103, Try.ntmps103
      go_wp2_with fail
      refine (valueOk_any _ _).mono ?_
      rintro e w' ⟨rfl, rfl⟩
      rw [hp]
      go_wp2_with fail
      go_ret
      have hd : decide (0 < c) = false := by simp; omega
      exact ⟨ret_bool (by simp [hd]), rfl⟩

set_option maxHeartbeats 1600000 in
theorem implPoolOk_any (v1 v2 : Value) (cs ps : List Int) (w : World) (h1 : Reads w.heap.size w v1 (cs.map (Value.int .i64))) (h2 : Reads w.heap.size w v2 (ps.map (Value.int .i64))) :
    Calls Try.prog 71 #[.agg #[v1, v2]] w fun e w' => e = .returned (.bool (poolOk cs ps)) ∧ Below w.heap.size w w' := by
  obtain ⟨o1, cap1, rfl, m1, c1, -⟩ := h1
  obtain ⟨o2, cap2, rfl, m2, c2, -⟩ := h2
  simp only [List.length_map] at m1 m2 ⊢
  have C1 : Hid (∀ j u, (cs.map (Value.int .i64))[j]? = some u → ∃ g off, o1 = some ⟨g, off, none⟩ ∧ g < w.heap.size ∧ w.cell? ⟨g, off + j, none⟩ = some u) := c1
  have C2 : Hid (∀ j u, (ps.map (Value.int .i64))[j]? = some u → ∃ g off, o2 = some ⟨g, off, none⟩ ∧ g < w.heap.size ∧ w.cell? ⟨g, off + j, none⟩ = some u) := c2
  clear c1 c2
  unfold maxLen at m1 m2
  obtain ⟨W0, hW0, k0, d0, z0⟩ := pool_box w (.slice o1 cs.length cap1) (.slice o2 ps.length cap2) 26
  have HW0 : Hid (W0 = _) := hW0
  have p0 := at_cell k0 0
  have p1 := at_cell k0 1
  clear hW0 k0
  by_cases he : ps.length = cs.length
  · have hne : ((cs.length : Int) != (ps.length : Int)) = false := by simp [he]
    have HE : Hid (ps.length = cs.length) := he
    have he1 : ps.length ≤ cs.length := by omega
    have he2 : cs.length ≤ ps.length := by omega
    clear he
    cases hl : (decide ((1 : Int) ≤ (cs.length : Int)) && decide ((cs.length : Int) ≤ 24))
    · have hv : poolOk cs ps = false := poolOk_no cs ps fun q => by simp at hl; omega
      rw [hv]
      go_enter Try.func71, Try.ntmps71
      go_wp2_with fail
      rw [← HW0.out]
      clear HW0
      refine (pageCountOk_any _ _).mono ?_
      rintro e w' ⟨rfl, rfl⟩
      rw [hl]
      go_wp2_with fail
      go_ret
      exact ⟨rfl, d0⟩
    · have hb : 1 ≤ cs.length ∧ cs.length ≤ 24 := by simp at hl; omega
      go_enter Try.func71, Try.ntmps71
      go_wp2_with fail
      rw [← HW0.out]
      clear HW0
      refine (pageCountOk_any _ _).mono ?_
      rintro e w' ⟨rfl, rfl⟩
      rw [hl]
      go_wp2_with fail
      go_loopw [22] (fun i wr => ∃ k : Nat, k ≤ cs.length ∧ i = .int .i64 k ∧ (∀ j, j < k → cellOk (cs.getD j 0) (ps.getD j 0) = true) ∧ wr = w') (fun i _ => cs.length - (intOf i).toNat)
      case atStart => exact ⟨0, Nat.zero_le _, rfl, fun j hj => by omega, rfl⟩
      case round =>
        obtain ⟨k, hk, rfl, hall, rfl⟩ := hrel
        have HA : Hid (∀ j, j < k → cellOk (cs.getD j 0) (ps.getD j 0) = true) := hall
        clear hall
        by_cases hlt : k < cs.length
        · obtain ⟨g1, of1, rfl, q1, cc1⟩ := C1.out k _ (getD_some cs k hlt)
          obtain ⟨g2, of2, rfl, q2, cc2⟩ := C2.out k _ (getD_some ps k (by omega))
          have d1 := (d0.cell (p := ⟨g1, of1 + k, none⟩) q1).trans cc1
          have d2 := (d0.cell (p := ⟨g2, of2 + k, none⟩) q2).trans cc2
          have HN : Hid (cellOk (cs.getD k 0) (ps.getD k 0) = true → ∀ j, j < k + 1 → cellOk (cs.getD j 0) (ps.getD j 0) = true) := fun h j hj => by
            rcases Nat.lt_or_ge j k with q | q
            · exact HA.out j q
            · obtain rfl : j = k := by omega
              exact h
          have HNo : Hid (cellOk (cs.getD k 0) (ps.getD k 0) = false → poolOk cs ps = false) := fun h => poolOk_no cs ps fun q => by rw [q.2.2.2 k hlt] at h; cases h
          clear C1 C2 cc1 cc2 HA
          have hle2 : (k : Int) < (ps.length : Int) := by rw [HE.out]; omega
          generalize cs.getD k 0 = c at *
          generalize ps.getD k 0 = p at *
          go_wp2_with fail
          refine (cellOk_any c p _).mono ?_
          rintro e w1 ⟨rfl, rfl⟩
          cases hc : cellOk c p
          · go_wp2_with fail
            go_ret
            exact ⟨ret_bool (HNo.out hc).symm, d0⟩
          · have HNN : Hid _ := HN.out hc
            go_wp2_with fail
            go_roundw
            case rel => exact ⟨k + 1, by omega, by go_num, HNN.out, by trivial⟩
            case measure => simp [intOf]; omega
        · have hv : poolOk cs ps = true := (poolOk_iff cs ps).2 ⟨hb.1, hb.2, HE.out, fun j hj => HA.out j (by omega)⟩
          go_wp2_with fail
          go_ret
          exact ⟨ret_bool hv.symm, d0⟩
  · have hne : ((cs.length : Int) != (ps.length : Int)) = true := by simp; omega
    have hv : poolOk cs ps = false := poolOk_no cs ps fun q => he q.2.2.1
    rw [hv]
    go_enter Try.func71, Try.ntmps71
    go_wp2_with fail
    rw [← HW0.out]
    clear HW0
    go_wp2_with fail
    go_ret
    exact ⟨rfl, d0⟩

theorem countAt_any (v1 v2 : Value) (cs : List Int) (at_ : Int) (w : World) (h1 : Reads w.heap.size w v1 (cs.map (Value.int .i64))) :
    Calls Try.prog 105 #[.agg #[v1, v2], .int .i64 at_] w fun e w' => e = .returned (.int .i64 (countAt cs at_)) ∧ Below w.heap.size w w' := by
  obtain ⟨o1, cap1, rfl, m1, c1, -⟩ := h1
  simp only [List.length_map] at m1 ⊢
  unfold maxLen at m1
  by_cases h0 : 0 ≤ at_
  · by_cases hlt : at_ < (cs.length : Int)
    · obtain ⟨k, rfl⟩ := Int.eq_ofNat_of_zero_le h0
      have hk : k < cs.length := by omega
      have hv : countAt cs (k : Int) = cs.getD k 0 := countAt_of cs k hk
      rw [hv]
      obtain ⟨g1, of1, rfl, q1, cc1⟩ := c1 k _ (getD_some cs k hk)
      have hne : ¬ g1 = w.heap.size := by omega
      clear c1 hv
      generalize cs.getD k 0 = c at *
      go_enter Try.func105, Try.ntmps105
      go_wp2_with fail
      go_ret
      exact ⟨rfl, bw_alloc (Below.refl _ _)⟩
    · have hv : countAt cs at_ = 0 := by unfold countAt; rw [if_neg (by omega)]
      rw [hv]
      clear c1 hv
      go_enter Try.func105, Try.ntmps105
      go_wp2_with fail
      go_ret
      exact ⟨rfl, bw_alloc (Below.refl _ _)⟩
  · have hv : countAt cs at_ = 0 := by unfold countAt; rw [if_neg (by omega)]
    rw [hv]
    clear c1 hv
    go_enter Try.func105, Try.ntmps105
    go_wp2_with fail
    go_ret
    exact ⟨rfl, bw_alloc (Below.refl _ _)⟩
end Go.Proofs.Ytkjdfgjmkomcgaa

namespace Go.Proofs.Ytkjdfgjmkomcgaa
open Go.RowKit

set_option linter.unusedVariables false

set_option maxRecDepth 100000

/-- The library's own contract of the copy, at this program's numbers. -/
def cloneRen : Go.Shelf.Ren := ⟨fun | 316 => 107 | n => n, fun | 9 => 9 | 3 => 3 | 4 => 4 | 37 => 22 | 0 => 0 | 127 => 154 | 5 => 5 | n => n, fun | n => n⟩

theorem cloneLays : Go.Proofs.LaysM.n316 Try.prog cloneRen where
  mixed := by kernel_rfl
  f316 := Try.func107.trans (congrArg some (by kernel_rfl))
  t0 := Try.underlying0
  a0 := Try.isAgg0
  z0 := Try.sizeOf0
  v0 := Try.zeroValue0
  i0 := by kernel_rfl
  t3 := Try.underlying3
  a3 := Try.isAgg3
  z3 := Try.sizeOf3
  v3 := Try.zeroValue3
  i3 := by kernel_rfl
  t4 := Try.underlying4
  a4 := Try.isAgg4
  z4 := Try.sizeOf4
  v4 := Try.zeroValue4
  i4 := by kernel_rfl
  t9 := Try.underlying9
  a9 := Try.isAgg9
  z9 := Try.sizeOf9
  v9 := Try.zeroValue9
  i9 := by kernel_rfl
  t37 := Try.underlying22
  a37 := Try.isAgg22
  z37 := Try.sizeOf22
  v37 := Try.zeroValue22
  i37 := by kernel_rfl
  t127 := Try.underlying154
  a127 := Try.isAgg154
  z127 := Try.sizeOf154
  v127 := Try.zeroValue154
  i127 := by kernel_rfl
  t5 := Try.underlying5
  a5 := Try.isAgg5
  z5 := Try.sizeOf5
  v5 := Try.zeroValue5
  i5 := by kernel_rfl

theorem liteClone_any (s : ByteArray) (w : World) (hs : s.size ≤ 1099511627776) :
    Calls Try.prog 107 #[.string s] w fun e w' => e = .returned (.string s) ∧ Below w.heap.size w w' := Any.stringslite_Clone cloneLays s w (by omega)

theorem clone_any (s : ByteArray) (w : World) (hs : s.size ≤ 1099511627776) :
    Calls Try.prog 74 #[.string s] w fun e w' => e = .returned (.string s) ∧ Below w.heap.size w w' := by
  go_enter Try.func74, Try.ntmps74
  go_wp2_with fail
  refine (liteClone_any s _ hs).mono ?_
  rintro e w1 ⟨rfl, b1⟩
  go_wp2_with fail
  go_ret
  exact ⟨rfl, b1⟩
end Go.Proofs.Ytkjdfgjmkomcgaa

namespace Go.Proofs.Ytkjdfgjmkomcgaa
open Go.RowKit

set_option linter.unusedVariables false

set_option maxRecDepth 100000


def runRight (r : Int × Int × Int) : Bool := decide (0 ≤ r.1) && decide (1 ≤ r.2.1) && decide (r.2.1 ≤ 16 - r.1) && decide (0 ≤ r.2.2) && decide (r.2.1 ≤ 24 - r.2.2)

theorem runRight_iff (f c p : Int) : runRight (f, c, p) = true ↔ 0 ≤ f ∧ 1 ≤ c ∧ c ≤ 16 - f ∧ 0 ≤ p ∧ c ≤ 24 - p := by
  simp only [runRight, Bool.and_eq_true, decide_eq_true_eq]
  omega

theorem runRight_no (f c p : Int) (h : ¬ (0 ≤ f ∧ 1 ≤ c ∧ c ≤ 16 - f ∧ 0 ≤ p ∧ c ≤ 24 - p)) : runRight (f, c, p) = false := by
  rw [Bool.eq_false_iff]
  exact fun q => h ((runRight_iff f c p).1 q)

theorem implRun_right (f c p : Int) (w : World) (hf : f ≤ 9223372036854775807) (hp : p ≤ 9223372036854775807) :
    Calls Try.prog 143 #[.agg #[.int .i64 f, .int .i64 c, .int .i64 p]] w fun e w' => e = .returned (.bool (runRight (f, c, p))) ∧ Below w.heap.size w w' := by
  have HNO : Hid (∀ h : ¬ (0 ≤ f ∧ 1 ≤ c ∧ c ≤ 16 - f ∧ 0 ≤ p ∧ c ≤ 24 - p), runRight (f, c, p) = false) := runRight_no f c p
  by_cases h1 : 0 ≤ f
  · by_cases h2 : 1 ≤ c
    · have e1 : IntKind.i64.wrap (16 - f) = 16 - f := by rw [IntKind.wrap_i64]; omega
      by_cases h3 : c ≤ 16 - f
      · by_cases h4 : 0 ≤ p
        · have e2 : IntKind.i64.wrap (24 - p) = 24 - p := by rw [IntKind.wrap_i64]; omega
          by_cases h5 : c ≤ 24 - p
          · have HV : Hid (runRight (f, c, p) = true) := (runRight_iff f c p).2 ⟨h1, h2, h3, h4, h5⟩
            go_enter Try.func143, Try.ntmps143
            go_wp2
            go_ret
            exact ⟨ret_bool HV.out.symm, bw_alloc (Below.refl _ _)⟩
          · have HV := HNO.out (fun q => h5 q.2.2.2.2)
            have HH : Hid _ := HV
            clear HV
            go_enter Try.func143, Try.ntmps143
            go_wp2
            go_ret
            exact ⟨ret_bool HH.out.symm, bw_alloc (Below.refl _ _)⟩
        · have HH : Hid _ := HNO.out (fun q => h4 q.2.2.2.1)
          go_enter Try.func143, Try.ntmps143
          go_wp2
          go_ret
          exact ⟨ret_bool HH.out.symm, bw_alloc (Below.refl _ _)⟩
      · have HH : Hid _ := HNO.out (fun q => h3 q.2.2.1)
        go_enter Try.func143, Try.ntmps143
        go_wp2
        go_ret
        exact ⟨ret_bool HH.out.symm, bw_alloc (Below.refl _ _)⟩
    · have HH : Hid _ := HNO.out (fun q => h2 q.2.1)
      go_enter Try.func143, Try.ntmps143
      go_wp2
      go_ret
      exact ⟨ret_bool HH.out.symm, bw_alloc (Below.refl _ _)⟩
  · have HH : Hid _ := HNO.out (fun q => h1 q.1)
    go_enter Try.func143, Try.ntmps143
    go_wp2
    go_ret
    exact ⟨ret_bool HH.out.symm, bw_alloc (Below.refl _ _)⟩

theorem implRun_ahead (f c p f' c' p' : Int) (w : World) (h : 0 ≤ f ∧ f ≤ 16 ∧ 0 ≤ c ∧ c ≤ 16) :
    Calls Try.prog 142 #[.agg #[.int .i64 f, .int .i64 c, .int .i64 p], .agg #[.int .i64 f', .int .i64 c', .int .i64 p']] w fun e w' => e = .returned (.bool (decide (f + c ≤ f'))) ∧ Below w.heap.size w w' := by
  have e1 : IntKind.i64.wrap (f + c) = f + c := by rw [IntKind.wrap_i64]; omega
  clear h
  go_enter Try.func142, Try.ntmps142
  go_wp2
  go_ret
  exact ⟨ret_bool rfl, bw_alloc (bw_alloc (Below.refl _ _))⟩

theorem implRun_on (f c p f' c' p' : Int) (w : World) (h : 0 ≤ f ∧ f ≤ 16 ∧ 0 ≤ c ∧ c ≤ 16 ∧ 0 ≤ p ∧ p ≤ 24) :
    Calls Try.prog 141 #[.agg #[.int .i64 f, .int .i64 c, .int .i64 p], .agg #[.int .i64 f', .int .i64 c', .int .i64 p']] w fun e w' => e = .returned (.bool (decide (f + c = f') && decide (p + c = p'))) ∧ Below w.heap.size w w' := by
  have e1 : IntKind.i64.wrap (f + c) = f + c := by rw [IntKind.wrap_i64]; omega
  have e2 : IntKind.i64.wrap (p + c) = p + c := by rw [IntKind.wrap_i64]; omega
  clear h
  by_cases h1 : f + c = f'
  · have h1b : (f + c == f') = true := by simpa using h1
    have HH : Hid ((p + c == p') = (decide (f + c = f') && decide (p + c = p'))) := by rw [Hid, decide_eq_true h1, Bool.true_and]; rfl
    clear h1
    go_enter Try.func141, Try.ntmps141
    go_wp2
    go_ret
    exact ⟨ret_bool HH.out, bw_alloc (bw_alloc (Below.refl _ _))⟩
  · have h1b : (f + c == f') = false := by simpa using h1
    have HH : Hid (false = (decide (f + c = f') && decide (p + c = p'))) := by rw [Hid, decide_eq_false h1, Bool.false_and]
    clear h1
    go_enter Try.func141, Try.ntmps141
    go_wp2
    go_ret
    exact ⟨ret_bool HH.out, bw_alloc (bw_alloc (Below.refl _ _))⟩

theorem placeOk_any (x : Int) (w : World) :
    Calls Try.prog 120 #[.int .i64 x] w fun e w' => e = .returned (.bool (decide (0 ≤ x) && decide (x ≤ 15))) ∧ w' = w := by
  by_cases h1 : 0 ≤ x
  · by_cases h2 : x < 16
    · go_enter Try.func120, Try.ntmps120
      go_wp2
      go_ret
      exact ⟨ret_bool (by rw [decide_eq_true h1, decide_eq_true (show x ≤ 15 by omega)]; rfl), rfl⟩
    · go_enter Try.func120, Try.ntmps120
      go_wp2
      go_ret
      exact ⟨ret_bool (by simp; omega), rfl⟩
  · go_enter Try.func120, Try.ntmps120
    go_wp2
    go_ret
    exact ⟨ret_bool (by simp; omega), rfl⟩
end Go.Proofs.Ytkjdfgjmkomcgaa

