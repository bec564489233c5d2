/-
  Contracts and plain laws, one chapter behind the other.
-/
import Derived.Deep.RegionHeld3
import Derived.Test.YtcefcglonooelaaGreatDoorB09
import Derived.Test.YtcefcglonooelaaGreatDoorB13
import Derived.Test.YtcefcglonooelaaGreatDoorB14
namespace Go.Proofs.YtcefcglonooelaaGreatDoor
open Go.RowKit

set_option linter.unusedVariables false

set_option maxRecDepth 100000


set_option maxHeartbeats 6400000 in
theorem l8Do_3 (base b : Nat) (v1 v2 vb : Value) (bks : List Bk) (s : Sf) (nm ot : ByteArray) (at_ va ep : Int) (w : World) (hn : nm.size ≤ maxLen) (ho : ot.size ≤ maxLen) (inv : ShInv s) (st : ShSt base b w v1 v2 vb bks s) (hok : opOk ⟨3, nm, ot, at_, va, ep⟩ = true) (href : refused s.bs ⟨3, nm, ot, at_, va, ep⟩ = 0) :
    Calls Tryz.prog 61 #[.pointer (some ⟨b, 0, none⟩), .agg #[.int .i64 3, .string nm, .string ot, .int .i64 at_, .int .i64 va, .int .i64 ep]] w (DoPost base b v1 v2 s ⟨3, nm, ot, at_, va, ep⟩ w) := by
  obtain ⟨i, hi, hib, hfp, hfb, hat, hbk⟩ := found (o := ⟨3, nm, ot, at_, va, ep⟩) st href (show (3 : Int) ≠ 1 by decide)
  have ha16 := at_lt inv hok href (show (3 : Int) ≠ 1 by decide)
  simp only at hfp hfb hbk ha16
  have hmap := (book_parts (inv.oks _ (List.getElem_mem hib))).2.2.2.1
  have HD : Hid (doOp s ⟨3, nm, ot, at_, va, ep⟩ = doKind s ⟨3, nm, ot, at_, va, ep⟩ i s.bs[i] ((pages s.bs[i].rs).getD at_.toNat 0)) := do_kind hok href (show (3 : Int) ≠ 1 ∧ (3 : Int) ≠ 6 ∧ kOther 3 = false by decide) hfp hbk ha16.2
  obtain ⟨ob, cap, hvf⟩ := own_slice st.books.row
  subst hvf
  have hbase : base ≤ w.heap.size := Nat.le_trans st.lo (Nat.le_of_lt (heap_lt st.box))
  have hfew : bks.length ≤ 6 := by rw [st.len]; exact inv.few
  obtain ⟨W0, hW0, k0, k1, d0, z0⟩ := box2 w #[.int .i64 3, .string nm, .string ot, .int .i64 at_, .int .i64 va, .int .i64 ep] #[.int .i64 0, .int .i64 0] 26 30
  have HW0 : Hid (W0 = _) := hW0
  have st0 := st.below d0
  clear hW0 z0
  go_enter Tryz.func61, Tryz.ntmps61
  go_wp2_with fail
  rw [← HW0.out]
  clear HW0
  refine (specOpOk_any 3 nm ot at_ va ep _ hn ho).mono ?_
  rintro e w1 ⟨rfl, b1⟩
  rw [hok]
  replace k0 := (b1.block _ (heap_lt k0)).trans k0
  replace k1 := (b1.block _ (heap_lt k1)).trans k1
  replace st0 := st0.below b1
  replace d0 := bw_call d0 b1
  clear b1
  have hne := BelowOf.any w1
  have rb : ReadsR 5 bookC w1.heap.size w1 (.slice ob bks.length cap) bks := ReadsR.of_own bookC_len st0.books.row
  have hfm := st0.forms
  have H1 : ∀ q : BelowOf w1, Calls Tryz.prog 83 #[.slice ob bks.length cap, .agg #[.int .i64 3, .string nm, .string ot, .int .i64 at_, .int .i64 va, .int .i64 ep]] q.w' fun e w' => e = .returned (.int .i64 0) ∧ Below q.w'.heap.size q.w' w' := fun q => by
    have h := l8Refused_any (.slice ob bks.length cap) bks 3 nm ot at_ va ep q.w' (by omega) (rb.of (Nat.le_refl _) q) hfm
    rw [st.eq, href] at h
    exact h
  have c0 := BelowOf.cell (v := .int .i64 3) (at_cell k0 0) (heap_lt k0)
  have c1 := BelowOf.cell (v := .string nm) (at_cell k0 1) (heap_lt k0)
  have c2 := BelowOf.cell (v := .string ot) (at_cell k0 2) (heap_lt k0)
  have c3 := BelowOf.cell (v := .int .i64 at_) (at_cell k0 3) (heap_lt k0)
  have c4 := BelowOf.cell (v := .int .i64 va) (at_cell k0 4) (heap_lt k0)
  have c5 := BelowOf.cell (v := .int .i64 ep) (at_cell k0 5) (heap_lt k0)
  have cB := BelowOf.cell (v := .slice ob bks.length cap) (at_cell st0.box 2) (heap_lt st0.box)
  go_wp2_with fail
  refine wp_region_of (by kernel_rfl) (by kernel_rfl) ?_
  repeat (go_big_quiet_step ((first | (go_at_call 83; with_reducible exact calls_of (H1 _)) | rfl)))
  refine wpQuiet_nil ?_
  intro w2 hw2
  obtain ⟨⟨wx, cx⟩, hwx⟩ := hw2
  have b2 : Below w1.heap.size w1 w2 := by rw [hwx]; exact cx
  clear hwx cx wx hne c0 c1 c2 c3 c4 c5 cB H1 rb
  replace k0 := (b2.block _ (heap_lt k0)).trans k0
  replace k1 := (b2.block _ (heap_lt k1)).trans k1
  replace st0 := st0.below b2
  replace d0 := bw_call d0 b2
  clear b2
  have hne := BelowOf.any w2
  have rb : ReadsR 5 bookC w2.heap.size w2 (.slice ob bks.length cap) bks := ReadsR.of_own bookC_len st0.books.row
  have H2 : ∀ q : BelowOf w2, Calls Tryz.prog 84 #[.slice ob bks.length cap, .string nm] q.w' fun e w' => e = .returned (.int .i64 i) ∧ w' = q.w' := fun q => by
    have h := specFindBook_any (.slice ob bks.length cap) bks nm q.w' (rb.of (Nat.le_refl _) q)
    rw [hfb] at h
    exact h
  have c1 := BelowOf.cell (v := .string nm) (at_cell k0 1) (heap_lt k0)
  have cB := BelowOf.cell (v := .slice ob bks.length cap) (at_cell st0.box 2) (heap_lt st0.box)
  go_wp2_with fail
  refine wp_region_of (by kernel_rfl) (by kernel_rfl) ?_
  repeat (go_big_quiet_step ((first | (go_at_call 84; with_reducible exact calls_of_same (H2 _)) | rfl)))
  refine wpQuiet_nil ?_
  intro w3 hw3
  obtain ⟨⟨wx, cx⟩, hwx⟩ := hw3
  have b3 : Below w2.heap.size w2 w3 := by rw [hwx]; exact cx
  clear hwx cx wx hne c1 cB H2 rb
  replace k0 := (b3.block _ (heap_lt k0)).trans k0
  replace k1 := (b3.block _ (heap_lt k1)).trans k1
  replace st0 := st0.below b3
  replace d0 := bw_call d0 b3
  clear b3
  obtain ⟨g, hob⟩ := row_block st0.books.row (by omega)
  subst hob
  obtain ⟨⟨a0, a1, a2, a3, a4⟩, e0, e1, e2, e3, e4⟩ := own_five st0.books.row i hi
  have rm : ReadsR 3 runC w3.heap.size w3 bks[i].m bks[i].rs := ReadsR.of_own runC_len (st0.books.maps _ (List.getElem_mem hi))
  rw [hat] at hmap HD
  obtain ⟨x, hx⟩ : ∃ x, bks[i] = x := ⟨_, rfl⟩
  have HX : Hid (bks[i] = x) := hx
  rw [hx] at a0 a1 a2 a3 a4 rm hmap HD
  clear hx
  obtain ⟨xn, xz, xm, rs, xf, xe⟩ := x
  simp only [Bk.pb] at a0 a1 a2 a3 a4 rm hmap HD
  obtain ⟨mo, mc, hmf⟩ := rm.form
  subst hmf
  have HMP : Hid _ := hmap
  have hpl := pages_length rs
  have pB := at_cell st0.box 2
  have p0 := at_cell k0 0
  have p3 := at_cell k0 3
  have i0 : (0 : Int) ≤ (i : Int) := by omega
  have i1 : (i : Int) < (bks.length : Int) := by omega
  obtain ⟨a, haa⟩ := Int.eq_ofNat_of_zero_le ha16.1
  subst haa
  clear hmap e0 e1 e2 e3 e4 a0 a1 a3 a4 hat hbk hfp hfb
  go_wp2_with fail
  refine (l5Pages_any _ rs _ HMP.out rm).mono ?_
  rintro e w4 ⟨gp, cp, rfl, ownp, b4⟩
  replace k0 := (b4.block _ (heap_lt k0)).trans k0
  replace k1 := (b4.block _ (heap_lt k1)).trans k1
  have stP := st0.pool
  have W3S := Nat.le_of_lt (heap_lt st0.box)
  have hbase3 : base ≤ w3.heap.size := Nat.le_trans st0.lo W3S
  replace st0 := st0.below b4
  replace d0 := bw_call d0 b4
  have hpa : a < (pages rs).length := by rw [hpl]; omega
  have cA := (ownp.cellAt a (by omega)).trans (getD_some (pages rs) a hpa)
  have a0' : (0 : Int) ≤ (a : Int) := by omega
  have a1' : (a : Int) < 16 := by omega
  clear b4 rm pB p0 p3 a2
  rw [Int.toNat_natCast] at HD
  have hpr := pages_range rs HMP.out a (by omega)
  have HPGS : Hid _ := fun (h : 0 ≤ (pages rs).getD a 0) => inv.page i hib ((pages rs).getD a 0) (by rw [show s.bs[i].rs = rs by have h1 := st.eq; simp only [← h1, List.getElem_map, HX.out, Bk.pb]]; exact (mem_getD _ hpl _).2 ⟨a, by omega, rfl⟩) h
  have hvlt : ∀ q, v1.ownBlock = some q ∨ v2.ownBlock = some q → q < w3.heap.size := fun q h => by
    rcases h with h | h
    · exact (stP.c.lt q h).2
    · exact (stP.p.lt q h).2
  have hlen24 := inv.n1
  have hpp := inv.cells.p
  have HL : Hid (((pages rs).set a (-1)).length = 16) := by rw [Hid, List.length_set, hpl]
  have HPR : Hid _ := pages_range rs HMP.out
  have HRG : Hid (∀ j, j < 16 → -1 ≤ ((pages rs).set a (-1)).getD j 0 ∧ ((pages rs).set a (-1)).getD j 0 ≤ 23) := fun j hj => by
    rw [getD_set _ a j _ hpa]
    split
    · omega
    · exact HPR.out j hj
  obtain ⟨page, hpage⟩ : ∃ page, (pages rs).getD a 0 = page := ⟨_, rfl⟩
  rw [hpage] at cA hpr HPGS HD
  have HPE : Hid _ := hpage
  clear hpage
  have p0 := at_cell k0 0
  have p3 := at_cell k0 3
  by_cases hpg : page < 0
  · have HS : Hid _ := do_end (show doOp s ⟨3, nm, ot, (a : Int), va, ep⟩ = (s, (0, 0)) by rw [HD.out, kind_3, if_neg (by omega)]) (Nat.le_succ_of_le hbase) k1 st0 (d0.mono hbase)
    have q0 := at_cell k1 0
    have q1 := at_cell k1 1
    have f0 := at_open k1 0
    have f1 := at_open k1 1
    clear k0 k1 st0 d0 st HD
    go_wp2_with fail
    exact bodyPost_ret (v := .agg #[.int .i64 0, .int .i64 0]) (by simp [results, Tryz.results61, go_sem, at_cell HS.out.1]) rfl HS.out.2

  · obtain ⟨kp, hkp⟩ := Int.eq_ofNat_of_zero_le (show 0 ≤ page by omega)
    subst hkp
    obtain ⟨hk1, hk2⟩ := HPGS.out (by omega)
    rw [Int.toNat_natCast] at hk2
    have hk4 : s.cs.getD kp 0 ≤ 400 := by
      have h1 := inv.cnt kp (by omega)
      have h2 := cntAll_le s.bs (kp : Int)
      have h3 := inv.few
      omega
    have HDD : Hid (doOp s ⟨3, nm, ot, (a : Int), va, ep⟩ = (⟨s.cs.set kp (s.cs.getD kp 0 - 1), if s.cs.getD kp 0 = 1 then s.ps.set kp 0 else s.ps, s.bs.set i ⟨xn, xz, mapOf ((pages rs).set a (-1)), xf, xe⟩⟩, (0, 0))) := by rw [Hid, HD.out, kind_3, if_pos (by omega), drop_pos rfl, Int.toNat_natCast]
    go_wp2_with fail
    clear p0 p3 cA
    refine (l4Drop_at b base kp #[v1, v2, .slice (some ⟨g, 0, none⟩) bks.length cap] 42 v1 v2 s.cs s.ps _ st0.box (by decide) rfl rfl st0.pool (by omega) (by omega) (by omega) ⟨hk2, hk4⟩).mono ?_
    rintro e w5 ⟨rfl, own5, only5⟩
    have st5 := st0.pooled own5 only5
    have ownp5 := own_pool_only ownp only5 hvlt
    have onW : Only (ShW b v1 v2 (.slice (some ⟨g, 0, none⟩) bks.length cap)) w4 w5 := only5.mono (fun i hi => hi.elim (fun q => .inr (.inl q)) (fun q => .inr (.inr (.inl q))))
    replace k0 := st0.keeps onW k0 (by decide) (by decide) (by decide)
    replace k1 := st0.keeps onW k1 (by decide) (by decide) (by decide)
    have d5 := (d0.mono hbase).trans (st0.only_below onW)
    clear st0 own5 only5 ownp onW d0 HD stP
    have hB := (ownp5.lt gp rfl).1
    have hbg : base ≤ gp := Nat.le_trans hbase3 hB
    have c0 := ownp5.cellAt a (by omega)
    have c0f := ownp5.frozenAt a
    have c0s := c0.trans (getD_some (pages rs) a hpa)
    have hst := (ownp5.stored a (.int .i64 (-1))).1
    rw [← List.map_set] at hst
    have st6 := st5.beside (j := a) ownp5 hvlt (.int .i64 (-1))
    have n0 : w.heap.size ≠ gp := fun e => own_not_box ownp5 k0 (by decide) (by rw [e]; rfl)
    have n1 : w.heap.size + 1 ≠ gp := fun e => own_not_box ownp5 k1 (by decide) (by rw [e]; rfl)
    have m0 := (Below.heap_setCell w5 ⟨gp, a, none⟩ (.int .i64 (-1)) w.heap.size n0).trans k0
    have m1 := (Below.heap_setCell w5 ⟨gp, a, none⟩ (.int .i64 (-1)) (w.heap.size + 1) n1).trans k1
    have d6 : Below base w (w5.setCell ⟨gp, a, none⟩ (.int .i64 (-1))) := d5.setCell (p := ⟨gp, a, none⟩) hbg _
    have rd := Reads.of_own hst
    have HRD : Hid _ := rd
    have HST6 : Hid _ := st6
    have HM6 : Hid _ := And.intro m0 (And.intro m1 d6)
    have p3 := at_cell k0 3
    have hgg : ¬ gp = g := fun e => rows_apart st5.books.row ownp5 (by decide) gp rfl (by rw [e]; rfl)
    have hgg' : ¬ g = gp := fun e => hgg e.symm
    generalize (pages rs).getD a 0 = yy at c0s
    clear rd st6 m0 m1 d6 hst c0 k0 k1
    go_wp2_with fail
    refine (l5Map_any _ ((pages rs).set a (-1)) _ HL.out HRG.out HRD.out).mono ?_
    rintro e w7 ⟨v7, rfl, own7, hn7, b7⟩
    have st7 := HST6.out.below b7
    have k1 := (b7.block _ (heap_lt HM6.out.2.1)).trans HM6.out.2.1
    have hb6 : base ≤ (w5.setCell ⟨gp, a, none⟩ (.int .i64 (-1))).heap.size := Nat.le_trans HST6.out.lo (Nat.le_of_lt (heap_lt HST6.out.box))
    have d7 := HM6.out.2.2.trans (b7.mono hb6)
    obtain ⟨⟨-, -, c2, -, -⟩, -, -, e2, -, -⟩ := own_five st7.books.row i hi
    rw [HX.out] at c2
    simp only at c2
    obtain ⟨o7, c7, hv7⟩ := own_slice own7
    subst hv7
    obtain ⟨st8, b8⟩ := st7.put i 2 hi (by decide) ⟨xn, xz, .slice o7 (mapOf ((pages rs).set a (-1))).length c7, mapOf ((pages rs).set a (-1)), xf, xe⟩ (.slice o7 (mapOf ((pages rs).set a (-1))).length c7) (by rw [HX.out]; rfl) (owns_mono own7 hb6)
    have hgn : ¬ g = w.heap.size + 1 := fun e => own_not_box st7.books.row k1 (by decide) (by rw [← e]; rfl)
    have hgn' : ¬ w.heap.size + 1 = g := fun e => hgn e.symm
    have k8 := (Below.heap_setCell w7 ⟨g, i * 5 + 2, none⟩ (.slice o7 (mapOf ((pages rs).set a (-1))).length c7) (w.heap.size + 1) hgn').trans k1
    have HS : Hid _ := do_end (HDD.out) (Nat.le_succ_of_le hbase) k8 st8 (d7.trans b8)
    have q0 := at_cell k1 0
    have q1 := at_cell k1 1
    have f0 := at_open k1 0
    have f1 := at_open k1 1
    clear k1 k8 st7 st8 b8 d7 own7 hn7 b7 HST6 HM6 HRD
    go_wp2_with fail
    exact bodyPost_ret (v := .agg #[.int .i64 0, .int .i64 0]) (by simp [results, Tryz.results61, go_sem, at_cell HS.out.1]) rfl HS.out.2
end Go.Proofs.YtcefcglonooelaaGreatDoor

namespace Go.Proofs.YtcefcglonooelaaGreatDoor
open Go.RowKit

set_option linter.unusedVariables false

set_option maxRecDepth 100000


theorem own_five_box {W : World} {base b n : Nat} {v : Value} {xs : List Value} {x0 x1 x2 x3 x4 : Value} (h : W.ownsRow base 129 3 v n xs) (kz : W.heap[b]? = some (.cells #[x0, x1, x2, x3, x4] 87 (0, 0))) (y0 y1 y2 y3 y4 : Value) : (((((W.setCell ⟨b, 0, none⟩ y0).setCell ⟨b, 1, none⟩ y1).setCell ⟨b, 2, none⟩ y2).setCell ⟨b, 3, none⟩ y3).setCell ⟨b, 4, none⟩ y4).ownsRow base 129 3 v n xs := by
  have k1 := set_at kz 0 y0
  have k2 := set_at k1 1 y1
  have k3 := set_at k2 2 y2
  have k4 := set_at k3 3 y3
  exact own_box (own_box (own_box (own_box (own_box h kz (by decide) 0 y0) k1 (by decide) 1 y1) k2 (by decide) 2 y2) k3 (by decide) 3 y3) k4 (by decide) 4 y4

theorem cp_facts {wx X : World} {n m : Nat} {o0 o1 o2 o3 o4 o5 x0 x1 x2 x3 x4 : Value} {T U : TypeId} (bX : Below wx.heap.size wx X) (k0 : wx.heap[n]? = some (.cells #[o0, o1, o2, o3, o4, o5] T (0, 0))) (k7 : wx.heap[m]? = some (.cells #[x0, x1, x2, x3, x4] U (0, 0))) :
    X.cell? ⟨n, 0, none⟩ = some o0 ∧ X.cell? ⟨n, 2, none⟩ = some o2 ∧ X.cell? ⟨m, 0, none⟩ = some x0 ∧ X.cell? ⟨m, 1, none⟩ = some x1 ∧ X.cell? ⟨m, 2, none⟩ = some x2 ∧ X.cell? ⟨m, 3, none⟩ = some x3 ∧ X.cell? ⟨m, 4, none⟩ = some x4 := by
  have h1 := (bX.block _ (heap_lt k0)).trans k0
  have h2 := (bX.block _ (heap_lt k7)).trans k7
  exact ⟨at_cell h1 0, at_cell h1 2, at_cell h2 0, at_cell h2 1, at_cell h2 2, at_cell h2 3, at_cell h2 4⟩

set_option maxHeartbeats 6400000 in
theorem l8Do_4 (base b : Nat) (v1 v2 vb : Value) (bks : List Bk) (s : Sf) (nm ot : ByteArray) (at_ va ep : Int) (w : World) (hn : nm.size ≤ maxLen) (ho : ot.size ≤ maxLen) (inv : ShInv s) (st : ShSt base b w v1 v2 vb bks s) (hok : opOk ⟨4, nm, ot, at_, va, ep⟩ = true) (href : refused s.bs ⟨4, nm, ot, at_, va, ep⟩ = 0) :
    Calls Tryz.prog 61 #[.pointer (some ⟨b, 0, none⟩), .agg #[.int .i64 4, .string nm, .string ot, .int .i64 at_, .int .i64 va, .int .i64 ep]] w (DoPost base b v1 v2 s ⟨4, nm, ot, at_, va, ep⟩ w) := by
  obtain ⟨i, hi, hib, hfp, hfb, hat, hbk⟩ := found (o := ⟨4, nm, ot, at_, va, ep⟩) st href (show (4 : Int) ≠ 1 by decide)
  have ha16 := at_lt inv hok href (show (4 : Int) ≠ 1 by decide)
  simp only at hfp hfb hbk ha16
  have hmap := (book_parts (inv.oks _ (List.getElem_mem hib))).2.2.2.1
  have HD : Hid (doOp s ⟨4, nm, ot, at_, va, ep⟩ = (⟨shareAll s.cs (pagesOf s.bs[i].rs), s.ps, insertP s.bs ⟨ot, s.bs[i].sz, s.bs[i].rs, true, 0⟩⟩, (0, 0))) := by
    rw [Hid, doOp, if_neg (by rw [hok]; decide), if_neg (by rw [href]; decide), if_neg (show ¬ (4 : Int) = 1 by decide), if_neg (show ¬ (4 : Int) = 6 by decide), if_pos (show kOther 4 = true from rfl), hbk]
    rfl
  obtain ⟨ob, cap, hvf⟩ := own_slice st.books.row
  subst hvf
  have hbase : base ≤ w.heap.size := Nat.le_trans st.lo (Nat.le_of_lt (heap_lt st.box))
  have hfew : bks.length ≤ 6 := by rw [st.len]; exact inv.few
  obtain ⟨W0, hW0, k0, k1, d0, z0⟩ := box2 w #[.int .i64 4, .string nm, .string ot, .int .i64 at_, .int .i64 va, .int .i64 ep] #[.int .i64 0, .int .i64 0] 26 30
  have HW0 : Hid (W0 = _) := hW0
  have st0 := st.below d0
  clear hW0 z0
  go_enter Tryz.func61, Tryz.ntmps61
  go_wp2_with fail
  rw [← HW0.out]
  clear HW0
  refine (specOpOk_any 4 nm ot at_ va ep _ hn ho).mono ?_
  rintro e w1 ⟨rfl, b1⟩
  rw [hok]
  replace k0 := (b1.block _ (heap_lt k0)).trans k0
  replace k1 := (b1.block _ (heap_lt k1)).trans k1
  replace st0 := st0.below b1
  replace d0 := bw_call d0 b1
  clear b1
  have hne := BelowOf.any w1
  have rb : ReadsR 5 bookC w1.heap.size w1 (.slice ob bks.length cap) bks := ReadsR.of_own bookC_len st0.books.row
  have hfm := st0.forms
  have H1 : ∀ q : BelowOf w1, Calls Tryz.prog 83 #[.slice ob bks.length cap, .agg #[.int .i64 4, .string nm, .string ot, .int .i64 at_, .int .i64 va, .int .i64 ep]] q.w' fun e w' => e = .returned (.int .i64 0) ∧ Below q.w'.heap.size q.w' w' := fun q => by
    have h := l8Refused_any (.slice ob bks.length cap) bks 4 nm ot at_ va ep q.w' (by omega) (rb.of (Nat.le_refl _) q) hfm
    rw [st.eq, href] at h
    exact h
  have c0 := BelowOf.cell (v := .int .i64 4) (at_cell k0 0) (heap_lt k0)
  have c1 := BelowOf.cell (v := .string nm) (at_cell k0 1) (heap_lt k0)
  have c2 := BelowOf.cell (v := .string ot) (at_cell k0 2) (heap_lt k0)
  have c3 := BelowOf.cell (v := .int .i64 at_) (at_cell k0 3) (heap_lt k0)
  have c4 := BelowOf.cell (v := .int .i64 va) (at_cell k0 4) (heap_lt k0)
  have c5 := BelowOf.cell (v := .int .i64 ep) (at_cell k0 5) (heap_lt k0)
  have cB := BelowOf.cell (v := .slice ob bks.length cap) (at_cell st0.box 2) (heap_lt st0.box)
  go_wp2_with fail
  refine wp_region_of (by kernel_rfl) (by kernel_rfl) ?_
  repeat (go_big_quiet_step ((first | (go_at_call 83; with_reducible exact calls_of (H1 _)) | rfl)))
  refine wpQuiet_nil ?_
  intro w2 hw2
  obtain ⟨⟨wx, cx⟩, hwx⟩ := hw2
  have b2 : Below w1.heap.size w1 w2 := by rw [hwx]; exact cx
  clear hwx cx wx hne c0 c1 c2 c3 c4 c5 cB H1 rb
  replace k0 := (b2.block _ (heap_lt k0)).trans k0
  replace k1 := (b2.block _ (heap_lt k1)).trans k1
  replace st0 := st0.below b2
  replace d0 := bw_call d0 b2
  clear b2
  have hne := BelowOf.any w2
  have rb : ReadsR 5 bookC w2.heap.size w2 (.slice ob bks.length cap) bks := ReadsR.of_own bookC_len st0.books.row
  have H2 : ∀ q : BelowOf w2, Calls Tryz.prog 84 #[.slice ob bks.length cap, .string nm] q.w' fun e w' => e = .returned (.int .i64 i) ∧ w' = q.w' := fun q => by
    have h := specFindBook_any (.slice ob bks.length cap) bks nm q.w' (rb.of (Nat.le_refl _) q)
    rw [hfb] at h
    exact h
  have c1 := BelowOf.cell (v := .string nm) (at_cell k0 1) (heap_lt k0)
  have cB := BelowOf.cell (v := .slice ob bks.length cap) (at_cell st0.box 2) (heap_lt st0.box)
  go_wp2_with fail
  refine wp_region_of (by kernel_rfl) (by kernel_rfl) ?_
  repeat (go_big_quiet_step ((first | (go_at_call 84; with_reducible exact calls_of_same (H2 _)) | rfl)))
  refine wpQuiet_nil ?_
  intro w3 hw3
  obtain ⟨⟨wx, cx⟩, hwx⟩ := hw3
  have b3 : Below w2.heap.size w2 w3 := by rw [hwx]; exact cx
  clear hwx cx wx hne c1 cB H2 rb
  replace k0 := (b3.block _ (heap_lt k0)).trans k0
  replace k1 := (b3.block _ (heap_lt k1)).trans k1
  replace st0 := st0.below b3
  replace d0 := bw_call d0 b3
  clear b3
  obtain ⟨g, hob⟩ := row_block st0.books.row (by omega)
  subst hob
  obtain ⟨j0, ji, jz0, jz1, jz2⟩ := info_parts Tryz.infoRun
  obtain ⟨⟨a0, a1, a2, a3, a4⟩, -⟩ := own_five st0.books.row i hi
  have hown := st0.books.maps _ (List.getElem_mem hi)
  rw [hat] at hmap HD
  obtain ⟨x, hx⟩ : ∃ x, bks[i] = x := ⟨_, rfl⟩
  have HX : Hid (bks[i] = x) := hx
  rw [hx] at a0 a1 a2 a3 a4 hown hmap HD
  clear hx
  obtain ⟨xn, xz, xm, rs, xf, xe⟩ := x
  simp only [Bk.pb] at a0 a1 a2 a3 a4 hown hmap HD
  obtain ⟨mo, mc, hmf⟩ := own_slice hown
  subst hmf
  have hfew16 : rs.length ≤ 16 := by rw [mapOk, Bool.and_eq_true, decide_eq_true_iff] at hmap; exact hmap.2
  have HMP : Hid _ := hmap
  have pB := at_cell st0.box 2
  have p0 := at_cell k0 0
  have i0 : (0 : Int) ≤ (i : Int) := by omega
  have i1 : (i : Int) < (bks.length : Int) := by omega
  obtain ⟨w4, hw4, k7, b4, z4⟩ := box1 w3 #[.string xn, .int .i64 xz, .slice mo rs.length mc, .bool xf, .int .i64 xe] 87
  have HW4 : Hid (w4 = _) := hw4
  go_upto_region 18 with fail
  rw [← HW4.out]
  clear HW4 hw4 pB p0 a0 a1 a2 a3 a4 z4
  replace k0 := (b4.block _ (heap_lt k0)).trans k0
  replace k1 := (b4.block _ (heap_lt k1)).trans k1
  have st4 := st0.below b4
  have own4 := owns_below hown b4
  replace d0 := bw_call d0 b4
  clear b4 hown st0
  have rm4 : ReadsR 3 runC w4.heap.size w4 (.slice mo rs.length mc) rs := ReadsR.of_own runC_len own4
  go_cut [8] (fun v wx => ∃ (n8 : Nat) (o9 : Option Addr) (c9 : Nat), v = .pointer (some ⟨n8, 0, none⟩) ∧ wx.heap[n8]? = some (.cells #[.string ot, .int .i64 xz, .slice o9 rs.length c9, .bool true, .int .i64 0] 87 (0, 0)) ∧ wx.ownsRow w4.heap.size 129 3 (.slice o9 rs.length c9) rs.length (rs.flatMap runC) ∧ Below w4.heap.size w4 wx)
  case first =>
    have HLEN : Hid ((rs.flatMap runC).length = rs.length * 3) := flat_length runC_len rs
    have HSRC : Hid (∀ X : World, Below w4.heap.size w4 X → ∀ j u, (rs.flatMap runC)[j]? = some u → ∃ g' off', mo = some ⟨g', off', none⟩ ∧ X.cell? ⟨g', off' + j, none⟩ = some u) := fun X bX => flat_src runC_len (by decide) (rm4.below bX)
    have HM : Hid (0 + rs.length ≤ maxLen) := by rw [Hid]; unfold maxLen; omega
    have HBY : Hid ((0 + rs.length) * 24 ≤ 140737488355328) := by rw [Hid]; omega
    have HZ1 : Hid (((w4.alloc (.cells #[] 129)).alloc (.cells #[.string ⟨#[]⟩, .int .i64 0, .slice none 0 0, .bool false, .int .i64 0] 87)).heap[w4.heap.size + 1]? = some (.cells #[.string ⟨#[]⟩, .int .i64 0, .slice none 0 0, .bool false, .int .i64 0] 87 (0, 0))) := by
      obtain ⟨W, hW, -, h, -⟩ := box2 w4 #[] #[.string ⟨#[]⟩, .int .i64 0, .slice none 0 0, .bool false, .int .i64 0] 129 87
      rw [hW] at h
      exact h
    have HZ2 : Hid (((w4.alloc (.cells #[.string ⟨#[]⟩, .int .i64 0, .slice none 0 0, .bool false, .int .i64 0] 87)).alloc (.cells #[] 129)).heap[w4.heap.size]? = some (.cells #[.string ⟨#[]⟩, .int .i64 0, .slice none 0 0, .bool false, .int .i64 0] 87 (0, 0))) := by
      obtain ⟨W, hW, h, -⟩ := box2 w4 #[.string ⟨#[]⟩, .int .i64 0, .slice none 0 0, .bool false, .int .i64 0] #[] 87 129
      rw [hW] at h
      exact h
    have HKeep : ∀ W', Below w4.heap.size w4 W' → (Below w4.heap.size w4 W' ∧ W'.cell? ⟨w.heap.size, 0, none⟩ = some (.int .i64 4) ∧ W'.cell? ⟨w.heap.size, 2, none⟩ = some (.string ot) ∧ W'.cell? ⟨w3.heap.size, 1, none⟩ = some (.int .i64 xz) ∧ W'.cell? ⟨w3.heap.size, 2, none⟩ = some (.slice mo rs.length mc)) := fun W' hb => by
      obtain ⟨y0, y1, y2, y3, y4, y5, y6⟩ := cp_facts (X := W') hb k0 k7
      exact ⟨hb, y0, y1, y3, y4⟩
    go_wp2_with fail
    go_region_held3 (fun w' => Below w4.heap.size w4 w' ∧ w'.cell? ⟨w.heap.size, 0, none⟩ = some (.int .i64 4) ∧ w'.cell? ⟨w.heap.size, 2, none⟩ = some (.string ot) ∧ w'.cell? ⟨w3.heap.size, 1, none⟩ = some (.int .i64 xz) ∧ w'.cell? ⟨w3.heap.size, 2, none⟩ = some (.slice mo rs.length mc))
      ((refine HKeep _ ?_; repeat (first | exact Below.refl _ _ | exact ba | refine bw_drew ?_ | refine bw_alloc ?_ | refine bw_set ?_ (by first | exact Nat.le_refl _ | (have := ba.size; simp at this ⊢; omega) | (simp <;> omega)) _)))
      (first
    | (refine step_append_reads rfl (.tmp 87) (.tmp 89) 85 rfl w4.heap.size 129 j0 (.agg #[.int .i64 0, .int .i64 0, .int .i64 0]) 3 24 Tryz.underlying85 ji jz0 jz1 jz2 rfl (by decide) (.slice (some ⟨w4.heap.size, 0, none⟩) 0 0) 0 [] ?e1 ?own mo rs.length mc (rs.flatMap runC) ?e2 HLEN.out ?hn (runs_one rs) HM.out HBY.out ?hbase ?_
       case e1 => first | rfl | simp [Act.eval]
       case e2 => first | rfl | simp [Act.eval]
       case own => exact own_none w4
       case hn => exact HSRC.out _ (bw_alloc (Below.refl _ _)).drew
       case hbase => simp <;> omega
       intro va' wa owna growa nila
       obtain ⟨oa, ca, hva'⟩ := own_slice owna
       subst hva'
       have ba : Below w4.heap.size w4 wa := ((bw_alloc (Below.refl _ _)).drew).grown growa (by simp <;> omega) (fun z hz => by simp [Value.ownBlock] at hz; omega)
       skip)
    | (refine step_append_reads rfl (.tmp 87) (.tmp 89) 85 rfl w4.heap.size 129 j0 (.agg #[.int .i64 0, .int .i64 0, .int .i64 0]) 3 24 Tryz.underlying85 ji jz0 jz1 jz2 rfl (by decide) (.slice (some ⟨w4.heap.size, 0, none⟩) 0 0) 0 [] ?e1 ?own mo rs.length mc (rs.flatMap runC) ?e2 HLEN.out ?hn (runs_one rs) HM.out HBY.out ?hbase ?_
       case e1 => first | rfl | simp [Act.eval]
       case e2 => first | rfl | simp [Act.eval]
       case own => exact (own_none w4).alloc (.cells #[.string ⟨#[]⟩, .int .i64 0, .slice none 0 0, .bool false, .int .i64 0] 87)
       case hn => exact HSRC.out _ (bw_alloc (bw_alloc (Below.refl _ _))).drew
       case hbase => simp <;> omega
       intro va' wa owna growa nila
       obtain ⟨oa, ca, hva'⟩ := own_slice owna
       subst hva'
       have ba : Below w4.heap.size w4 wa := ((bw_alloc (bw_alloc (Below.refl _ _))).drew).grown growa (by simp <;> omega) (fun z hz => by simp [Value.ownBlock] at hz; omega)
       have kz := (growa.block (w4.heap.size + 1) (by simp <;> omega) (by simp [Value.ownBlock])).trans HZ1.out; have zc0 := at_cell kz 0; have zf0 := at_open kz 0; have zc1 := at_cell kz 1; have zf1 := at_open kz 1; have zc2 := at_cell kz 2; have zf2 := at_open kz 2; have zc3 := at_cell kz 3; have zf3 := at_open kz 3; have zc4 := at_cell kz 4; have zf4 := at_open kz 4)
    | (refine step_append_reads rfl (.tmp 87) (.tmp 89) 85 rfl w4.heap.size 129 j0 (.agg #[.int .i64 0, .int .i64 0, .int .i64 0]) 3 24 Tryz.underlying85 ji jz0 jz1 jz2 rfl (by decide) (.slice (some ⟨w4.heap.size + 1, 0, none⟩) 0 0) 0 [] ?e1 ?own mo rs.length mc (rs.flatMap runC) ?e2 HLEN.out ?hn (runs_one rs) HM.out HBY.out ?hbase ?_
       case e1 => first | rfl | simp [Act.eval]
       case e2 => first | rfl | simp [Act.eval]
       case own => exact (by have h := own_none (w4.alloc (.cells #[.string ⟨#[]⟩, .int .i64 0, .slice none 0 0, .bool false, .int .i64 0] 87)); rw [show (w4.alloc (.cells #[.string ⟨#[]⟩, .int .i64 0, .slice none 0 0, .bool false, .int .i64 0] 87)).heap.size = w4.heap.size + 1 by simp] at h; exact owns_mono h (by omega))
       case hn => exact HSRC.out _ (bw_alloc (bw_alloc (Below.refl _ _))).drew
       case hbase => simp <;> omega
       intro va' wa owna growa nila
       obtain ⟨oa, ca, hva'⟩ := own_slice owna
       subst hva'
       have ba : Below w4.heap.size w4 wa := ((bw_alloc (bw_alloc (Below.refl _ _))).drew).grown growa (by simp <;> omega) (fun z hz => by simp [Value.ownBlock] at hz; omega)
       have kz := (growa.block w4.heap.size (by simp <;> omega) (by simp [Value.ownBlock])).trans HZ2.out; have zc0 := at_cell kz 0; have zf0 := at_open kz 0; have zc1 := at_cell kz 1; have zf1 := at_open kz 1; have zc2 := at_cell kz 2; have zf2 := at_open kz 2; have zc3 := at_cell kz 3; have zf3 := at_open kz 3; have zc4 := at_cell kz 4; have zf4 := at_open kz 4))
    · rename_i hh
      rw [Nat.zero_add, List.nil_append] at owna
      have HF : Hid _ := And.intro (new_box wa #[.string ot, .int .i64 xz, .slice oa rs.length ca, .bool true, .int .i64 0] 87) (And.intro (owna.alloc (.cells #[.string ot, .int .i64 xz, .slice oa rs.length ca, .bool true, .int .i64 0] 87)) hh.1)
      clear growa nila owna
      go_wp2_with fail
      go_meet
      exact ⟨wa.heap.size, oa, ca, rfl, HF.out⟩
    · rename_i hh
      rw [Nat.zero_add, List.nil_append] at owna
      have HF : Hid _ := And.intro (set_five kz (.string ot) (.int .i64 xz) (.slice oa rs.length ca) (.bool true) (.int .i64 0)) (And.intro (own_five_box owna kz (.string ot) (.int .i64 xz) (.slice oa rs.length ca) (.bool true) (.int .i64 0)) hh.1)
      clear growa nila owna kz
      go_wp2_with fail
      go_meet
      exact ⟨w4.heap.size + 1, oa, ca, rfl, HF.out⟩
    · rename_i hh
      rw [Nat.zero_add, List.nil_append] at owna
      have HF : Hid _ := And.intro (set_five kz (.string ot) (.int .i64 xz) (.slice oa rs.length ca) (.bool true) (.int .i64 0)) (And.intro (own_five_box owna kz (.string ot) (.int .i64 xz) (.slice oa rs.length ca) (.bool true) (.int .i64 0)) hh.1)
      clear growa nila owna kz
      go_wp2_with fail
      go_meet
      exact ⟨w4.heap.size, oa, ca, rfl, HF.out⟩
  case rest =>
    obtain ⟨n8, o9, c9, rfl, k8, own9, b5⟩ := hcut
    generalize wc = w5 at *
    replace k0 := (b5.block _ (heap_lt k0)).trans k0
    replace k1 := (b5.block _ (heap_lt k1)).trans k1
    replace k7 := (b5.block _ (heap_lt k7)).trans k7
    have st5 := st4.below b5
    have d5 := bw_call d0 b5
    have rm5 := (rm4.below b5).mono b5.size
    have hb4 : base ≤ w4.heap.size := Nat.le_trans st4.lo (Nat.le_of_lt (heap_lt st4.box))
    have own9b := owns_mono own9 hb4
    have p72 := at_cell k7 2
    clear b5 st4 d0 rm4 own4 own9
    go_wp2_with fail
    clear p72
    refine (l5Of_any _ rs _ HMP.out rm5).mono ?_
    rintro e w6 ⟨vp, rfl, ownp, hnp, b6⟩
    have hpe : pagesOf rs = (pages rs).filter (fun p => decide (0 ≤ p)) := by rw [pagesOf, if_pos HMP.out]
    rw [← hpe] at ownp
    obtain ⟨l, hl⟩ : ∃ l, pagesOf rs = l := ⟨_, rfl⟩
    rw [hl] at ownp
    obtain ⟨op, cp, hvp⟩ := own_slice ownp
    subst hvp
    have hrs : s.bs[i].rs = rs := by have h1 := st.eq; simp only [← h1, List.getElem_map, HX.out, Bk.pb]
    have HSN : Hid _ := fun q => share_next inv i hib q
    rw [hrs] at HSN
    have hvlt : ∀ q, v1.ownBlock = some q ∨ v2.ownBlock = some q → q < w5.heap.size := fun q h => by
      rcases h with h | h
      · exact (st5.pool.c.lt q h).2
      · exact (st5.pool.p.lt q h).2
    replace k1 := (b6.block _ (heap_lt k1)).trans k1
    replace k8 := (b6.block _ (heap_lt k8)).trans k8
    have st6 := st5.below b6
    have d6 := bw_call d5 b6
    have own6 := owns_below own9b b6
    have hn1 := inv.n1
    have hpp := inv.cells.p
    obtain ⟨g1, c1, g2, c2, hv1, hv2, hne12⟩ := own_form2 st6.pool (by omega) hpp
    subst hv1 hv2
    have hl16 : l.length ≤ 16 := by rw [← hl]; exact pagesOf_few rs
    rw [hl] at HSN HD
    clear b6 st5 d5 rm5 own9b hpe hnp k0 k7 hl
    go_wp2_with fail
    go_loopw [10] (fun k wr => ∃ q : Nat, q ≤ l.length ∧ k = .int .i64 q ∧ OwnP base wr (.slice (some ⟨g1, 0, none⟩) s.cs.length c1) (.slice (some ⟨g2, 0, none⟩) s.ps.length c2) (shareAll s.cs (l.take q)) s.ps ∧ Only (fun z => (Value.slice (some ⟨g1, 0, none⟩) s.cs.length c1).ownBlock = some z ∨ (Value.slice (some ⟨g2, 0, none⟩) s.ps.length c2).ownBlock = some z) w6 wr) (fun k _ => l.length - (intOf k).toNat)
    case atStart => exact ⟨0, Nat.zero_le _, rfl, by rw [List.take_zero]; exact st6.pool, Only.refl _ _⟩
    case round =>
      obtain ⟨q, hq, rfl, ownq, onq⟩ := hrel
      have stq := st6.pooled ownq onq
      have ownpq := own_pool_only ownp onq hvlt
      by_cases hlt : q < l.length
      · obtain ⟨hsl, hsq⟩ := HSN.out q
        obtain ⟨hp0, hp1, hp2, hp3⟩ := hsq hlt
        have hstep := shareAll_step s.cs l q hlt
        obtain ⟨gp, hgp⟩ := row_block1 ownpq (by omega)
        subst hgp
        have cQ0 := ownpq.cellAt q (show q < l.length * 1 by omega)
        have cQ : wr.drew.cell? ⟨gp, q, none⟩ = some (.int .i64 l[q]) := cQ0.trans (by rw [List.getElem?_map, List.getElem?_eq_getElem hlt]; rfl)
        obtain ⟨kp, hkp⟩ := Int.eq_ofNat_of_zero_le hp0
        rw [hkp] at cQ hstep hp1 hp2 hp3
        rw [Int.toNat_natCast] at hstep hp1 hp2 hp3
        have HST : Hid _ := hstep
        obtain ⟨cs', hcs'⟩ : ∃ cs', shareAll s.cs (l.take q) = cs' := ⟨_, rfl⟩
        rw [hcs'] at ownq hsl hp2 hp3 HST
        have ownN := ownq
        rw [← hsl] at ownN
        have cC0 := ownN.c.cellAt kp (show kp < cs'.length * 1 by omega)
        have cC : wr.drew.cell? ⟨g1, kp, none⟩ = some (.int .i64 (cs'.getD kp 0)) := cC0.trans (getD_some cs' kp (by omega))
        have fC : wr.drew.frozen? ⟨g1, kp, none⟩ = false := ownN.c.frozenAt kp
        have b0 : wr.drew.cell? ⟨b, 0, none⟩ = some (.slice (some ⟨g1, 0, none⟩) s.cs.length c1) := at_cell stq.box 0
        have ownN2 := ownN.set1 kp (cs'.getD kp 0 + 1)
        rw [hsl] at ownN2
        have onN := onq.setCell ⟨g1, kp, none⟩ (.inl rfl) (.int .i64 (cs'.getD kp 0 + 1))
        have HR : Hid _ := And.intro (ownN2.below ((Below.refl _ _).drew)) (onN.below ((Below.refl _ _).drew))
        have hw : IntKind.i64.wrap (cs'.getD kp 0 + 1) = cs'.getD kp 0 + 1 := by rw [IntKind.wrap_i64]; omega
        have j0' : (0 : Int) ≤ (q : Int) := by omega
        have j1' : (q : Int) < (l.length : Int) := by omega
        have j2' : (0 : Int) ≤ (kp : Int) := by omega
        have j3' : (kp : Int) < (s.cs.length : Int) := by omega
        clear ownq ownN ownN2 onN onq stq ownpq hstep hcs' hsq hkp cC0 cQ0
        generalize cs'.getD kp 0 = cc at *
        go_wp2_with fail
        go_region
        go_wp2_with fail
        go_roundw
        case rel => exact ⟨q + 1, by omega, by go_num, by rw [HST.out]; exact HR.out⟩
        case measure => simp [intOf]; omega
      · have htk : l.take q = l := List.take_of_length_le (by omega)
        rw [htk] at stq
        have own9q : wr.ownsRow base 129 3 (.slice o9 rs.length c9) rs.length (rs.flatMap runC) := own_only own6 onq (fun g' hg' hS => by
          rcases hS with h | h
          · exact rows_apart own6 st6.pool.c (by decide) g' h hg'
          · exact rows_apart own6 st6.pool.p (by decide) g' h hg')
        have onW : Only (ShW b (.slice (some ⟨g1, 0, none⟩) s.cs.length c1) (.slice (some ⟨g2, 0, none⟩) s.ps.length c2) (.slice (some ⟨g, 0, none⟩) bks.length cap)) w6 wr := onq.mono (fun z hz => hz.elim (fun q => .inr (.inl q)) (fun q => .inr (.inr (.inl q))))
        have k1q := st6.keeps onW k1 (by decide) (by decide) (by decide)
        have k8q := (onq.block n8 (heap_lt k8) (fun hS => by
          rcases hS with h | h
          · exact own_not_box st6.pool.c k8 (by decide) h
          · exact own_not_box st6.pool.p k8 (by decide) h)).trans k8
        have dq := (d6.mono hbase).trans (st6.only_below onW)
        have x0 := at_cell k8q 0
        have x1 := at_cell k8q 1
        have x2 := at_cell k8q 2
        have x3 := at_cell k8q 3
        have x4 := at_cell k8q 4
        clear ownq onq ownpq st6 onW k8 k1 d6 htk own6 ownp
        go_wp2_with fail
        clear x0 x1 x2 x3 x4
        refine (l8Insert_any base b _ _ _ bks ⟨shareAll s.cs l, s.ps, s.bs⟩ ⟨ot, xz, .slice o9 rs.length c9, rs, true, 0⟩ _ stq hfew own9q).mono ?_
        rintro e w8 ⟨vb', bks', rfl, st8, on8⟩
        have k1w := stq.keeps_b on8 k1q (by decide)
        have hb8 : Below base wr w8 := on8.toBelow (Nat.le_trans stq.lo (Nat.le_of_lt (heap_lt stq.box))) (fun i hi => by rw [hi]; exact stq.lo)
        have HS : Hid _ := do_end HD.out (Nat.le_succ_of_le hbase) k1w st8 (dq.trans hb8)
        have q0 := at_cell k1w 0
        have q1 := at_cell k1w 1
        have f0 := at_open k1w 0
        have f1 := at_open k1w 1
        clear k1w k1q k8q stq st8 hb8 dq st HD on8 own9q
        go_wp2_with fail
        exact bodyPost_ret (v := .agg #[.int .i64 0, .int .i64 0]) (by simp [results, Tryz.results61, go_sem, at_cell HS.out.1]) rfl HS.out.2
end Go.Proofs.YtcefcglonooelaaGreatDoor

