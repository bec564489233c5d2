/-
  Contracts and plain laws, one chapter behind the other.
-/
import Derived.Test.YtcefcglonooelaaGreatDoorB09
import Derived.Test.YtcefcglonooelaaGreatDoorB13
import Derived.Test.YtcefcglonooelaaGreatDoorB15
import Derived.Test.YtcefcglonooelaaGreatDoorB16
import Derived.Test.YtcefcglonooelaaGreatDoorB17
import Derived.Test.YtcefcglonooelaaGreatDoorB18
namespace Go.Proofs.YtcefcglonooelaaGreatDoor
open Go.RowKit

set_option linter.unusedVariables false

set_option maxRecDepth 100000


set_option maxHeartbeats 6400000 in
theorem l8Do_9 (base b : Nat) (v1 v2 vb : Value) (bks : List Bk) (s : Sf) (nm ot : ByteArray) (at_ va ep : Int) (w : World) (hn : nm.size ≤ maxLen) (ho : ot.size ≤ maxLen) (inv : ShInv s) (st : ShSt base b w v1 v2 vb bks s) (hok : opOk ⟨9, nm, ot, at_, va, ep⟩ = true) (href : refused s.bs ⟨9, nm, ot, at_, va, ep⟩ = 0) :
    Calls Tryz.prog 61 #[.pointer (some ⟨b, 0, none⟩), .agg #[.int .i64 9, .string nm, .string ot, .int .i64 at_, .int .i64 va, .int .i64 ep]] w (DoPost base b v1 v2 s ⟨9, nm, ot, at_, va, ep⟩ w) := by
  obtain ⟨i, hi, hib, hfp, hfb, hat, hbk⟩ := found (o := ⟨9, nm, ot, at_, va, ep⟩) st href (show (9 : Int) ≠ 1 by decide)
  have ha16 := at_lt inv hok href (show (9 : Int) ≠ 1 by decide)
  simp only at hfp hfb hbk ha16
  have hmap := (book_parts (inv.oks _ (List.getElem_mem hib))).2.2.2.1
  have HD : Hid (doOp s ⟨9, nm, ot, at_, va, ep⟩ = doKind s ⟨9, nm, ot, at_, va, ep⟩ i s.bs[i] ((pages s.bs[i].rs).getD at_.toNat 0)) := do_kind hok href (show (9 : Int) ≠ 1 ∧ (9 : Int) ≠ 6 ∧ kOther 9 = false by decide) hfp hbk ha16.2
  obtain ⟨ob, cap, hvf⟩ := own_slice st.books.row
  subst hvf
  have hbase : base ≤ w.heap.size := Nat.le_trans st.lo (Nat.le_of_lt (heap_lt st.box))
  have hfew : bks.length ≤ 6 := by rw [st.len]; exact inv.few
  obtain ⟨W0, hW0, k0, k1, d0, z0⟩ := box2 w #[.int .i64 9, .string nm, .string ot, .int .i64 at_, .int .i64 va, .int .i64 ep] #[.int .i64 0, .int .i64 0] 26 30
  have HW0 : Hid (W0 = _) := hW0
  have st0 := st.below d0
  clear hW0 z0
  go_enter Tryz.func61, Tryz.ntmps61
  go_wp2_with fail
  rw [← HW0.out]
  clear HW0
  refine (specOpOk_any 9 nm ot at_ va ep _ hn ho).mono ?_
  rintro e w1 ⟨rfl, b1⟩
  rw [hok]
  replace k0 := (b1.block _ (heap_lt k0)).trans k0
  replace k1 := (b1.block _ (heap_lt k1)).trans k1
  replace st0 := st0.below b1
  replace d0 := bw_call d0 b1
  clear b1
  have hne := BelowOf.any w1
  have rb : ReadsR 5 bookC w1.heap.size w1 (.slice ob bks.length cap) bks := ReadsR.of_own bookC_len st0.books.row
  have hfm := st0.forms
  have H1 : ∀ q : BelowOf w1, Calls Tryz.prog 83 #[.slice ob bks.length cap, .agg #[.int .i64 9, .string nm, .string ot, .int .i64 at_, .int .i64 va, .int .i64 ep]] q.w' fun e w' => e = .returned (.int .i64 0) ∧ Below q.w'.heap.size q.w' w' := fun q => by
    have h := l8Refused_any (.slice ob bks.length cap) bks 9 nm ot at_ va ep q.w' (by omega) (rb.of (Nat.le_refl _) q) hfm
    rw [st.eq, href] at h
    exact h
  have c0 := BelowOf.cell (v := .int .i64 9) (at_cell k0 0) (heap_lt k0)
  have c1 := BelowOf.cell (v := .string nm) (at_cell k0 1) (heap_lt k0)
  have c2 := BelowOf.cell (v := .string ot) (at_cell k0 2) (heap_lt k0)
  have c3 := BelowOf.cell (v := .int .i64 at_) (at_cell k0 3) (heap_lt k0)
  have c4 := BelowOf.cell (v := .int .i64 va) (at_cell k0 4) (heap_lt k0)
  have c5 := BelowOf.cell (v := .int .i64 ep) (at_cell k0 5) (heap_lt k0)
  have cB := BelowOf.cell (v := .slice ob bks.length cap) (at_cell st0.box 2) (heap_lt st0.box)
  go_wp2_with fail
  refine wp_region_of (by kernel_rfl) (by kernel_rfl) ?_
  repeat (go_big_quiet_step ((first | (go_at_call 83; with_reducible exact calls_of (H1 _)) | rfl)))
  refine wpQuiet_nil ?_
  intro w2 hw2
  obtain ⟨⟨wx, cx⟩, hwx⟩ := hw2
  have b2 : Below w1.heap.size w1 w2 := by rw [hwx]; exact cx
  clear hwx cx wx hne c0 c1 c2 c3 c4 c5 cB H1 rb
  replace k0 := (b2.block _ (heap_lt k0)).trans k0
  replace k1 := (b2.block _ (heap_lt k1)).trans k1
  replace st0 := st0.below b2
  replace d0 := bw_call d0 b2
  clear b2
  have hne := BelowOf.any w2
  have rb : ReadsR 5 bookC w2.heap.size w2 (.slice ob bks.length cap) bks := ReadsR.of_own bookC_len st0.books.row
  have H2 : ∀ q : BelowOf w2, Calls Tryz.prog 84 #[.slice ob bks.length cap, .string nm] q.w' fun e w' => e = .returned (.int .i64 i) ∧ w' = q.w' := fun q => by
    have h := specFindBook_any (.slice ob bks.length cap) bks nm q.w' (rb.of (Nat.le_refl _) q)
    rw [hfb] at h
    exact h
  have c1 := BelowOf.cell (v := .string nm) (at_cell k0 1) (heap_lt k0)
  have cB := BelowOf.cell (v := .slice ob bks.length cap) (at_cell st0.box 2) (heap_lt st0.box)
  go_wp2_with fail
  refine wp_region_of (by kernel_rfl) (by kernel_rfl) ?_
  repeat (go_big_quiet_step ((first | (go_at_call 84; with_reducible exact calls_of_same (H2 _)) | rfl)))
  refine wpQuiet_nil ?_
  intro w3 hw3
  obtain ⟨⟨wx, cx⟩, hwx⟩ := hw3
  have b3 : Below w2.heap.size w2 w3 := by rw [hwx]; exact cx
  clear hwx cx wx hne c1 cB H2 rb
  replace k0 := (b3.block _ (heap_lt k0)).trans k0
  replace k1 := (b3.block _ (heap_lt k1)).trans k1
  replace st0 := st0.below b3
  replace d0 := bw_call d0 b3
  clear b3
  obtain ⟨g, hob⟩ := row_block st0.books.row (by omega)
  subst hob
  obtain ⟨⟨a0, a1, a2, a3, a4⟩, e0, e1, e2, e3, e4⟩ := own_five st0.books.row i hi
  have rm : ReadsR 3 runC w3.heap.size w3 bks[i].m bks[i].rs := ReadsR.of_own runC_len (st0.books.maps _ (List.getElem_mem hi))
  rw [hat] at hmap HD
  obtain ⟨x, hx⟩ : ∃ x, bks[i] = x := ⟨_, rfl⟩
  have HX : Hid (bks[i] = x) := hx
  rw [hx] at a0 a1 a2 a3 a4 rm hmap HD
  clear hx
  obtain ⟨xn, xz, xm, rs, xf, xe⟩ := x
  simp only [Bk.pb] at a0 a1 a2 a3 a4 rm hmap HD
  obtain ⟨mo, mc, hmf⟩ := rm.form
  subst hmf
  have HMP : Hid _ := hmap
  have hpl := pages_length rs
  have pB := at_cell st0.box 2
  have p0 := at_cell k0 0
  have p3 := at_cell k0 3
  have i0 : (0 : Int) ≤ (i : Int) := by omega
  have i1 : (i : Int) < (bks.length : Int) := by omega
  obtain ⟨a, haa⟩ := Int.eq_ofNat_of_zero_le ha16.1
  subst haa
  clear hmap e0 e1 e2 e3 e4 a0 a1 a3 a4 hat hbk hfp hfb
  go_wp2_with fail
  refine (l5Pages_any _ rs _ HMP.out rm).mono ?_
  rintro e w4 ⟨gp, cp, rfl, ownp, b4⟩
  replace k0 := (b4.block _ (heap_lt k0)).trans k0
  replace k1 := (b4.block _ (heap_lt k1)).trans k1
  have stP := st0.pool
  replace st0 := st0.below b4
  replace d0 := bw_call d0 b4
  have hpa : a < (pages rs).length := by rw [hpl]; omega
  have cA := (ownp.cellAt a (by omega)).trans (getD_some (pages rs) a hpa)
  have a0' : (0 : Int) ≤ (a : Int) := by omega
  have a1' : (a : Int) < 16 := by omega
  clear b4 rm pB p0 p3 a2
  rw [Int.toNat_natCast] at HD
  have hpr := pages_range rs HMP.out a (by omega)
  have HPGS : Hid _ := fun (h : 0 ≤ (pages rs).getD a 0) => inv.page i hib ((pages rs).getD a 0) (by rw [show s.bs[i].rs = rs by have h1 := st.eq; simp only [← h1, List.getElem_map, HX.out, Bk.pb]]; exact (mem_getD _ hpl _).2 ⟨a, by omega, rfl⟩) h
  obtain ⟨page, hpage⟩ : ∃ page, (pages rs).getD a 0 = page := ⟨_, rfl⟩
  rw [hpage] at cA hpr HPGS HD
  clear hpage
  have p0 := at_cell k0 0
  have p3 := at_cell k0 3
  by_cases hpg : page < 0
  · have HS : Hid _ := do_end (show doOp s ⟨9, nm, ot, (a : Int), va, ep⟩ = (s, (0, 0)) by rw [HD.out, kind_9, if_pos hpg]) (Nat.le_succ_of_le hbase) k1 st0 (d0.mono hbase)
    have q0 := at_cell k1 0
    have q1 := at_cell k1 1
    have f0 := at_open k1 0
    have f1 := at_open k1 1
    clear k0 k1 st0 d0 st HD
    go_wp2_with fail
    exact bodyPost_ret (v := .agg #[.int .i64 0, .int .i64 0]) (by simp [results, Tryz.results61, go_sem, at_cell HS.out.1]) rfl HS.out.2

  · obtain ⟨kp, hkp⟩ := Int.eq_ofNat_of_zero_le (show 0 ≤ page by omega)
    subst hkp
    obtain ⟨hk1, hk2⟩ := HPGS.out (by omega)
    have hpp := inv.cells.p
    have HS : Hid _ := do_end (show doOp s ⟨9, nm, ot, (a : Int), va, ep⟩ = (s, (0, s.ps.getD kp 0)) by rw [HD.out, kind_9, if_neg hpg, Int.toNat_natCast]) (Nat.le_succ_of_le hbase) k1 st0 (d0.mono hbase)
    have hkl : kp < s.ps.length := by rw [hpp]; omega
    obtain ⟨o2, c2, hv2⟩ := own_slice st0.pool.p
    have cP := st0.pool.p
    subst hv2
    obtain ⟨g2, hg2⟩ := row_block1 cP (by omega)
    subst hg2
    have cV := (cP.cellAt kp (by omega)).trans (getD_some s.ps kp hkl)
    have b1 := at_cell st0.box 1
    have j0 : (0 : Int) ≤ (kp : Int) := by omega
    have j1 : (kp : Int) < (s.ps.length : Int) := by omega
    have q0 := at_cell k1 0
    have q1 := at_cell k1 1
    have f0 := at_open k1 0
    have f1 := at_open k1 1
    clear k0 k1 st0 d0 st HD cP
    generalize s.ps.getD kp 0 = val at *
    go_wp2_with fail
    exact bodyPost_ret (v := .agg #[.int .i64 0, .int .i64 val]) (by simp [results, Tryz.results61, go_sem, at_cell HS.out.1]) rfl HS.out.2
end Go.Proofs.YtcefcglonooelaaGreatDoor

namespace Go.Proofs.YtcefcglonooelaaGreatDoor
open Go.RowKit

set_option linter.unusedVariables false

set_option maxRecDepth 100000


/-- In a right shelf's own box: what l8Do does, whatever the op. -/
theorem l8Do_any (base b : Nat) (v1 v2 vb : Value) (bks : List Bk) (s : Sf) (k : Int) (nm ot : ByteArray) (at_ va ep : Int) (w : World) (hn : nm.size ≤ maxLen) (ho : ot.size ≤ maxLen) (inv : ShInv s) (st : ShSt base b w v1 v2 vb bks s) :
    Calls Tryz.prog 61 #[.pointer (some ⟨b, 0, none⟩), .agg #[.int .i64 k, .string nm, .string ot, .int .i64 at_, .int .i64 va, .int .i64 ep]] w (DoPost base b v1 v2 s ⟨k, nm, ot, at_, va, ep⟩ w) := by
  cases hok : opOk ⟨k, nm, ot, at_, va, ep⟩
  · exact l8Do_bad base b v1 v2 vb bks s k nm ot at_ va ep w hn ho inv st hok
  · by_cases href : refused s.bs ⟨k, nm, ot, at_, va, ep⟩ = 0
    · have hk := (opOk_bd _ hok).1
      simp only at hk
      have h : k = 1 ∨ k = 2 ∨ k = 3 ∨ k = 4 ∨ k = 5 ∨ k = 6 ∨ k = 7 ∨ k = 8 ∨ k = 9 := by omega
      rcases h with rfl | rfl | rfl | rfl | rfl | rfl | rfl | rfl | rfl
      · exact l8Do_1 base b v1 v2 vb bks s nm ot at_ va ep w hn ho inv st hok href
      · exact l8Do_2 base b v1 v2 vb bks s nm ot at_ va ep w hn ho inv st hok href
      · exact l8Do_3 base b v1 v2 vb bks s nm ot at_ va ep w hn ho inv st hok href
      · exact l8Do_4 base b v1 v2 vb bks s nm ot at_ va ep w hn ho inv st hok href
      · exact l8Do_5 base b v1 v2 vb bks s nm ot at_ va ep w hn ho inv st hok href
      · exact l8Do_6 base b v1 v2 vb bks s nm ot at_ va ep w hn ho inv st hok href
      · exact l8Do_7 base b v1 v2 vb bks s nm ot at_ va ep w hn ho inv st hok href
      · exact l8Do_8 base b v1 v2 vb bks s nm ot at_ va ep w hn ho inv st hok href
      · exact l8Do_9 base b v1 v2 vb bks s nm ot at_ va ep w hn ho inv st hok href
    · exact l8Do_refd base b v1 v2 vb bks s k nm ot at_ va ep w hn ho inv st hok href
end Go.Proofs.YtcefcglonooelaaGreatDoor

