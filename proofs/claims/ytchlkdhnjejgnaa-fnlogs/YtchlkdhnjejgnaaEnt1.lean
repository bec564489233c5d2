/-
  Chapter 11: the specification's EntryOk and LogOk, at every argument.
-/
import Derived.Test.YtchlkdhnjejgnaaEntM
import Derived.Test.YtchlkdhnjejgnaaSetAt
import Derived.Test.YtchlkdhnjejgnaaMapM
import Derived.Test.YtchlkdhnjejgnaaRows4
import Derived.Test.YtchlkdhnjejgnaaInts
namespace Go.Proofs.Ytchlkdhnjejgnaa
open Go.RowKit
set_option linter.unusedVariables false
set_option maxRecDepth 100000

set_option maxHeartbeats 1600000 in
theorem specEntryOk_any (sq cl tg k : Int) (nm ot : ByteArray) (at_ va ep : Int) (w : World) (hn : nm.size ≤ maxLen) (ho : ot.size ≤ maxLen) :
    Calls Try.prog 26 #[.agg #[.int .i64 sq, .int .i64 cl, .int .i64 tg, .int .i64 k, .string nm, .string ot, .int .i64 at_, .int .i64 va, .int .i64 ep]] w fun e w' => e = .returned (.bool (entOk ⟨sq, cl, tg, ⟨k, nm, ot, at_, va, ep⟩⟩)) ∧ Below w.heap.size w w' := by
  obtain ⟨W0, hW0, k0, d0, z0⟩ := box1 w #[.int .i64 sq, .int .i64 cl, .int .i64 tg, .int .i64 k, .string nm, .string ot, .int .i64 at_, .int .i64 va, .int .i64 ep] 56
  have HW0 : Hid (W0 = _) := hW0
  have p0 := at_cell k0 0
  have p1 := at_cell k0 1
  have p2 := at_cell k0 2
  have p3 := at_cell k0 3
  have p4 := at_cell k0 4
  have p5 := at_cell k0 5
  have p6 := at_cell k0 6
  have p7 := at_cell k0 7
  have p8 := at_cell k0 8
  have HB : Hid (entOk ⟨sq, cl, tg, ⟨k, nm, ot, at_, va, ep⟩⟩ = ((decide (1 ≤ sq) && decide (sq ≤ 1000)) && (decide (1 ≤ tg) && decide (tg ≤ 1000)) && (decide (0 ≤ cl) && decide (cl ≤ 3)) && changes ⟨k, nm, ot, at_, va, ep⟩)) := rfl
  clear hW0 z0 k0
  go_enter Try.func26, Try.ntmps26
  go_wp2_with fail
  rw [← HW0.out]
  clear HW0
  refine (l1In_any sq 1 1000 _).mono ?_
  rintro e w' ⟨rfl, rfl⟩
  generalize (decide (1 ≤ sq) && decide (sq ≤ 1000)) = c0 at *
  cases c0
  · go_wp2_with fail
    go_ret
    exact ⟨ret_bool (by rw [HB.out]; rfl), d0⟩
  go_wp2_with fail
  refine (l1In_any tg 1 1000 _).mono ?_
  rintro e w' ⟨rfl, rfl⟩
  generalize (decide (1 ≤ tg) && decide (tg ≤ 1000)) = c1 at *
  cases c1
  · go_wp2_with fail
    go_ret
    exact ⟨ret_bool (by rw [HB.out]; rfl), d0⟩
  go_wp2_with fail
  refine (l1In_any cl 0 3 _).mono ?_
  rintro e w' ⟨rfl, rfl⟩
  generalize (decide (0 ≤ cl) && decide (cl ≤ 3)) = c2 at *
  cases c2
  · go_wp2_with fail
    go_ret
    exact ⟨ret_bool (by rw [HB.out]; rfl), d0⟩
  go_wp2_with fail
  refine (specChanges_any k nm ot at_ va ep _ hn ho).mono ?_
  rintro e w1 ⟨rfl, b1⟩
  replace d0 := bw_call d0 b1
  generalize changes ⟨k, nm, ot, at_, va, ep⟩ = c3 at *
  go_wp2_with fail
  go_ret
  exact ⟨ret_bool (by rw [HB.out]; rfl), d0⟩

theorem nine_cells {B : Nat} {w : World} {o : Option Addr} {l : List Ent} (hc : ∀ i x, l[i]? = some x → ∃ g off, o = some ⟨g, off, none⟩ ∧ g < B ∧ ∀ j u, (entC x)[j]? = some u → w.cell? ⟨g, off + i * 9 + j, none⟩ = some u) (i : Nat) (hi : i < l.length) :
    ∃ g off, o = some ⟨g, off, none⟩ ∧ g < B ∧ w.cell? ⟨g, off + i * 9, none⟩ = some (.int .i64 l[i].sq) ∧ w.cell? ⟨g, off + i * 9 + 1, none⟩ = some (.int .i64 l[i].cl) ∧ w.cell? ⟨g, off + i * 9 + 2, none⟩ = some (.int .i64 l[i].tg) ∧ w.cell? ⟨g, off + i * 9 + 3, none⟩ = some (.int .i64 l[i].o.k) ∧ w.cell? ⟨g, off + i * 9 + 4, none⟩ = some (.string l[i].o.nm) ∧ w.cell? ⟨g, off + i * 9 + 5, none⟩ = some (.string l[i].o.ot) ∧ w.cell? ⟨g, off + i * 9 + 6, none⟩ = some (.int .i64 l[i].o.at_) ∧ w.cell? ⟨g, off + i * 9 + 7, none⟩ = some (.int .i64 l[i].o.va) ∧ w.cell? ⟨g, off + i * 9 + 8, none⟩ = some (.int .i64 l[i].o.ep) := by
  obtain ⟨g, off, e, hg, hx⟩ := hc i l[i] (List.getElem?_eq_getElem hi)
  exact ⟨g, off, e, hg, hx 0 _ rfl, hx 1 _ rfl, hx 2 _ rfl, hx 3 _ rfl, hx 4 _ rfl, hx 5 _ rfl, hx 6 _ rfl, hx 7 _ rfl, hx 8 _ rfl⟩
/-- Numbers of 64 bits, texts that can be. -/
def FitEnt (e : Ent) : Prop := (e.o.nm.size ≤ maxLen ∧ e.o.ot.size ≤ maxLen) ∧ I64 e.sq ∧ I64 e.cl ∧ I64 e.tg ∧ I64 e.o.k ∧ I64 e.o.at_ ∧ I64 e.o.va ∧ I64 e.o.ep
def FitLog (l : List Ent) : Prop := ∀ e ∈ l, FitEnt e
theorem logOk_of {l : List Ent} {n : Nat} (h : inOrd 0 tags0 l = n) : logOk l = (decide (l.length ≤ 120) && decide (n = l.length)) := by rw [logOk, h]

set_option maxHeartbeats 3200000 in
theorem specLogOk_any (v : Value) (l : List Ent) (w : World) (hf : FitLog l) (r : ReadsR 9 entC w.heap.size w v l) :
    Calls Try.prog 24 #[v] w fun e w' => e = .returned (.bool (logOk l)) ∧ Below w.heap.size w w' := by
  obtain ⟨o, cap, rfl, hm, hc, -⟩ := r
  have HC : Hid _ := nine_cells hc
  have HF : Hid _ := hf
  obtain ⟨M, -, hmk, hown⟩ := made_ints 4 (by omega)
  have e4 : ((4 : Nat) : Int) = 4 := rfl
  rw [e4] at hmk
  have own0 := hown w w.heap.size (Nat.le_refl _)
  have bd0 : Below w.heap.size w (w.alloc (.cells M 2)) := bw_alloc (Below.refl _ _)
  unfold maxLen at hm
  clear hown hc hf e4
  go_enter Try.func24, Try.ntmps24
  go_wp2_with fail
  generalize w.alloc (.cells M 2) = W0 at own0 bd0 ⊢
  clear hmk
  go_loopw [4] (fun i wr => ∃ (k : Nat) (t : List Int), k ≤ l.length ∧ i = .int .i64 k ∧ t.length = 4 ∧ inOrd 0 tags0 l = inOrd k t (l.drop k) ∧ wr.ownsRow w.heap.size 2 1 (.slice (some ⟨w.heap.size, 0, none⟩) 4 4) 4 (t.map (Value.int .i64)) ∧ Below w.heap.size w wr) (fun i _ => l.length - (intOf i).toNat)
  case atStart => exact ⟨0, tags0, Nat.zero_le _, rfl, rfl, rfl, own0, bd0⟩
  case round =>
    clear own0 bd0
    obtain ⟨k, t, hk, rfl, htl, hin, own, hb⟩ := hrel
    by_cases hlt : k < l.length
    · obtain ⟨g, off, rfl, hg, a0, a1, a2, a3, a4, a5, a6, a7, a8⟩ := HC.out k hlt
      have hfe := HF.out l[k] (List.getElem_mem hlt)
      have HY : Hid (stepOk k t l[k] = true → inOrd 0 tags0 l = inOrd (k + 1) (t.set l[k].cl.toNat l[k].tg) (l.drop (k + 1))) := fun h => hin.trans (inOrd_yes hlt h)
      have HN : Hid (stepOk k t l[k] = false → logOk l = false) := fun h => by rw [logOk_of (hin.trans (inOrd_no hlt h)), decide_eq_false (show ¬ k = l.length by omega), Bool.and_false]
      generalize l[k] = x at a0 a1 a2 a3 a4 a5 a6 a7 a8 hfe HY HN
      obtain ⟨sq, cl, tg, ⟨k1, nm, ot, at_, va, ep⟩⟩ := x
      simp only at a0 a1 a2 a3 a4 a5 a6 a7 a8
      obtain ⟨⟨hn, ho⟩, -⟩ := hfe
      simp only at hn ho
      replace a0 := (hb.cell (p := ⟨g, off + k * 9, none⟩) hg).trans a0
      replace a1 := (hb.cell (p := ⟨g, off + k * 9 + 1, none⟩) hg).trans a1
      replace a2 := (hb.cell (p := ⟨g, off + k * 9 + 2, none⟩) hg).trans a2
      replace a3 := (hb.cell (p := ⟨g, off + k * 9 + 3, none⟩) hg).trans a3
      replace a4 := (hb.cell (p := ⟨g, off + k * 9 + 4, none⟩) hg).trans a4
      replace a5 := (hb.cell (p := ⟨g, off + k * 9 + 5, none⟩) hg).trans a5
      replace a6 := (hb.cell (p := ⟨g, off + k * 9 + 6, none⟩) hg).trans a6
      replace a7 := (hb.cell (p := ⟨g, off + k * 9 + 7, none⟩) hg).trans a7
      replace a8 := (hb.cell (p := ⟨g, off + k * 9 + 8, none⟩) hg).trans a8
      obtain ⟨W5, hW5, k5, d5, z5⟩ := box1 wr #[.int .i64 sq, .int .i64 cl, .int .i64 tg, .int .i64 k1, .string nm, .string ot, .int .i64 at_, .int .i64 va, .int .i64 ep] 56
      have HW5 : Hid (W5 = _) := hW5
      have HO : Hid (W5.ownsRow w.heap.size 2 1 (.slice (some ⟨w.heap.size, 0, none⟩) 4 4) 4 (t.map (Value.int .i64))) := owns_below own d5
      have hb5 := bw_call hb d5
      have HS : Hid (stepOk k t ⟨sq, cl, tg, ⟨k1, nm, ot, at_, va, ep⟩⟩ = (entOk ⟨sq, cl, tg, ⟨k1, nm, ot, at_, va, ep⟩⟩ && decide (sq = (k : Int) + 1) && decide (t.getD cl.toNat 0 < tg))) := rfl
      have s5 := heap_lt k5
      have HIN : Hid _ := hin
      clear hW5 own hb d5 HC HF hin z5
      go_wp2_with fail
      rw [← HW5.out]
      clear HW5 a0 a1 a2 a3 a4 a5 a6 a7 a8
      have hne := BelowOf.any W5
      have q0 := BelowOf.cell (at_cell k5 0) s5
      have q1 := BelowOf.cell (at_cell k5 1) s5
      have q2 := BelowOf.cell (at_cell k5 2) s5
      have q3 := BelowOf.cell (at_cell k5 3) s5
      have q4 := BelowOf.cell (at_cell k5 4) s5
      have q5 := BelowOf.cell (at_cell k5 5) s5
      have q6 := BelowOf.cell (at_cell k5 6) s5
      have q7 := BelowOf.cell (at_cell k5 7) s5
      have q8 := BelowOf.cell (at_cell k5 8) s5
      obtain ⟨okv, hok⟩ : ∃ x, entOk ⟨sq, cl, tg, ⟨k1, nm, ot, at_, va, ep⟩⟩ = x := ⟨_, rfl⟩
      have HEQ : ∀ q : BelowOf W5, Calls Try.prog 26 #[.agg #[.int .i64 sq, .int .i64 cl, .int .i64 tg, .int .i64 k1, .string nm, .string ot, .int .i64 at_, .int .i64 va, .int .i64 ep]] q.w' fun e w' => e = .returned (.bool okv) ∧ Below q.w'.heap.size q.w' w' := fun q => by have h := specEntryOk_any sq cl tg k1 nm ot at_ va ep q.w' hn ho; rwa [hok] at h
      have HOK : Hid (entOk ⟨sq, cl, tg, ⟨k1, nm, ot, at_, va, ep⟩⟩ = okv) := hok
      have hw1 : IntKind.i64.wrap ((k : Int) + 1) = (k : Int) + 1 := by rw [IntKind.wrap_i64]; omega
      clear hok
      cases okv
      · have HX : Hid (stepOk k t ⟨sq, cl, tg, ⟨k1, nm, ot, at_, va, ep⟩⟩ = false) := by rw [Hid, HS.out, HOK.out]; rfl
        refine wp_region_of (by kernel_rfl) (by kernel_rfl) ?_
        repeat (go_big_quiet_step ((first | (go_at_call 26; exact calls_of (HEQ _)) | rfl)))
        refine wpQuiet_nil ?_
        intro w6 hw6
        obtain ⟨⟨wx, cx⟩, hwx⟩ := hw6
        have b6 : Below W5.heap.size W5 w6 := by rw [hwx]; exact cx
        have hb6 := bw_call hb5 b6
        clear hwx cx wx hne q0 q1 q2 q3 q4 q5 q6 q7 q8 HEQ
        go_wp2_with fail
        go_ret
        exact ⟨ret_bool (HN.out HX.out).symm, hb6⟩
      have hbd := entOk_bd HOK.out
      simp only at hbd
      obtain ⟨C, rfl⟩ := Int.eq_ofNat_of_zero_le hbd.2.2.1.1
      have hC : C < 4 := by omega
      clear hbd
      by_cases hsq : sq = (k : Int) + 1
      · have hj1 : (sq != (k : Int) + 1) = false := by rw [hsq]; simp
        have HSQ : Hid (sq = (k : Int) + 1) := hsq
        clear hsq
        have t0 := HO.out.cellAt C (by omega)
        rw [List.getElem?_map, List.getElem?_eq_getElem (show C < t.length by omega)] at t0
        simp only [Option.map_some] at t0
        have HG : Hid (t.getD C 0 = t[C]) := by simp [Hid, List.getD, show C < t.length by omega]
        have qt := BelowOf.cell t0 (HO.out.lt _ rfl).2
        have i0 : (0 : Int) ≤ (C : Int) := by omega
        have i1 : (C : Int) < 4 := by omega
        generalize t[C] = y at t0 qt HG
        by_cases hty : tg ≤ y
        · have HX : Hid (stepOk k t ⟨sq, (C : Int), tg, ⟨k1, nm, ot, at_, va, ep⟩⟩ = false) := by rw [Hid, HS.out, show ((C : Int)).toNat = C from rfl, HG.out, decide_eq_false (show ¬ y < tg by omega), Bool.and_false]
          have hj2 : decide (tg ≤ y) = true := decide_eq_true hty
          clear hty
          refine wp_region_of (by kernel_rfl) (by kernel_rfl) ?_
          repeat (go_big_quiet_step ((first | (go_at_call 26; exact calls_of (HEQ _)) | rfl)))
          refine wpQuiet_nil ?_
          intro w6 hw6
          obtain ⟨⟨wx, cx⟩, hwx⟩ := hw6
          have b6 : Below W5.heap.size W5 w6 := by rw [hwx]; exact cx
          have hb6 := bw_call hb5 b6
          clear hwx cx wx hne q0 q1 q2 q3 q4 q5 q6 q7 q8 HEQ qt
          go_wp2_with fail
          go_ret
          exact ⟨ret_bool (HN.out HX.out).symm, hb6⟩
        have HX : Hid (stepOk k t ⟨sq, (C : Int), tg, ⟨k1, nm, ot, at_, va, ep⟩⟩ = true) := by rw [Hid, HS.out, show ((C : Int)).toNat = C from rfl, HG.out, HOK.out, decide_eq_true (show y < tg by omega), decide_eq_true HSQ.out]; rfl
        have hj2 : decide (tg ≤ y) = false := decide_eq_false hty
        clear hty
        have HIX : Hid _ := HY.out HX.out
        refine wp_region_of (by kernel_rfl) (by kernel_rfl) ?_
        repeat (go_big_quiet_step ((first | (go_at_call 26; exact calls_of (HEQ _)) | rfl)))
        refine wpQuiet_nil ?_
        intro w6 hw6
        obtain ⟨⟨wx, cx⟩, hwx⟩ := hw6
        have b6 : Below W5.heap.size W5 w6 := by rw [hwx]; exact cx
        have hb6 := bw_call hb5 b6
        have own6 := owns_below HO.out b6
        have k6 := (b6.block _ s5).trans k5
        have p1 := at_cell k6 1
        have p2 := at_cell k6 2
        have t6 := own6.cellAt C (by omega)
        have f6 := own6.frozenAt C
        rw [List.getElem?_map, List.getElem?_eq_getElem (show C < t.length by omega)] at t6
        simp only [Option.map_some] at t6
        generalize t[C] = y6 at t6
        obtain ⟨hst, hgr⟩ := own6.stored C (.int .i64 tg)
        rw [← List.map_set] at hst
        have hbf : Below w.heap.size w (w6.setCell ⟨w.heap.size, C, none⟩ (.int .i64 tg)) := bw_set (p := ⟨w.heap.size, C, none⟩) hb6 (by simp) _
        have HFI : Hid _ := And.intro hst hbf
        have htl2 : (t.set C tg).length = 4 := by simpa using htl
        have HTL : Hid ((t.set C tg).length = 4) := htl2
        clear hwx cx wx hne q0 q1 q2 q3 q4 q5 q6 q7 q8 HEQ qt t0 hst hbf hgr own6 htl2 b6 hb6 HO hb5 HS HY HN HOK HG HX HIN k6 k5 htl
        go_wp2_with fail
        go_roundw
        case rel => exact ⟨k + 1, t.set C tg, by omega, by go_num, HTL.out, HIX.out, HFI.out.1, HFI.out.2⟩
        case measure => simp [intOf]; omega
      · have hj1 : (sq != (k : Int) + 1) = true := by rw [bne_iff_ne]; exact hsq
        have HX : Hid (stepOk k t ⟨sq, (C : Int), tg, ⟨k1, nm, ot, at_, va, ep⟩⟩ = false) := by rw [Hid, HS.out, decide_eq_false hsq, Bool.and_false]; rfl
        clear hsq
        refine wp_region_of (by kernel_rfl) (by kernel_rfl) ?_
        repeat (go_big_quiet_step ((first | (go_at_call 26; exact calls_of (HEQ _)) | rfl)))
        refine wpQuiet_nil ?_
        intro w6 hw6
        obtain ⟨⟨wx, cx⟩, hwx⟩ := hw6
        have b6 : Below W5.heap.size W5 w6 := by rw [hwx]; exact cx
        have hb6 := bw_call hb5 b6
        clear hwx cx wx hne q0 q1 q2 q3 q4 q5 q6 q7 q8 HEQ
        go_wp2_with fail
        go_ret
        exact ⟨ret_bool (HN.out HX.out).symm, hb6⟩
    · have HE : Hid (logOk l = decide ((l.length : Int) ≤ 120)) := by
        rw [Hid, logOk_of (hin.trans (inOrd_end hlt)), decide_eq_true (show k = l.length by omega), Bool.and_true]
        congr 1
        rw [eq_iff_iff]
        omega
      clear HC HF hin own
      go_wp2_with fail
      go_ret
      exact ⟨ret_bool HE.out.symm, hb⟩

end Go.Proofs.Ytchlkdhnjejgnaa
