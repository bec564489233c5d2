/-
  Contracts and plain laws, one chapter behind the other.
-/
import Derived.Test.YtibhepekmihagaaGreatDoorChecked
import Derived.Deep.Slices
import Derived.Deep.Strs
import Derived.Deep.DeepCutAuto
import Derived.Test.YtibhepekmihagaaGreatDoorM02
import Derived.Test.YtibhepekmihagaaGreatDoorM04
import Derived.Test.YtibhepekmihagaaGreatDoorM05
import Derived.Test.YtibhepekmihagaaGreatDoorM07
import Derived.Test.YtibhepekmihagaaGreatDoorM09
import Derived.Test.YtibhepekmihagaaGreatDoorM11
import Derived.Test.YtibhepekmihagaaGreatDoorM13
import Derived.Test.YtibhepekmihagaaGreatDoorM16
import Derived.Test.YtibhepekmihagaaGreatDoorM18
namespace Go.Proofs.YtibhepekmihagaaGreatDoor
open Go.RowKit

set_option linter.unusedVariables false

set_option maxRecDepth 100000


set_option maxHeartbeats 1600000 in
theorem specEntryOk_any (sq cl tg k : Int) (nm ot : ByteArray) (at_ va ep : Int) (w : World) (hn : nm.size ≤ maxLen) (ho : ot.size ≤ maxLen) :
    Calls Tryz.prog 91 #[.agg #[.int .i64 sq, .int .i64 cl, .int .i64 tg, .int .i64 k, .string nm, .string ot, .int .i64 at_, .int .i64 va, .int .i64 ep]] w fun e w' => e = .returned (.bool (entOk ⟨sq, cl, tg, ⟨k, nm, ot, at_, va, ep⟩⟩)) ∧ Below w.heap.size w w' := by
  obtain ⟨W0, hW0, k0, d0, z0⟩ := box1 w #[.int .i64 sq, .int .i64 cl, .int .i64 tg, .int .i64 k, .string nm, .string ot, .int .i64 at_, .int .i64 va, .int .i64 ep] 91
  have HW0 : Hid (W0 = _) := hW0
  have p0 := at_cell k0 0
  have p1 := at_cell k0 1
  have p2 := at_cell k0 2
  have p3 := at_cell k0 3
  have p4 := at_cell k0 4
  have p5 := at_cell k0 5
  have p6 := at_cell k0 6
  have p7 := at_cell k0 7
  have p8 := at_cell k0 8
  have HB : Hid (entOk ⟨sq, cl, tg, ⟨k, nm, ot, at_, va, ep⟩⟩ = ((decide (1 ≤ sq) && decide (sq ≤ 1000)) && (decide (1 ≤ tg) && decide (tg ≤ 1000)) && (decide (0 ≤ cl) && decide (cl ≤ 3)) && changes ⟨k, nm, ot, at_, va, ep⟩)) := rfl
  clear hW0 z0 k0
  go_enter Tryz.func91, Tryz.ntmps91
  go_wp2_with fail
  rw [← HW0.out]
  clear HW0
  refine (l1In_any sq 1 1000 _).mono ?_
  rintro e w' ⟨rfl, rfl⟩
  generalize (decide (1 ≤ sq) && decide (sq ≤ 1000)) = c0 at *
  cases c0
  · go_wp2_with fail
    go_ret
    exact ⟨ret_bool (by rw [HB.out]; rfl), d0⟩
  go_wp2_with fail
  refine (l1In_any tg 1 1000 _).mono ?_
  rintro e w' ⟨rfl, rfl⟩
  generalize (decide (1 ≤ tg) && decide (tg ≤ 1000)) = c1 at *
  cases c1
  · go_wp2_with fail
    go_ret
    exact ⟨ret_bool (by rw [HB.out]; rfl), d0⟩
  go_wp2_with fail
  refine (l1In_any cl 0 3 _).mono ?_
  rintro e w' ⟨rfl, rfl⟩
  generalize (decide (0 ≤ cl) && decide (cl ≤ 3)) = c2 at *
  cases c2
  · go_wp2_with fail
    go_ret
    exact ⟨ret_bool (by rw [HB.out]; rfl), d0⟩
  go_wp2_with fail
  refine (specChanges_any k nm ot at_ va ep _ hn ho).mono ?_
  rintro e w1 ⟨rfl, b1⟩
  replace d0 := bw_call d0 b1
  generalize changes ⟨k, nm, ot, at_, va, ep⟩ = c3 at *
  go_wp2_with fail
  go_ret
  exact ⟨ret_bool (by rw [HB.out]; rfl), d0⟩

theorem nine_cells {B : Nat} {w : World} {o : Option Addr} {l : List Ent} (hc : ∀ i x, l[i]? = some x → ∃ g off, o = some ⟨g, off, none⟩ ∧ g < B ∧ ∀ j u, (entC x)[j]? = some u → w.cell? ⟨g, off + i * 9 + j, none⟩ = some u) (i : Nat) (hi : i < l.length) :
    ∃ g off, o = some ⟨g, off, none⟩ ∧ g < B ∧ w.cell? ⟨g, off + i * 9, none⟩ = some (.int .i64 l[i].sq) ∧ w.cell? ⟨g, off + i * 9 + 1, none⟩ = some (.int .i64 l[i].cl) ∧ w.cell? ⟨g, off + i * 9 + 2, none⟩ = some (.int .i64 l[i].tg) ∧ w.cell? ⟨g, off + i * 9 + 3, none⟩ = some (.int .i64 l[i].o.k) ∧ w.cell? ⟨g, off + i * 9 + 4, none⟩ = some (.string l[i].o.nm) ∧ w.cell? ⟨g, off + i * 9 + 5, none⟩ = some (.string l[i].o.ot) ∧ w.cell? ⟨g, off + i * 9 + 6, none⟩ = some (.int .i64 l[i].o.at_) ∧ w.cell? ⟨g, off + i * 9 + 7, none⟩ = some (.int .i64 l[i].o.va) ∧ w.cell? ⟨g, off + i * 9 + 8, none⟩ = some (.int .i64 l[i].o.ep) := by
  obtain ⟨g, off, e, hg, hx⟩ := hc i l[i] (List.getElem?_eq_getElem hi)
  exact ⟨g, off, e, hg, hx 0 _ rfl, hx 1 _ rfl, hx 2 _ rfl, hx 3 _ rfl, hx 4 _ rfl, hx 5 _ rfl, hx 6 _ rfl, hx 7 _ rfl, hx 8 _ rfl⟩

/-- Numbers of 64 bits, texts that can be. -/
def FitEnt (e : Ent) : Prop := (e.o.nm.size ≤ maxLen ∧ e.o.ot.size ≤ maxLen) ∧ I64 e.sq ∧ I64 e.cl ∧ I64 e.tg ∧ I64 e.o.k ∧ I64 e.o.at_ ∧ I64 e.o.va ∧ I64 e.o.ep

def FitLog (l : List Ent) : Prop := ∀ e ∈ l, FitEnt e

theorem logOk_of {l : List Ent} {n : Nat} (h : inOrd 0 tags0 l = n) : logOk l = (decide (l.length ≤ 120) && decide (n = l.length)) := by rw [logOk, h]

set_option maxHeartbeats 3200000 in
theorem specLogOk_any (v : Value) (l : List Ent) (w : World) (hf : FitLog l) (r : ReadsR 9 entC w.heap.size w v l) :
    Calls Tryz.prog 39 #[v] w fun e w' => e = .returned (.bool (logOk l)) ∧ Below w.heap.size w w' := by
  obtain ⟨o, cap, rfl, hm, hc, -⟩ := r
  have HC : Hid _ := nine_cells hc
  have HF : Hid _ := hf
  obtain ⟨M, -, hmk, hown⟩ := made_ints 4 (by omega)
  have e4 : ((4 : Nat) : Int) = 4 := rfl
  rw [e4] at hmk
  have own0 := hown w w.heap.size (Nat.le_refl _)
  have bd0 : Below w.heap.size w (w.alloc (.cells M 2)) := bw_alloc (Below.refl _ _)
  unfold maxLen at hm
  clear hown hc hf e4
  go_enter Tryz.func39, Tryz.ntmps39
  go_wp2_with fail
  generalize w.alloc (.cells M 2) = W0 at own0 bd0 ⊢
  clear hmk
  go_loopw [4] (fun i wr => ∃ (k : Nat) (t : List Int), k ≤ l.length ∧ i = .int .i64 k ∧ t.length = 4 ∧ inOrd 0 tags0 l = inOrd k t (l.drop k) ∧ wr.ownsRow w.heap.size 2 1 (.slice (some ⟨w.heap.size, 0, none⟩) 4 4) 4 (t.map (Value.int .i64)) ∧ Below w.heap.size w wr) (fun i _ => l.length - (intOf i).toNat)
  case atStart => exact ⟨0, tags0, Nat.zero_le _, rfl, rfl, rfl, own0, bd0⟩
  case round =>
    clear own0 bd0
    obtain ⟨k, t, hk, rfl, htl, hin, own, hb⟩ := hrel
    by_cases hlt : k < l.length
    · obtain ⟨g, off, rfl, hg, a0, a1, a2, a3, a4, a5, a6, a7, a8⟩ := HC.out k hlt
      have hfe := HF.out l[k] (List.getElem_mem hlt)
      have HY : Hid (stepOk k t l[k] = true → inOrd 0 tags0 l = inOrd (k + 1) (t.set l[k].cl.toNat l[k].tg) (l.drop (k + 1))) := fun h => hin.trans (inOrd_yes hlt h)
      have HN : Hid (stepOk k t l[k] = false → logOk l = false) := fun h => by rw [logOk_of (hin.trans (inOrd_no hlt h)), decide_eq_false (show ¬ k = l.length by omega), Bool.and_false]
      generalize l[k] = x at a0 a1 a2 a3 a4 a5 a6 a7 a8 hfe HY HN
      obtain ⟨sq, cl, tg, ⟨k1, nm, ot, at_, va, ep⟩⟩ := x
      simp only at a0 a1 a2 a3 a4 a5 a6 a7 a8
      obtain ⟨⟨hn, ho⟩, -⟩ := hfe
      simp only at hn ho
      replace a0 := (hb.cell (p := ⟨g, off + k * 9, none⟩) hg).trans a0
      replace a1 := (hb.cell (p := ⟨g, off + k * 9 + 1, none⟩) hg).trans a1
      replace a2 := (hb.cell (p := ⟨g, off + k * 9 + 2, none⟩) hg).trans a2
      replace a3 := (hb.cell (p := ⟨g, off + k * 9 + 3, none⟩) hg).trans a3
      replace a4 := (hb.cell (p := ⟨g, off + k * 9 + 4, none⟩) hg).trans a4
      replace a5 := (hb.cell (p := ⟨g, off + k * 9 + 5, none⟩) hg).trans a5
      replace a6 := (hb.cell (p := ⟨g, off + k * 9 + 6, none⟩) hg).trans a6
      replace a7 := (hb.cell (p := ⟨g, off + k * 9 + 7, none⟩) hg).trans a7
      replace a8 := (hb.cell (p := ⟨g, off + k * 9 + 8, none⟩) hg).trans a8
      obtain ⟨W5, hW5, k5, d5, z5⟩ := box1 wr #[.int .i64 sq, .int .i64 cl, .int .i64 tg, .int .i64 k1, .string nm, .string ot, .int .i64 at_, .int .i64 va, .int .i64 ep] 91
      have HW5 : Hid (W5 = _) := hW5
      have HO : Hid (W5.ownsRow w.heap.size 2 1 (.slice (some ⟨w.heap.size, 0, none⟩) 4 4) 4 (t.map (Value.int .i64))) := owns_below own d5
      have hb5 := bw_call hb d5
      have HS : Hid (stepOk k t ⟨sq, cl, tg, ⟨k1, nm, ot, at_, va, ep⟩⟩ = (entOk ⟨sq, cl, tg, ⟨k1, nm, ot, at_, va, ep⟩⟩ && decide (sq = (k : Int) + 1) && decide (t.getD cl.toNat 0 < tg))) := rfl
      have s5 := heap_lt k5
      have HIN : Hid _ := hin
      clear hW5 own hb d5 HC HF hin z5
      go_wp2_with fail
      rw [← HW5.out]
      clear HW5 a0 a1 a2 a3 a4 a5 a6 a7 a8
      have hne := BelowOf.any W5
      have q0 := BelowOf.cell (at_cell k5 0) s5
      have q1 := BelowOf.cell (at_cell k5 1) s5
      have q2 := BelowOf.cell (at_cell k5 2) s5
      have q3 := BelowOf.cell (at_cell k5 3) s5
      have q4 := BelowOf.cell (at_cell k5 4) s5
      have q5 := BelowOf.cell (at_cell k5 5) s5
      have q6 := BelowOf.cell (at_cell k5 6) s5
      have q7 := BelowOf.cell (at_cell k5 7) s5
      have q8 := BelowOf.cell (at_cell k5 8) s5
      obtain ⟨okv, hok⟩ : ∃ x, entOk ⟨sq, cl, tg, ⟨k1, nm, ot, at_, va, ep⟩⟩ = x := ⟨_, rfl⟩
      have HEQ : ∀ q : BelowOf W5, Calls Tryz.prog 91 #[.agg #[.int .i64 sq, .int .i64 cl, .int .i64 tg, .int .i64 k1, .string nm, .string ot, .int .i64 at_, .int .i64 va, .int .i64 ep]] q.w' fun e w' => e = .returned (.bool okv) ∧ Below q.w'.heap.size q.w' w' := fun q => by have h := specEntryOk_any sq cl tg k1 nm ot at_ va ep q.w' hn ho; rwa [hok] at h
      have HOK : Hid (entOk ⟨sq, cl, tg, ⟨k1, nm, ot, at_, va, ep⟩⟩ = okv) := hok
      have hw1 : IntKind.i64.wrap ((k : Int) + 1) = (k : Int) + 1 := by rw [IntKind.wrap_i64]; omega
      clear hok
      cases okv
      · have HX : Hid (stepOk k t ⟨sq, cl, tg, ⟨k1, nm, ot, at_, va, ep⟩⟩ = false) := by rw [Hid, HS.out, HOK.out]; rfl
        refine wp_region_of (by kernel_rfl) (by kernel_rfl) ?_
        repeat (go_big_quiet_step ((first | (go_at_call 91; exact calls_of (HEQ _)) | rfl)))
        refine wpQuiet_nil ?_
        intro w6 hw6
        obtain ⟨⟨wx, cx⟩, hwx⟩ := hw6
        have b6 : Below W5.heap.size W5 w6 := by rw [hwx]; exact cx
        have hb6 := bw_call hb5 b6
        clear hwx cx wx hne q0 q1 q2 q3 q4 q5 q6 q7 q8 HEQ
        go_wp2_with fail
        go_ret
        exact ⟨ret_bool (HN.out HX.out).symm, hb6⟩
      have hbd := entOk_bd HOK.out
      simp only at hbd
      obtain ⟨C, rfl⟩ := Int.eq_ofNat_of_zero_le hbd.2.2.1.1
      have hC : C < 4 := by omega
      clear hbd
      by_cases hsq : sq = (k : Int) + 1
      · have hj1 : (sq != (k : Int) + 1) = false := by rw [hsq]; simp
        have HSQ : Hid (sq = (k : Int) + 1) := hsq
        clear hsq
        have t0 := HO.out.cellAt C (by omega)
        rw [List.getElem?_map, List.getElem?_eq_getElem (show C < t.length by omega)] at t0
        simp only [Option.map_some] at t0
        have HG : Hid (t.getD C 0 = t[C]) := by simp [Hid, List.getD, show C < t.length by omega]
        have qt := BelowOf.cell t0 (HO.out.lt _ rfl).2
        have i0 : (0 : Int) ≤ (C : Int) := by omega
        have i1 : (C : Int) < 4 := by omega
        generalize t[C] = y at t0 qt HG
        by_cases hty : tg ≤ y
        · have HX : Hid (stepOk k t ⟨sq, (C : Int), tg, ⟨k1, nm, ot, at_, va, ep⟩⟩ = false) := by rw [Hid, HS.out, show ((C : Int)).toNat = C from rfl, HG.out, decide_eq_false (show ¬ y < tg by omega), Bool.and_false]
          have hj2 : decide (tg ≤ y) = true := decide_eq_true hty
          clear hty
          refine wp_region_of (by kernel_rfl) (by kernel_rfl) ?_
          repeat (go_big_quiet_step ((first | (go_at_call 91; exact calls_of (HEQ _)) | rfl)))
          refine wpQuiet_nil ?_
          intro w6 hw6
          obtain ⟨⟨wx, cx⟩, hwx⟩ := hw6
          have b6 : Below W5.heap.size W5 w6 := by rw [hwx]; exact cx
          have hb6 := bw_call hb5 b6
          clear hwx cx wx hne q0 q1 q2 q3 q4 q5 q6 q7 q8 HEQ qt
          go_wp2_with fail
          go_ret
          exact ⟨ret_bool (HN.out HX.out).symm, hb6⟩
        have HX : Hid (stepOk k t ⟨sq, (C : Int), tg, ⟨k1, nm, ot, at_, va, ep⟩⟩ = true) := by rw [Hid, HS.out, show ((C : Int)).toNat = C from rfl, HG.out, HOK.out, decide_eq_true (show y < tg by omega), decide_eq_true HSQ.out]; rfl
        have hj2 : decide (tg ≤ y) = false := decide_eq_false hty
        clear hty
        have HIX : Hid _ := HY.out HX.out
        refine wp_region_of (by kernel_rfl) (by kernel_rfl) ?_
        repeat (go_big_quiet_step ((first | (go_at_call 91; exact calls_of (HEQ _)) | rfl)))
        refine wpQuiet_nil ?_
        intro w6 hw6
        obtain ⟨⟨wx, cx⟩, hwx⟩ := hw6
        have b6 : Below W5.heap.size W5 w6 := by rw [hwx]; exact cx
        have hb6 := bw_call hb5 b6
        have own6 := owns_below HO.out b6
        have k6 := (b6.block _ s5).trans k5
        have p1 := at_cell k6 1
        have p2 := at_cell k6 2
        have t6 := own6.cellAt C (by omega)
        have f6 := own6.frozenAt C
        rw [List.getElem?_map, List.getElem?_eq_getElem (show C < t.length by omega)] at t6
        simp only [Option.map_some] at t6
        generalize t[C] = y6 at t6
        obtain ⟨hst, hgr⟩ := own6.stored C (.int .i64 tg)
        rw [← List.map_set] at hst
        have hbf : Below w.heap.size w (w6.setCell ⟨w.heap.size, C, none⟩ (.int .i64 tg)) := bw_set (p := ⟨w.heap.size, C, none⟩) hb6 (by simp) _
        have HFI : Hid _ := And.intro hst hbf
        have htl2 : (t.set C tg).length = 4 := by simpa using htl
        have HTL : Hid ((t.set C tg).length = 4) := htl2
        clear hwx cx wx hne q0 q1 q2 q3 q4 q5 q6 q7 q8 HEQ qt t0 hst hbf hgr own6 htl2 b6 hb6 HO hb5 HS HY HN HOK HG HX HIN k6 k5 htl
        go_wp2_with fail
        go_roundw
        case rel => exact ⟨k + 1, t.set C tg, by omega, by go_num, HTL.out, HIX.out, HFI.out.1, HFI.out.2⟩
        case measure => simp [intOf]; omega
      · have hj1 : (sq != (k : Int) + 1) = true := by rw [bne_iff_ne]; exact hsq
        have HX : Hid (stepOk k t ⟨sq, (C : Int), tg, ⟨k1, nm, ot, at_, va, ep⟩⟩ = false) := by rw [Hid, HS.out, decide_eq_false hsq, Bool.and_false]; rfl
        clear hsq
        refine wp_region_of (by kernel_rfl) (by kernel_rfl) ?_
        repeat (go_big_quiet_step ((first | (go_at_call 91; exact calls_of (HEQ _)) | rfl)))
        refine wpQuiet_nil ?_
        intro w6 hw6
        obtain ⟨⟨wx, cx⟩, hwx⟩ := hw6
        have b6 : Below W5.heap.size W5 w6 := by rw [hwx]; exact cx
        have hb6 := bw_call hb5 b6
        clear hwx cx wx hne q0 q1 q2 q3 q4 q5 q6 q7 q8 HEQ
        go_wp2_with fail
        go_ret
        exact ⟨ret_bool (HN.out HX.out).symm, hb6⟩
    · have HE : Hid (logOk l = decide ((l.length : Int) ≤ 120)) := by
        rw [Hid, logOk_of (hin.trans (inOrd_end hlt)), decide_eq_true (show k = l.length by omega), Bool.and_true]
        congr 1
        rw [eq_iff_iff]
        omega
      clear HC HF hin own
      go_wp2_with fail
      go_ret
      exact ⟨ret_bool HE.out.symm, hb⟩
end Go.Proofs.YtibhepekmihagaaGreatDoor

namespace Go.Proofs.YtibhepekmihagaaGreatDoor
open Go.ChangeShapes Go.WideShapes Go.ChangeAt Go.RowKit Go.Deep Go.Joins

set_option linter.unusedVariables false

set_option maxRecDepth 100000

set_option maxHeartbeats 1600000 in
theorem eqEntry_same (sq cl tg k : Int) (nm ot : ByteArray) (at_ va ep : Int) (w : World) :
    Calls Tryz.prog 47 #[.agg #[.int .i64 sq, .int .i64 cl, .int .i64 tg, .int .i64 k, .string nm, .string ot, .int .i64 at_, .int .i64 va, .int .i64 ep], .agg #[.int .i64 sq, .int .i64 cl, .int .i64 tg, .int .i64 k, .string nm, .string ot, .int .i64 at_, .int .i64 va, .int .i64 ep]] w fun e w' => e = .returned (.bool true) ∧ Below w.heap.size w w' := by
  obtain ⟨W0, hW0, k0, k1, d0, z0⟩ := box2 w #[.int .i64 sq, .int .i64 cl, .int .i64 tg, .int .i64 k, .string nm, .string ot, .int .i64 at_, .int .i64 va, .int .i64 ep] #[.int .i64 sq, .int .i64 cl, .int .i64 tg, .int .i64 k, .string nm, .string ot, .int .i64 at_, .int .i64 va, .int .i64 ep] 91 91
  have HW0 : Hid (W0 = _) := hW0
  have p0 := at_cell k0 0
  have q0 := at_cell k1 0
  have p1 := at_cell k0 1
  have q1 := at_cell k1 1
  have p2 := at_cell k0 2
  have q2 := at_cell k1 2
  have p3 := at_cell k0 3
  have q3 := at_cell k1 3
  have p4 := at_cell k0 4
  have q4 := at_cell k1 4
  have p5 := at_cell k0 5
  have q5 := at_cell k1 5
  have p6 := at_cell k0 6
  have q6 := at_cell k1 6
  have p7 := at_cell k0 7
  have q7 := at_cell k1 7
  have p8 := at_cell k0 8
  have q8 := at_cell k1 8
  clear hW0 k0 k1 z0
  go_enter Tryz.func47, Tryz.ntmps47
  go_wp2_with fail
  rw [← HW0.out]
  clear HW0
  refine (eqOp_same k nm ot at_ va ep _).mono ?_
  rintro e w1 ⟨rfl, b1⟩
  replace d0 := bw_call d0 b1
  go_wp2_with fail
  go_ret
  exact ⟨rfl, d0⟩
end Go.Proofs.YtibhepekmihagaaGreatDoor

namespace Go.Proofs.YtibhepekmihagaaGreatDoor
open Go.RowKit

set_option linter.unusedVariables false

set_option maxRecDepth 100000


theorem Tryz.infoEntry : (Tryz.prog.info? 91).map (fun i => (i.zero, i.size, i.bytes)) = some (some (.agg #[.int .i64 0, .int .i64 0, .int .i64 0, .int .i64 0, .string ByteArray.empty, .string ByteArray.empty, .int .i64 0, .int .i64 0, .int .i64 0]), 9, 88) := by kernel_rfl

set_option maxHeartbeats 3200000 in
theorem eqEntries_same (v v' : Value) (bs : List Ent) (w : World) (r : ReadsR 9 entC w.heap.size w v bs) (r' : ReadsR 9 entC w.heap.size w v' bs) :
    Calls Tryz.prog 18 #[v, v'] w fun e w' => e = .returned (.bool true) ∧ Below w.heap.size w w' := by
  obtain ⟨o1, cap1, rfl, m1, c1, -⟩ := r
  obtain ⟨o2, cap2, rfl, m2, c2, -⟩ := r'
  have C1 : Hid _ := nine_cells c1
  have C2 : Hid _ := nine_cells c2
  unfold maxLen at m1
  clear c1 c2 m2
  go_enter Tryz.func18, Tryz.ntmps18
  go_wp2
  go_loopw [5] (fun i wr => ∃ k : Nat, k ≤ bs.length ∧ i = .int .i64 k ∧ Below w.heap.size w wr) (fun i _ => bs.length - (intOf i).toNat)
  case atStart => exact ⟨0, Nat.zero_le _, rfl, Below.refl _ _⟩
  case round =>
    obtain ⟨k, hk, rfl, hb⟩ := hrel
    by_cases hlt : k < bs.length
    · obtain ⟨g1, of1, rfl, q1, a0, a1, a2, a3, a4, a5, a6, a7, a8⟩ := C1.out k hlt
      obtain ⟨g2, of2, rfl, q2, b0, b1, b2, b3, b4, b5, b6, b7, b8⟩ := C2.out k hlt
      generalize bs[k] = x at a0 a1 a2 a3 a4 a5 a6 a7 a8 b0 b1 b2 b3 b4 b5 b6 b7 b8
      obtain ⟨sq, cl, tg, ⟨k1, nm, ot, at_, va, ep⟩⟩ := x
      simp only at a0 a1 a2 a3 a4 a5 a6 a7 a8 b0 b1 b2 b3 b4 b5 b6 b7 b8
      have hne := BelowOf.any wr
      have l1 : g1 < wr.heap.size := Nat.lt_of_lt_of_le q1 hb.size
      have l2 : g2 < wr.heap.size := Nat.lt_of_lt_of_le q2 hb.size
      have HEQ : ∀ q : BelowOf wr, Calls Tryz.prog 47 #[.agg #[.int .i64 sq, .int .i64 cl, .int .i64 tg, .int .i64 k1, .string nm, .string ot, .int .i64 at_, .int .i64 va, .int .i64 ep], .agg #[.int .i64 sq, .int .i64 cl, .int .i64 tg, .int .i64 k1, .string nm, .string ot, .int .i64 at_, .int .i64 va, .int .i64 ep]] q.w' fun e w' => e = .returned (.bool true) ∧ Below q.w'.heap.size q.w' w' := fun q => eqEntry_same sq cl tg k1 nm ot at_ va ep q.w'
      have d0 := BelowOf.cell ((hb.cell (p := ⟨g1, of1 + k * 9, none⟩) q1).trans a0) l1
      have f0 := BelowOf.cell ((hb.cell (p := ⟨g2, of2 + k * 9, none⟩) q2).trans b0) l2
      have d1 := BelowOf.cell ((hb.cell (p := ⟨g1, of1 + k * 9 + 1, none⟩) q1).trans a1) l1
      have f1 := BelowOf.cell ((hb.cell (p := ⟨g2, of2 + k * 9 + 1, none⟩) q2).trans b1) l2
      have d2 := BelowOf.cell ((hb.cell (p := ⟨g1, of1 + k * 9 + 2, none⟩) q1).trans a2) l1
      have f2 := BelowOf.cell ((hb.cell (p := ⟨g2, of2 + k * 9 + 2, none⟩) q2).trans b2) l2
      have d3 := BelowOf.cell ((hb.cell (p := ⟨g1, of1 + k * 9 + 3, none⟩) q1).trans a3) l1
      have f3 := BelowOf.cell ((hb.cell (p := ⟨g2, of2 + k * 9 + 3, none⟩) q2).trans b3) l2
      have d4 := BelowOf.cell ((hb.cell (p := ⟨g1, of1 + k * 9 + 4, none⟩) q1).trans a4) l1
      have f4 := BelowOf.cell ((hb.cell (p := ⟨g2, of2 + k * 9 + 4, none⟩) q2).trans b4) l2
      have d5 := BelowOf.cell ((hb.cell (p := ⟨g1, of1 + k * 9 + 5, none⟩) q1).trans a5) l1
      have f5 := BelowOf.cell ((hb.cell (p := ⟨g2, of2 + k * 9 + 5, none⟩) q2).trans b5) l2
      have d6 := BelowOf.cell ((hb.cell (p := ⟨g1, of1 + k * 9 + 6, none⟩) q1).trans a6) l1
      have f6 := BelowOf.cell ((hb.cell (p := ⟨g2, of2 + k * 9 + 6, none⟩) q2).trans b6) l2
      have d7 := BelowOf.cell ((hb.cell (p := ⟨g1, of1 + k * 9 + 7, none⟩) q1).trans a7) l1
      have f7 := BelowOf.cell ((hb.cell (p := ⟨g2, of2 + k * 9 + 7, none⟩) q2).trans b7) l2
      have d8 := BelowOf.cell ((hb.cell (p := ⟨g1, of1 + k * 9 + 8, none⟩) q1).trans a8) l1
      have f8 := BelowOf.cell ((hb.cell (p := ⟨g2, of2 + k * 9 + 8, none⟩) q2).trans b8) l2
      have g1' : (0 : Int) ≤ (k : Int) := by omega
      have g2' : (k : Int) < (bs.length : Int) := by omega
      clear a0 a1 a2 a3 a4 a5 a6 a7 a8 b0 b1 b2 b3 b4 b5 b6 b7 b8 C1 C2
      go_wp2_with fail
      refine wp_region_of (by kernel_rfl) (by kernel_rfl) ?_
      repeat (go_big_quiet_step ((first | (go_at_call 47; exact calls_of (HEQ _)) | rfl)))
      refine wpQuiet_nil ?_
      intro w5 hw5
      obtain ⟨⟨wx, cx⟩, hwx⟩ := hw5
      have b5 : Below wr.heap.size wr w5 := by rw [hwx]; exact cx
      have hb5 := hb.trans (b5.mono hb.size)
      clear hwx cx wx hne d0 d1 d2 d3 d4 d5 d6 d7 d8 f0 f1 f2 f3 f4 f5 f6 f7 f8 HEQ
      go_wp2_with fail
      go_roundw
      case rel => exact ⟨k + 1, by omega, by go_num, hb5⟩
      case measure => simp [intOf]; omega
    · go_wp2
      go_ret
      exact ⟨rfl, hb⟩
end Go.Proofs.YtibhepekmihagaaGreatDoor

namespace Go.Proofs.YtibhepekmihagaaGreatDoor
open Go.RowKit

set_option linter.unusedVariables false

set_option maxRecDepth 100000

set_option maxHeartbeats 800000 in
theorem markMemoO_any (v1 v2 : Value) (cs : List Int) (ps : List (Int × Int)) (lo : Nat) (k : Int) (w : World) (hk : 0 ≤ k) (hc : cs.length ≤ 1048576) (hp : ps.length ≤ 1048576) (hk2 : k ≤ 1048576) (own : OwnM lo w v1 v2 cs ps) (hlo : lo ≤ w.heap.size) :
    Calls Tryz.prog 21 #[.agg #[v1, v2], .int .i64 k] w fun e w' => e = .returned (.int .i64 (k + cs.length + 2 * ps.length)) ∧ OwnM lo w' v1 v2 (marksI k cs.length) (marksP (k + cs.length) ps.length) ∧ Only (fun i => v1.ownBlock = some i ∨ v2.ownBlock = some i) w w' := by
  obtain ⟨W0, hW0, k0, d0, z0⟩ := box1 w #[v1, v2] 31
  have own0 := own.below d0
  have HW0 : Hid (W0 = _) := hW0
  have HA : Hid _ := own.apart
  clear hW0 own
  go_enter Tryz.func21, Tryz.ntmps21
  go_wp2_with fail
  rw [← HW0.out]
  clear HW0
  have HB1 : Hid (v1.ownBlock ≠ some w.heap.size) := own_not_box own0.t k0 (by decide)
  have HB2 : Hid (v2.ownBlock ≠ some w.heap.size) := own_not_box own0.r k0 (by decide)
  refine (markedIRow_any v1 cs.length lo k _ _ hk (by omega) (by omega) own0.t).mono ?_
  rintro e w1 ⟨rfl, o1, b1, s1, f1⟩
  have k01 := (f1 _ (by omega) HB1.out).trans k0
  have o2 : w1.ownsRow lo 126 2 v2 ps.length (ps.flatMap repC) := own_rng_not own0.r (fun g hg hv => f1 g hg (fun h => HA.out g h hv))
  have p1 := at_cell k01 1
  have R1 : Only (fun i => v1.ownBlock = some i ∨ v2.ownBlock = some i) w w1 := ⟨b1.os.trans d0.os, b1.tape.trans d0.tape, b1.output.trans d0.output, by omega, fun i hi' hc => (f1 i (by omega) (fun h => hc (.inl h))).trans (d0.block i hi')⟩
  clear f1 k0 own0 b1 d0
  go_wp2_with fail
  clear p1
  refine (markedPRow_any v2 lo (k + cs.length) ps _ (by omega) (by omega) (by omega) (by omega) o2).mono ?_
  rintro e w2 ⟨rfl, o3, b2, s2, f2⟩
  have o4 : w2.ownsRow lo 2 1 v1 cs.length ((marksI k cs.length).map (Value.int .i64)) := own_rng_not o1 (fun g hg hv => f2 g hg (fun h => HA.out g hv h))
  have R2 : Only (fun i => v1.ownBlock = some i ∨ v2.ownBlock = some i) w w2 := R1.trans ⟨b2.os, b2.tape, b2.output, s2, fun i hi' hc => f2 i hi' (fun h => hc (.inr h))⟩
  have HO : Hid (OwnM lo w2 v1 v2 (marksI k cs.length) (marksP (k + cs.length) ps.length)) := ⟨by rw [marksI_length]; exact o4, o3⟩
  clear f2 o1 o2 o3 o4 b2 R1 k01
  go_wp2_with fail
  go_ret
  exact ⟨rfl, HO.out, R2⟩
end Go.Proofs.YtibhepekmihagaaGreatDoor

