/-
  The law FnOps answers true at every input that the row speaks of, and its arguments read afterwards as before; the walk goes over the callees' contracts.
-/
import Derived.Test.YtbjkbhchcoabcabRows
import Derived.WalkKit
import Derived.Test.YtbjkbhchcoabcabOpLaw
import Derived.Test.YtbjkbhchcoabcabDrawOp2
import Derived.Test.YtbjkbhchcoabcabImOp2
import Derived.Test.YtbjkbhchcoabcabDrawNum
import Derived.ProofKit
import Derived.OpenShut
import Derived.ShutString
import Derived.ChangeOld
import Derived.Below
namespace Go.Proofs.Ytbjkbhchcoabcab.fnOps
open Go.ChangeShapes Go.WideShapes Go.ChangeAt Go.RowKit
open Go.ChangeMaps (open_string shut_string)
set_option linter.unusedVariables false

theorem own : ownKnob Try.prog.godebug = none := by kernel_rfl
theorem laidOut : laidOutB Try.prog = true := by kernel_rfl

def IsRow (k : IntKind) (w : World) (a : Option Addr) (len cap : Nat) (zs : List Int) : Prop :=
  (a = none ∧ len = 0 ∧ cap = 0 ∧ zs = []) ∨
  ∃ x, a = some x ∧ len ≤ cap ∧ cap ≤ maxLen ∧ zs.length = cap ∧ (∀ i, i < zs.length → w.cell? (x.add i) = some (.int k (zs.getD i 0))) ∧ ∀ n ∈ zs, (Lit.int k n).wf = true

set_option maxRecDepth 100000 in
set_option maxHeartbeats 8000000 in
theorem walk (a0 : Option Addr) (len0 cap0 : Nat) (z0 : List Int) (w : World) (w0 : IsRow .u8 w a0 len0 cap0 z0) :
    Calls Try.prog 7 #[.slice a0 len0 cap0] w fun e w' => e = .returned (.bool true) ∧ Below w.heap.size w w' := by
  have hs : Src w w.heap.size a0 len0 := src_of w0
  have hm := hs.1
  by_cases hbig : (4096 : Int) < (len0 : Int)
  · have hd : decide ((4096 : Int) < (len0 : Int)) = true := by simpa using hbig
    go_enter Try.func7, Try.ntmps7
    go_wp2_with (go_at_call 8; refine (big_any _ _ _ _ hm).mono ?_; rintro e w' ⟨rfl, rfl⟩)
    go_ret
    exact ⟨rfl, Below.refl _ _⟩
  have hd : decide ((4096 : Int) < (len0 : Int)) = false := by simpa using hbig
  have y0 : w.heap.size ≤ w.heap.size := Nat.le_refl _
  clear w0
  go_enter Try.func7, Try.ntmps7
  go_wp2_with fail
  refine (big_any _ _ _ _ hm).mono ?_
  rintro e w' ⟨rfl, rfl⟩
  go_wp2_with fail
  refine (drawShowOp_any _ _ _ _ hs).mono ?_
  rintro e w1 ⟨oq, rfl, fit, d⟩
  replace hs := hs.below d
  replace y0 := d.size
  have HN1 : Hid _ := fit.nl
  have HN2 : Hid _ := fit.ol
  have HFI : Hid (I64 oq.k ∧ I64 oq.at_ ∧ I64 oq.va ∧ I64 oq.ep) := by
    have h1 := fit.k
    have h2 := fit.at_
    have h3 := fit.va
    have h4 := fit.ep
    refine ⟨?_, ?_, ?_, ?_⟩ <;> (unfold I64; omega)
  obtain ⟨k, nm, ot, at_, va, ep⟩ := oq
  simp only at HN1 HN2 HFI ⊢
  clear fit
  have hz := showOp_size ⟨k, nm, ot, at_, va, ep⟩
  have HE : Hid (showOp ⟨k, nm, ot, at_, va, ep⟩ = if opOk ⟨k, nm, ot, at_, va, ep⟩ = true then opShow ⟨k, nm, ot, at_, va, ep⟩ else ByteArray.empty) := rfl
  have HRS : Hid (opOk ⟨k, nm, ot, at_, va, ep⟩ = true → readOp (opShow ⟨k, nm, ot, at_, va, ep⟩) = (⟨k, nm, ot, at_, va, ep⟩, true)) := fun h => read_show_op _ h
  have HCH : Hid (changes ⟨k, nm, ot, at_, va, ep⟩ = (opOk ⟨k, nm, ot, at_, va, ep⟩ && decide (k ≠ 9))) := rfl
  have HEM : Hid (opOk ⟨k, nm, ot, at_, va, ep⟩ = true → ¬ (opShow ⟨k, nm, ot, at_, va, ep⟩).size = 0) := fun h => by
    have hb := opOk_bd _ h
    simp only at hb
    have l1 := showS_len _ _ (ok1 k (by omega))
    unfold opShow
    simp only [app_size]
    omega
  obtain ⟨st, hst⟩ : ∃ x, showOp ⟨k, nm, ot, at_, va, ep⟩ = x := ⟨_, rfl⟩
  have HST : Hid (showOp ⟨k, nm, ot, at_, va, ep⟩ = st) := hst
  obtain ⟨okv, hok⟩ : ∃ x, opOk ⟨k, nm, ot, at_, va, ep⟩ = x := ⟨_, rfl⟩
  have HOK : Hid (opOk ⟨k, nm, ot, at_, va, ep⟩ = okv) := hok
  obtain ⟨chv, hch⟩ : ∃ x, changes ⟨k, nm, ot, at_, va, ep⟩ = x := ⟨_, rfl⟩
  have HCV : Hid (changes ⟨k, nm, ot, at_, va, ep⟩ = chv) := hch
  rw [hst] at hz HE
  rw [hok] at HE HRS HCH HEM
  rw [hch] at HCH
  clear hst hok hch
  have b : Below w1.heap.size w1 (w1.alloc (.cells #[.int .i64 k, .string nm, .string ot, .int .i64 at_, .int .i64 va, .int .i64 ep] 62)) := bw_alloc (Below.refl _ _)
  have kO := heap_alloc_new w1 (.cells #[.int .i64 k, .string nm, .string ot, .int .i64 at_, .int .i64 va, .int .i64 ep] 62)
  have sO : w1.heap.size < (w1.alloc (.cells #[.int .i64 k, .string nm, .string ot, .int .i64 at_, .int .i64 va, .int .i64 ep] 62)).heap.size := by simp
  replace d := bw_call d b
  replace hs := hs.below (b.mono y0)
  replace y0 := Nat.le_trans y0 b.size
  clear b
  have pO0 := at_cell kO 0
  have pO1 := at_cell kO 1
  have pO2 := at_cell kO 2
  have pO3 := at_cell kO 3
  have pO4 := at_cell kO 4
  have pO5 := at_cell kO 5
  go_wp2_with fail
  generalize w1.alloc (.cells #[.int .i64 k, .string nm, .string ot, .int .i64 at_, .int .i64 va, .int .i64 ep] 62) = W1 at *
  generalize w1.heap.size = nO at *
  clear pO0 pO1 pO2 pO3 pO4 pO5
  refine (implShowOp_any k nm ot at_ va ep _ HN1.out HN2.out HFI.out.1 HFI.out.2.1 HFI.out.2.2.1 HFI.out.2.2.2).mono ?_
  rw [HST.out]
  rintro e w2 ⟨rfl, b⟩
  replace d := bw_call d b
  replace hs := hs.below (b.mono y0)
  replace y0 := Nat.le_trans y0 b.size
  replace kO := (b.block _ sO).trans kO
  replace sO := Nat.lt_of_lt_of_le sO b.size
  clear b
  go_wp2_with fail
  refine (drawReadOp_any _ _ _ _ (hs.mono y0)).mono ?_
  rintro e w3 ⟨t, rfl, ht18, b⟩
  replace d := bw_call d b
  replace hs := hs.below (b.mono y0)
  replace y0 := Nat.le_trans y0 b.size
  replace kO := (b.block _ sO).trans kO
  replace sO := Nat.lt_of_lt_of_le sO b.size
  clear b
  clear hs y0
  have ht : t.size ≤ 1099511627776 := by omega
  have hst2 : st.size ≤ 1099511627776 := by omega
  obtain ⟨⟨rq, is⟩, hrd⟩ : ∃ x, readOp t = x := ⟨_, rfl⟩
  obtain ⟨rk, rn, ro, ra, rv, re⟩ := rq
  have HRD : Hid (readOp t = (⟨rk, rn, ro, ra, rv, re⟩, is)) := hrd
  have HZ : Hid (is = false → (⟨rk, rn, ro, ra, rv, re⟩ : Oq) = Oq.zero) := fun h => by
    rw [h] at hrd
    unfold readOp at hrd
    split at hrd
    · split at hrd
      · split at hrd
        · simp at hrd
        · simp only [Prod.mk.injEq, and_true] at hrd; exact hrd.symm
      · simp only [Prod.mk.injEq, and_true] at hrd; exact hrd.symm
    · simp only [Prod.mk.injEq, and_true] at hrd; exact hrd.symm
  have HY : Hid (is = true → showOp ⟨rk, rn, ro, ra, rv, re⟩ = t ∧ opOk ⟨rk, rn, ro, ra, rv, re⟩ = true) := fun h => by
    rw [h] at hrd
    have h2 := show_read_op t _ hrd
    exact ⟨by rw [showOp, if_pos h2.2]; exact h2.1, h2.2⟩
  clear hrd
  go_wp2_with fail
  refine (implReadOp_any t _ ht).mono ?_
  rw [HRD.out]
  simp only
  rintro e w4 ⟨rfl, b⟩
  replace d := bw_call d b
  replace kO := (b.block _ sO).trans kO
  replace sO := Nat.lt_of_lt_of_le sO b.size
  clear b
  have b : Below w4.heap.size w4 (w4.alloc (.cells #[.int .i64 rk, .string rn, .string ro, .int .i64 ra, .int .i64 rv, .int .i64 re] 62)) := bw_alloc (Below.refl _ _)
  have kX := heap_alloc_new w4 (.cells #[.int .i64 rk, .string rn, .string ro, .int .i64 ra, .int .i64 rv, .int .i64 re] 62)
  have sX : w4.heap.size < (w4.alloc (.cells #[.int .i64 rk, .string rn, .string ro, .int .i64 ra, .int .i64 rv, .int .i64 re] 62)).heap.size := by simp
  replace d := bw_call d b
  replace kO := (b.block _ sO).trans kO
  replace sO := Nat.lt_of_lt_of_le sO b.size
  clear b
  go_wp2_with fail
  generalize w4.alloc (.cells #[.int .i64 rk, .string rn, .string ro, .int .i64 ra, .int .i64 rv, .int .i64 re] 62) = W4 at *
  generalize w4.heap.size = nX at *
  refine (specReadOp_any t _ ht).mono ?_
  rw [HRD.out]
  simp only
  rintro e w5 ⟨rfl, b⟩
  replace d := bw_call d b
  replace kO := (b.block _ sO).trans kO
  replace sO := Nat.lt_of_lt_of_le sO b.size
  replace kX := (b.block _ sX).trans kX
  replace sX := Nat.lt_of_lt_of_le sX b.size
  clear b
  have b : Below w5.heap.size w5 (w5.alloc (.cells #[.int .i64 rk, .string rn, .string ro, .int .i64 ra, .int .i64 rv, .int .i64 re] 62)) := bw_alloc (Below.refl _ _)
  have kY := heap_alloc_new w5 (.cells #[.int .i64 rk, .string rn, .string ro, .int .i64 ra, .int .i64 rv, .int .i64 re] 62)
  have sY : w5.heap.size < (w5.alloc (.cells #[.int .i64 rk, .string rn, .string ro, .int .i64 ra, .int .i64 rv, .int .i64 re] 62)).heap.size := by simp
  replace d := bw_call d b
  replace kO := (b.block _ sO).trans kO
  replace sO := Nat.lt_of_lt_of_le sO b.size
  replace kX := (b.block _ sX).trans kX
  replace sX := Nat.lt_of_lt_of_le sX b.size
  clear b
  go_upto_region 8 with fail
  generalize w5.alloc (.cells #[.int .i64 rk, .string rn, .string ro, .int .i64 ra, .int .i64 rv, .int .i64 re] 62) = W5 at *
  generalize w5.heap.size = nY at *
  have hne := BelowOf.any W5
  have his : (is != is) = false := by cases is <;> rfl
  have hokk : (okv != okv) = false := by cases okv <;> rfl
  have hchh : (chv != chv) = false := by cases chv <;> rfl
  have hstt : (st.toList == st.toList) = true := by simp
  have H14 : ∀ q : BelowOf W5, Calls Try.prog 51 #[.agg #[.int .i64 k, .string nm, .string ot, .int .i64 at_, .int .i64 va, .int .i64 ep]] q.w' fun e w' => e = .returned (.string st) ∧ Below q.w'.heap.size q.w' w' := fun q => by have h := specShowOp_any k nm ot at_ va ep q.w' HN1.out HN2.out; rwa [HST.out] at h
  have H15 : ∀ q : BelowOf W5, Calls Try.prog 52 #[.agg #[.int .i64 k, .string nm, .string ot, .int .i64 at_, .int .i64 va, .int .i64 ep]] q.w' fun e w' => e = .returned (.bool okv) ∧ Below q.w'.heap.size q.w' w' := fun q => by have h := implOpOk_any k nm ot at_ va ep q.w' HN1.out HN2.out HFI.out.1 HFI.out.2.1 HFI.out.2.2.1 HFI.out.2.2.2; rwa [HOK.out] at h
  have H16 : ∀ q : BelowOf W5, Calls Try.prog 53 #[.agg #[.int .i64 k, .string nm, .string ot, .int .i64 at_, .int .i64 va, .int .i64 ep]] q.w' fun e w' => e = .returned (.bool okv) ∧ Below q.w'.heap.size q.w' w' := fun q => by have h := specOpOk_any k nm ot at_ va ep q.w' HN1.out HN2.out; rwa [HOK.out] at h
  have H17 : ∀ q : BelowOf W5, Calls Try.prog 54 #[.agg #[.int .i64 k, .string nm, .string ot, .int .i64 at_, .int .i64 va, .int .i64 ep]] q.w' fun e w' => e = .returned (.bool chv) ∧ Below q.w'.heap.size q.w' w' := fun q => by have h := implChanges_any k nm ot at_ va ep q.w' HN1.out HN2.out HFI.out.1 HFI.out.2.1 HFI.out.2.2.1 HFI.out.2.2.2; rwa [HCV.out] at h
  have H18 : ∀ q : BelowOf W5, Calls Try.prog 55 #[.agg #[.int .i64 k, .string nm, .string ot, .int .i64 at_, .int .i64 va, .int .i64 ep]] q.w' fun e w' => e = .returned (.bool chv) ∧ Below q.w'.heap.size q.w' w' := fun q => by have h := specChanges_any k nm ot at_ va ep q.w' HN1.out HN2.out; rwa [HCV.out] at h
  have cO0 := BelowOf.cell (v := .int .i64 k) (at_cell kO 0) sO
  have cO1 := BelowOf.cell (v := .string nm) (at_cell kO 1) sO
  have cO2 := BelowOf.cell (v := .string ot) (at_cell kO 2) sO
  have cO3 := BelowOf.cell (v := .int .i64 at_) (at_cell kO 3) sO
  have cO4 := BelowOf.cell (v := .int .i64 va) (at_cell kO 4) sO
  have cO5 := BelowOf.cell (v := .int .i64 ep) (at_cell kO 5) sO
  have cX0 := BelowOf.cell (v := .int .i64 rk) (at_cell kX 0) sX
  have cX1 := BelowOf.cell (v := .string rn) (at_cell kX 1) sX
  have cX2 := BelowOf.cell (v := .string ro) (at_cell kX 2) sX
  have cX3 := BelowOf.cell (v := .int .i64 ra) (at_cell kX 3) sX
  have cX4 := BelowOf.cell (v := .int .i64 rv) (at_cell kX 4) sX
  have cX5 := BelowOf.cell (v := .int .i64 re) (at_cell kX 5) sX
  have cY0 := BelowOf.cell (v := .int .i64 rk) (at_cell kY 0) sY
  have cY1 := BelowOf.cell (v := .string rn) (at_cell kY 1) sY
  have cY2 := BelowOf.cell (v := .string ro) (at_cell kY 2) sY
  have cY3 := BelowOf.cell (v := .int .i64 ra) (at_cell kY 3) sY
  have cY4 := BelowOf.cell (v := .int .i64 rv) (at_cell kY 4) sY
  have cY5 := BelowOf.cell (v := .int .i64 re) (at_cell kY 5) sY
  refine wp_region_of (by kernel_rfl) (by kernel_rfl) ?_
  repeat (go_big_quiet_step ((first | (go_at_call 51; exact calls_of (H14 _)) | (go_at_call 52; exact calls_of (H15 _)) | (go_at_call 53; exact calls_of (H16 _)) | (go_at_call 54; exact calls_of (H17 _)) | (go_at_call 55; exact calls_of (H18 _)) | rfl)))
  refine wpQuiet_nil ?_
  intro w6 hw5
  obtain ⟨⟨wx, cx⟩, hwx⟩ := hw5
  have b : Below W5.heap.size W5 w6 := by rw [hwx]; exact cx
  clear hwx cx wx hne H14 H15 H16 H17 H18 cO0 cO1 cO2 cO3 cO4 cO5 cX0 cX1 cX2 cX3 cX4 cX5 cY0 cY1 cY2 cY3 cY4 cY5
  replace d := bw_call d b
  replace kO := (b.block _ sO).trans kO
  replace sO := Nat.lt_of_lt_of_le sO b.size
  replace kX := (b.block _ sX).trans kX
  replace sX := Nat.lt_of_lt_of_le sX b.size
  replace kY := (b.block _ sY).trans kY
  replace sY := Nat.lt_of_lt_of_le sY b.size
  clear b
  clear kY sY
  clear his hokk hchh hstt
  go_upto_region 10 with fail
  go_cut [73] (fun v wx => v = .bool false ∧ Below w6.heap.size w6 wx)
  case first =>
    have HRI : Hid (is = true → I64 rk ∧ I64 ra ∧ I64 rv ∧ I64 re ∧ rn.size ≤ maxLen ∧ ro.size ≤ maxLen) := fun h => by
      have hb := opOk_bd _ (HY.out h).2
      simp only at hb
      refine ⟨?_, ?_, ?_, ?_, ?_, ?_⟩ <;> (first | (unfold I64; omega) | (unfold maxLen; omega))
    have pX0 := at_cell kX 0
    have pX1 := at_cell kX 1
    have pX2 := at_cell kX 2
    have pX3 := at_cell kX 3
    have pX4 := at_cell kX 4
    have pX5 := at_cell kX 5
    cases is
    · have hz0 := HZ.out rfl
      simp only [Oq.zero, Oq.mk.injEq] at hz0
      obtain ⟨rfl, rfl, rfl, rfl, rfl, rfl⟩ := hz0
      go_wp2_with fail
      go_meet
      exact ⟨by first | rfl | trivial, Below.refl _ _⟩
    · have hy := HY.out rfl
      have HYS : Hid _ := hy.1
      have hi := HRI.out rfl
      clear hy
      go_wp2_with fail
      refine (implShowOp_any rk rn ro ra rv re _ hi.2.2.2.2.1 hi.2.2.2.2.2 hi.1 hi.2.1 hi.2.2.1 hi.2.2.2.1).mono ?_
      rw [HYS.out]
      rintro e w7 ⟨rfl, b7⟩
      have htt : (t.toList == t.toList) = true := by simp
      go_wp2_with fail
      go_meet
      exact ⟨by first | rfl | trivial, b7⟩
  case rest =>
    obtain ⟨rfl, b⟩ := hcut
    replace d := bw_call d b
    replace kO := (b.block _ sO).trans kO
    replace sO := Nat.lt_of_lt_of_le sO b.size
    replace kX := (b.block _ sX).trans kX
    replace sX := Nat.lt_of_lt_of_le sX b.size
    clear b
    clear kX sX
    clear HZ HY HRD
    cases okv
    · -- not right: nothing is shown
      have hst0 : st = ByteArray.empty := by rw [HE.out]; rfl
      have hch0 : chv = false := by rw [HCH.out]; rfl
      subst hst0 hch0
      have hemp : ByteArray.empty.toList = [] := by rw [ByteArray.toList_eq]; rfl
      have pO0 := at_cell kO 0
      have pO1 := at_cell kO 1
      have pO2 := at_cell kO 2
      have pO3 := at_cell kO 3
      have pO4 := at_cell kO 4
      have pO5 := at_cell kO 5
      go_wp2_with fail
      refine (implOpOk_any k nm ot at_ va ep _ HN1.out HN2.out HFI.out.1 HFI.out.2.1 HFI.out.2.2.1 HFI.out.2.2.2).mono ?_
      rw [HOK.out]
      rintro e w8 ⟨rfl, b⟩
      clear pO0 pO1 pO2 pO3 pO4 pO5
      replace d := bw_call d b
      replace kO := (b.block _ sO).trans kO
      replace sO := Nat.lt_of_lt_of_le sO b.size
      clear b
      have pO0 := at_cell kO 0
      have pO1 := at_cell kO 1
      have pO2 := at_cell kO 2
      have pO3 := at_cell kO 3
      have pO4 := at_cell kO 4
      have pO5 := at_cell kO 5
      go_wp2_with fail
      refine (implChanges_any k nm ot at_ va ep _ HN1.out HN2.out HFI.out.1 HFI.out.2.1 HFI.out.2.2.1 HFI.out.2.2.2).mono ?_
      rw [HCV.out]
      rintro e w9 ⟨rfl, b⟩
      replace d := bw_call d b
      replace kO := (b.block _ sO).trans kO
      replace sO := Nat.lt_of_lt_of_le sO b.size
      clear b
      go_wp2_with fail
      go_ret
      exact ⟨rfl, d⟩
    · have hrs := HRS.out rfl
      have hst1 : st = opShow ⟨k, nm, ot, at_, va, ep⟩ := by rw [HE.out]; rfl
      have hne : ¬ st.size = 0 := by rw [hst1]; exact HEM.out rfl
      rw [← hst1] at hrs
      have HRR : Hid _ := hrs
      have hemp : ¬ st.toList = [] := fun h => hne ((text_none2 st).1 h)
      have hemp2 : st.toList.isEmpty = false := by rw [Bool.eq_false_iff]; exact fun h => hemp (List.isEmpty_iff.1 h)
      clear hrs hst1 hne
      go_wp2_with fail
      refine (implReadOp_any st _ hst2).mono ?_
      rw [HRR.out]
      simp only
      rintro e w8 ⟨rfl, b⟩
      replace d := bw_call d b
      replace kO := (b.block _ sO).trans kO
      replace sO := Nat.lt_of_lt_of_le sO b.size
      clear b
      have b : Below w8.heap.size w8 (w8.alloc (.cells #[.int .i64 k, .string nm, .string ot, .int .i64 at_, .int .i64 va, .int .i64 ep] 62)) := bw_alloc (Below.refl _ _)
      have kZ := heap_alloc_new w8 (.cells #[.int .i64 k, .string nm, .string ot, .int .i64 at_, .int .i64 va, .int .i64 ep] 62)
      have sZ : w8.heap.size < (w8.alloc (.cells #[.int .i64 k, .string nm, .string ot, .int .i64 at_, .int .i64 va, .int .i64 ep] 62)).heap.size := by simp
      replace d := bw_call d b
      replace kO := (b.block _ sO).trans kO
      replace sO := Nat.lt_of_lt_of_le sO b.size
      clear b
      have pZ0 := at_cell kZ 0
      have pZ1 := at_cell kZ 1
      have pZ2 := at_cell kZ 2
      have pZ3 := at_cell kZ 3
      have pZ4 := at_cell kZ 4
      have pZ5 := at_cell kZ 5
      have pO0 := at_cell kO 0
      have pO1 := at_cell kO 1
      have pO2 := at_cell kO 2
      have pO3 := at_cell kO 3
      have pO4 := at_cell kO 4
      have pO5 := at_cell kO 5
      go_wp2_with fail
      go_ret
      exact ⟨ret_bool (decide_eq_true (show (st.size : Int) ≤ 60 by omega)), d⟩

set_option maxRecDepth 100000 in
theorem lifted (os : Os) (started : os.Started) (H : Type) (enc : TypeId × Value → H) :
    ReturnsInHanded {} Try.checked os 7 .any (Rows.fnOpsSpec.pre6 enc Try.prog Try.f7 Rows.fnOpsRow.domain false) (Rows.fnOpsSpec.post enc Try.prog Try.f7 false true false false) := by
  refine returnsInHanded_of_change (C := Try.checked) own started (by kernel_rfl) Try.func7
    (ChangeSpec.witness6 (enc := enc) (C := Try.checked) false ⟨#[], #[.slice none 0 0], []⟩ 8 (by kernel_rfl) (by kernel_rfl) (by kernel_rfl) (by kernel_rfl)) ?_
  intro W base args ds gs before hval0 hW hcnd _
  have hval : ∀ (j : Nat) t v, Try.f7.params[j]? = some t → args[j]? = some v → Value.okWide Try.prog W .any base t v := hval0
  have hW' := hW
  obtain ⟨p, q, hA0, hV, rfl, hfz, hnd⟩ := hW
  have hA : DataW.TrodAll enc Try.prog W 0 (fun _ => true) true Try.f7.params.toList args.toList ds p := hA0
  rw [Try.params7] at hA hval
  obtain ⟨v0, vs0, d0, ds0, p0, q0, hargs, rfl, rfl, h0, r0⟩ := trodAll_cons hA
  obtain ⟨rfl, rfl, rfl⟩ := trodAll_nil r0
  obtain rfl : args = #[v0] := by cases args; simp_all
  obtain ⟨rfl, rfl⟩ := trodVars_none hV
  obtain ⟨a0, len0, cap0, rfl⟩ := okWide_slice Try.underlying22 (hval 0 22 v0 rfl rfl)
  have k0 := h0
  have lt0 : ∀ x ∈ p0, x.block < W.heap.size := by obtain ⟨m, hm⟩ := k0; exact DataW.trod_lt m _ _ _ hm
  obtain ⟨z0, w0⟩ : ∃ zs, IsRow .u8 W a0 len0 cap0 zs := by
    obtain ⟨fuel, hf⟩ := h0
    rcases open_ints Try.underlying22 Try.underlying5 (by kernel_rfl) hf with ⟨hcs, _⟩ | ⟨x, l, c, zs, hcs, _, hl, hm, hz, _, hcell, hwz⟩
    · simp [Value.cells] at hcs
      obtain ⟨rfl, rfl, rfl⟩ := hcs
      exact ⟨[], .inl ⟨rfl, rfl, rfl, rfl⟩⟩
    · simp [Value.cells] at hcs
      obtain ⟨rfl, rfl, rfl⟩ := hcs
      exact ⟨zs, .inr ⟨_, rfl, hl, hm, by simpa using hz, hcell, hwz⟩⟩
  clear hA0 hval0
  refine (walk a0 len0 cap0 z0 W w0).mono fun e W' ⟨he, bel⟩ => ?_
  subst he
  exact ⟨_, rfl, _, _, _, [], _, [], hW', trodAll_mk1 (shut_bool Try.underlying4 _), (trodAll_cons_mk (Below.trod laidOut (by kernel_rfl) (of_decide_eq_true (by kernel_rfl)) k0 bel lt0) trodAll_mk0), rfl, bel.frame _, fun h => by cases h⟩

theorem over : Rows.fnOpsRow.holds Try.pinned (OpenSpec.ofChange Rows.fnOpsSpec) :=
  OpenClaim.holds_of_wide 7 Try.f7 rfl rfl rfl rfl rfl rfl rfl ⟨rfl, rfl, rfl, rfl, rfl⟩ rfl rfl rfl rfl rfl (by kernel_rfl) Try.func7 (by kernel_rfl)
    (of_decide_eq_true (by kernel_rfl)) (by unfold Func.isWrapper; first | (rw [if_pos (by decide +kernel)]; kernel_rfl) | (rw [if_neg (by decide +kernel)]; exact ⟨rfl, rfl⟩))
    (fun os started H enc _ => lifted os started H enc)

theorem proved : Rows.FnOpsSaid := over
#print axioms proved
end Go.Proofs.Ytbjkbhchcoabcab.fnOps
