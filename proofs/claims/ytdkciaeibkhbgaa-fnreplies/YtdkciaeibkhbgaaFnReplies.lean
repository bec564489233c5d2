/-
  The law FnReplies answers true at every input that the row speaks of, and its arguments read afterwards as before; the walk goes over the callees' contracts.
-/
import Derived.Test.YtdkciaeibkhbgaaRows
import Derived.WalkKit
import Derived.Test.YtdkciaeibkhbgaaDrawRep
import Derived.Test.YtdkciaeibkhbgaaImRep
import Derived.Test.YtdkciaeibkhbgaaDrawNum
import Derived.Test.YtdkciaeibkhbgaaOp1
import Derived.ProofKit
import Derived.OpenShut
import Derived.ShutString
import Derived.ChangeOld
import Derived.Below
namespace Go.Proofs.Ytdkciaeibkhbgaa.fnReplies
open Go.ChangeShapes Go.WideShapes Go.ChangeAt Go.RowKit
open Go.ChangeMaps (open_string shut_string)
set_option linter.unusedVariables false

theorem own : ownKnob Try.prog.godebug = none := by kernel_rfl
theorem laidOut : laidOutB Try.prog = true := by kernel_rfl

def IsRow (k : IntKind) (w : World) (a : Option Addr) (len cap : Nat) (zs : List Int) : Prop :=
  (a = none ∧ len = 0 ∧ cap = 0 ∧ zs = []) ∨
  ∃ x, a = some x ∧ len ≤ cap ∧ cap ≤ maxLen ∧ zs.length = cap ∧ (∀ i, i < zs.length → w.cell? (x.add i) = some (.int k (zs.getD i 0))) ∧ ∀ n ∈ zs, (Lit.int k n).wf = true

set_option maxRecDepth 100000 in
set_option maxHeartbeats 8000000 in
theorem walk (a0 : Option Addr) (len0 cap0 : Nat) (z0 : List Int) (w : World) (w0 : IsRow .u8 w a0 len0 cap0 z0) :
    Calls Try.prog 4 #[.slice a0 len0 cap0] w fun e w' => e = .returned (.bool true) ∧ Below w.heap.size w w' := by
  have hs : Src w w.heap.size a0 len0 := src_of w0
  have hm := hs.1
  by_cases hbig : (4096 : Int) < (len0 : Int)
  · have hd : decide ((4096 : Int) < (len0 : Int)) = true := by simpa using hbig
    go_enter Try.func4, Try.ntmps4
    go_wp2_with (go_at_call 8; refine (big_any _ _ _ _ hm).mono ?_; rintro e w' ⟨rfl, rfl⟩)
    go_ret
    exact ⟨rfl, Below.refl _ _⟩
  have hd : decide ((4096 : Int) < (len0 : Int)) = false := by simpa using hbig
  have y0 : w.heap.size ≤ w.heap.size := Nat.le_refl _
  clear w0
  go_enter Try.func4, Try.ntmps4
  go_wp2_with fail
  refine (big_any _ _ _ _ hm).mono ?_
  rintro e w' ⟨rfl, rfl⟩
  go_wp2_with fail
  refine (drawShowReply_any _ _ _ _ hs).mono ?_
  rintro e w1 ⟨k, va, rfl, fk, fva, d⟩
  replace hs := hs.below d
  replace y0 := d.size
  clear fk fva
  have hz := showRep_size k va
  have HE : Hid (showRep k va = if repOk k va = true then repShow k va else ByteArray.empty) := rfl
  have HRS : Hid (repOk k va = true → readRep (repShow k va) = ((k, va), true)) := fun h => read_show_rep _ _ h
  have HEM : Hid (repOk k va = true → (repShow k va).size = 3) := fun h => repShow_size k va h
  obtain ⟨st, hst⟩ : ∃ x, showRep k va = x := ⟨_, rfl⟩
  have HST : Hid (showRep k va = st) := hst
  obtain ⟨okv, hok⟩ : ∃ x, repOk k va = x := ⟨_, rfl⟩
  have HOK : Hid (repOk k va = okv) := hok
  rw [hst] at hz HE
  rw [hok] at HE HRS HEM
  clear hst hok
  have b : Below w1.heap.size w1 (w1.alloc (.cells #[.int .i64 k, .int .i64 va] 42)) := bw_alloc (Below.refl _ _)
  have kO := heap_alloc_new w1 (.cells #[.int .i64 k, .int .i64 va] 42)
  have sO : w1.heap.size < (w1.alloc (.cells #[.int .i64 k, .int .i64 va] 42)).heap.size := by simp
  replace d := bw_call d b
  replace hs := hs.below (b.mono y0)
  replace y0 := Nat.le_trans y0 b.size
  clear b
  have pO0 := at_cell kO 0
  have pO1 := at_cell kO 1
  go_wp2_with fail
  generalize w1.alloc (.cells #[.int .i64 k, .int .i64 va] 42) = W1 at *
  generalize w1.heap.size = nO at *
  clear pO0 pO1
  refine (implShowReply_any k va _).mono ?_
  rw [HST.out]
  rintro e w2 ⟨rfl, b⟩
  replace d := bw_call d b
  replace hs := hs.below (b.mono y0)
  replace y0 := Nat.le_trans y0 b.size
  replace kO := (b.block _ sO).trans kO
  replace sO := Nat.lt_of_lt_of_le sO b.size
  clear b
  go_wp2_with fail
  refine (drawReadReply_any _ _ _ _ (hs.mono y0)).mono ?_
  rintro e w3 ⟨t, rfl, ht18, b⟩
  replace d := bw_call d b
  replace hs := hs.below (b.mono y0)
  replace y0 := Nat.le_trans y0 b.size
  replace kO := (b.block _ sO).trans kO
  replace sO := Nat.lt_of_lt_of_le sO b.size
  clear b
  clear hs y0
  have ht : t.size ≤ 1099511627776 := by omega
  have hst2 : st.size ≤ 1099511627776 := by omega
  obtain ⟨⟨⟨rk, rv⟩, is⟩, hrd⟩ : ∃ x, readRep t = x := ⟨_, rfl⟩
  have HRD : Hid (readRep t = ((rk, rv), is)) := hrd
  have HZ : Hid (is = false → rk = 0 ∧ rv = 0) := fun h => by
    rw [h] at hrd
    exact read_rep_no t _ _ hrd
  have HY : Hid (is = true → showRep rk rv = t ∧ repOk rk rv = true) := fun h => by
    rw [h] at hrd
    have h2 := show_read_rep t _ _ hrd
    exact ⟨by rw [showRep, if_pos h2.2]; exact h2.1, h2.2⟩
  clear hrd
  go_wp2_with fail
  refine (implReadReply_any t _ ht).mono ?_
  rw [HRD.out]
  simp only
  rintro e w4 ⟨rfl, b⟩
  replace d := bw_call d b
  replace kO := (b.block _ sO).trans kO
  replace sO := Nat.lt_of_lt_of_le sO b.size
  clear b
  have b : Below w4.heap.size w4 (w4.alloc (.cells #[.int .i64 rk, .int .i64 rv] 42)) := bw_alloc (Below.refl _ _)
  have kX := heap_alloc_new w4 (.cells #[.int .i64 rk, .int .i64 rv] 42)
  have sX : w4.heap.size < (w4.alloc (.cells #[.int .i64 rk, .int .i64 rv] 42)).heap.size := by simp
  replace d := bw_call d b
  replace kO := (b.block _ sO).trans kO
  replace sO := Nat.lt_of_lt_of_le sO b.size
  clear b
  go_wp2_with fail
  generalize w4.alloc (.cells #[.int .i64 rk, .int .i64 rv] 42) = W4 at *
  generalize w4.heap.size = nX at *
  refine (specReadReply_any t _ ht).mono ?_
  rw [HRD.out]
  simp only
  rintro e w5 ⟨rfl, b⟩
  replace d := bw_call d b
  replace kO := (b.block _ sO).trans kO
  replace sO := Nat.lt_of_lt_of_le sO b.size
  replace kX := (b.block _ sX).trans kX
  replace sX := Nat.lt_of_lt_of_le sX b.size
  clear b
  have b : Below w5.heap.size w5 (w5.alloc (.cells #[.int .i64 rk, .int .i64 rv] 42)) := bw_alloc (Below.refl _ _)
  have kY := heap_alloc_new w5 (.cells #[.int .i64 rk, .int .i64 rv] 42)
  have sY : w5.heap.size < (w5.alloc (.cells #[.int .i64 rk, .int .i64 rv] 42)).heap.size := by simp
  replace d := bw_call d b
  replace kO := (b.block _ sO).trans kO
  replace sO := Nat.lt_of_lt_of_le sO b.size
  replace kX := (b.block _ sX).trans kX
  replace sX := Nat.lt_of_lt_of_le sX b.size
  clear b
  go_upto_region 8 with fail
  generalize w5.alloc (.cells #[.int .i64 rk, .int .i64 rv] 42) = W5 at *
  generalize w5.heap.size = nY at *
  have hne := BelowOf.any W5
  have his : (is != is) = false := by cases is <;> rfl
  have hokk : (okv != okv) = false := by cases okv <;> rfl
  have hstt : (st.toList == st.toList) = true := by simp
  have H14 : ∀ q : BelowOf W5, Calls Try.prog 20 #[.agg #[.int .i64 k, .int .i64 va]] q.w' fun e w' => e = .returned (.string st) ∧ Below q.w'.heap.size q.w' w' := fun q => by have h := specShowReply_any k va q.w'; rwa [HST.out] at h
  have H15 : ∀ q : BelowOf W5, Calls Try.prog 21 #[.agg #[.int .i64 k, .int .i64 va]] q.w' fun e w' => e = .returned (.bool okv) ∧ Below q.w'.heap.size q.w' w' := fun q => by have h := implReplyOk_any k va q.w'; rwa [HOK.out] at h
  have H16 : ∀ q : BelowOf W5, Calls Try.prog 22 #[.agg #[.int .i64 k, .int .i64 va]] q.w' fun e w' => e = .returned (.bool okv) ∧ Below q.w'.heap.size q.w' w' := fun q => by have h := specReplyOk_any k va q.w'; rwa [HOK.out] at h
  have cO0 := BelowOf.cell (v := .int .i64 k) (at_cell kO 0) sO
  have cO1 := BelowOf.cell (v := .int .i64 va) (at_cell kO 1) sO
  have cX0 := BelowOf.cell (v := .int .i64 rk) (at_cell kX 0) sX
  have cX1 := BelowOf.cell (v := .int .i64 rv) (at_cell kX 1) sX
  have cY0 := BelowOf.cell (v := .int .i64 rk) (at_cell kY 0) sY
  have cY1 := BelowOf.cell (v := .int .i64 rv) (at_cell kY 1) sY
  refine wp_region_of (by kernel_rfl) (by kernel_rfl) ?_
  repeat (go_big_quiet_step ((first | (go_at_call 20; exact calls_of (H14 _)) | (go_at_call 21; exact calls_of (H15 _)) | (go_at_call 22; exact calls_of (H16 _)) | rfl)))
  refine wpQuiet_nil ?_
  intro w6 hw5
  obtain ⟨⟨wx, cx⟩, hwx⟩ := hw5
  have b : Below W5.heap.size W5 w6 := by rw [hwx]; exact cx
  clear hwx cx wx hne H14 H15 H16 cO0 cO1 cX0 cX1 cY0 cY1
  replace d := bw_call d b
  replace kO := (b.block _ sO).trans kO
  replace sO := Nat.lt_of_lt_of_le sO b.size
  replace kX := (b.block _ sX).trans kX
  replace sX := Nat.lt_of_lt_of_le sX b.size
  replace kY := (b.block _ sY).trans kY
  replace sY := Nat.lt_of_lt_of_le sY b.size
  clear b
  clear kY sY
  clear his hokk hstt
  go_upto_region 10 with fail
  go_cut [66] (fun v wx => v = .bool false ∧ Below w6.heap.size w6 wx)
  case first =>
    have pX0 := at_cell kX 0
    have pX1 := at_cell kX 1
    cases is
    · have hz0 := HZ.out rfl
      obtain ⟨rfl, rfl⟩ := hz0
      go_wp2_with fail
      go_meet
      exact ⟨by first | rfl | trivial, Below.refl _ _⟩
    · have hy := HY.out rfl
      have HYS : Hid _ := hy.1
      clear hy
      go_wp2_with fail
      refine (implShowReply_any rk rv _).mono ?_
      rw [HYS.out]
      rintro e w7 ⟨rfl, b7⟩
      have htt : (t.toList == t.toList) = true := by simp
      go_wp2_with fail
      go_meet
      exact ⟨by first | rfl | trivial, b7⟩
  case rest =>
    obtain ⟨rfl, b⟩ := hcut
    replace d := bw_call d b
    replace kO := (b.block _ sO).trans kO
    replace sO := Nat.lt_of_lt_of_le sO b.size
    replace kX := (b.block _ sX).trans kX
    replace sX := Nat.lt_of_lt_of_le sX b.size
    clear b
    clear kX sX
    clear HZ HY HRD
    cases okv
    · -- not right: nothing is shown
      have hst0 : st = ByteArray.empty := by rw [HE.out]; rfl
      subst hst0
      have hemp : ByteArray.empty.toList = [] := by rw [ByteArray.toList_eq]; rfl
      have pO0 := at_cell kO 0
      have pO1 := at_cell kO 1
      go_wp2_with fail
      refine (implReplyOk_any k va _).mono ?_
      rw [HOK.out]
      rintro e w8 ⟨rfl, b⟩
      clear pO0 pO1
      replace d := bw_call d b
      replace kO := (b.block _ sO).trans kO
      replace sO := Nat.lt_of_lt_of_le sO b.size
      clear b
      go_wp2_with fail
      go_ret
      exact ⟨rfl, d⟩
    · have hrs := HRS.out rfl
      have hst1 : st = repShow k va := by rw [HE.out]; rfl
      have hne : st.size = 3 := by rw [hst1]; exact HEM.out rfl
      rw [← hst1] at hrs
      have HRR : Hid _ := hrs
      have HN3 : Hid (st.size = 3) := hne
      have hemp : ¬ st.toList = [] := fun h => by have := (text_none2 st).1 h; omega
      have hemp2 : st.toList.isEmpty = false := by rw [Bool.eq_false_iff]; exact fun h => hemp (List.isEmpty_iff.1 h)
      clear hrs hst1 hne
      go_wp2_with fail
      refine (implReadReply_any st _ hst2).mono ?_
      rw [HRR.out]
      simp only
      rintro e w8 ⟨rfl, b⟩
      replace d := bw_call d b
      replace kO := (b.block _ sO).trans kO
      replace sO := Nat.lt_of_lt_of_le sO b.size
      clear b
      have b : Below w8.heap.size w8 (w8.alloc (.cells #[.int .i64 k, .int .i64 va] 42)) := bw_alloc (Below.refl _ _)
      have kZ := heap_alloc_new w8 (.cells #[.int .i64 k, .int .i64 va] 42)
      have sZ : w8.heap.size < (w8.alloc (.cells #[.int .i64 k, .int .i64 va] 42)).heap.size := by simp
      replace d := bw_call d b
      replace kO := (b.block _ sO).trans kO
      replace sO := Nat.lt_of_lt_of_le sO b.size
      clear b
      have pZ0 := at_cell kZ 0
      have pZ1 := at_cell kZ 1
      have pO0 := at_cell kO 0
      have pO1 := at_cell kO 1
      have h3i : ((st.size : Nat) : Int) = 3 := by have := HN3.out; omega
      go_wp2_with fail
      go_ret
      exact ⟨rfl, d⟩

set_option maxRecDepth 100000 in
theorem lifted (os : Os) (started : os.Started) (H : Type) (enc : TypeId × Value → H) :
    ReturnsInHanded {} Try.checked os 4 .any (Rows.fnRepliesSpec.pre6 enc Try.prog Try.f4 Rows.fnRepliesRow.domain false) (Rows.fnRepliesSpec.post enc Try.prog Try.f4 false true false false) := by
  refine returnsInHanded_of_change (C := Try.checked) own started (by kernel_rfl) Try.func4
    (ChangeSpec.witness6 (enc := enc) (C := Try.checked) false ⟨#[], #[.slice none 0 0], []⟩ 8 (by kernel_rfl) (by kernel_rfl) (by kernel_rfl) (by kernel_rfl)) ?_
  intro W base args ds gs before hval0 hW hcnd _
  have hval : ∀ (j : Nat) t v, Try.f4.params[j]? = some t → args[j]? = some v → Value.okWide Try.prog W .any base t v := hval0
  have hW' := hW
  obtain ⟨p, q, hA0, hV, rfl, hfz, hnd⟩ := hW
  have hA : DataW.TrodAll enc Try.prog W 0 (fun _ => true) true Try.f4.params.toList args.toList ds p := hA0
  rw [Try.params4] at hA hval
  obtain ⟨v0, vs0, d0, ds0, p0, q0, hargs, rfl, rfl, h0, r0⟩ := trodAll_cons hA
  obtain ⟨rfl, rfl, rfl⟩ := trodAll_nil r0
  obtain rfl : args = #[v0] := by cases args; simp_all
  obtain ⟨rfl, rfl⟩ := trodVars_none hV
  obtain ⟨a0, len0, cap0, rfl⟩ := okWide_slice Try.underlying22 (hval 0 22 v0 rfl rfl)
  have k0 := h0
  have lt0 : ∀ x ∈ p0, x.block < W.heap.size := by obtain ⟨m, hm⟩ := k0; exact DataW.trod_lt m _ _ _ hm
  obtain ⟨z0, w0⟩ : ∃ zs, IsRow .u8 W a0 len0 cap0 zs := by
    obtain ⟨fuel, hf⟩ := h0
    rcases open_ints Try.underlying22 Try.underlying5 (by kernel_rfl) hf with ⟨hcs, _⟩ | ⟨x, l, c, zs, hcs, _, hl, hm, hz, _, hcell, hwz⟩
    · simp [Value.cells] at hcs
      obtain ⟨rfl, rfl, rfl⟩ := hcs
      exact ⟨[], .inl ⟨rfl, rfl, rfl, rfl⟩⟩
    · simp [Value.cells] at hcs
      obtain ⟨rfl, rfl, rfl⟩ := hcs
      exact ⟨zs, .inr ⟨_, rfl, hl, hm, by simpa using hz, hcell, hwz⟩⟩
  clear hA0 hval0
  refine (walk a0 len0 cap0 z0 W w0).mono fun e W' ⟨he, bel⟩ => ?_
  subst he
  exact ⟨_, rfl, _, _, _, [], _, [], hW', trodAll_mk1 (shut_bool Try.underlying4 _), (trodAll_cons_mk (Below.trod laidOut (by kernel_rfl) (of_decide_eq_true (by kernel_rfl)) k0 bel lt0) trodAll_mk0), rfl, bel.frame _, fun h => by cases h⟩

theorem over : Rows.fnRepliesRow.holds Try.pinned (OpenSpec.ofChange Rows.fnRepliesSpec) :=
  OpenClaim.holds_of_wide 4 Try.f4 rfl rfl rfl rfl rfl rfl rfl ⟨rfl, rfl, rfl, rfl, rfl⟩ rfl rfl rfl rfl rfl (by kernel_rfl) Try.func4 (by kernel_rfl)
    (of_decide_eq_true (by kernel_rfl)) (by unfold Func.isWrapper; first | (rw [if_pos (by decide +kernel)]; kernel_rfl) | (rw [if_neg (by decide +kernel)]; exact ⟨rfl, rfl⟩))
    (fun os started H enc _ => lifted os started H enc)

theorem proved : Rows.FnRepliesSaid := over
#print axioms proved
end Go.Proofs.Ytdkciaeibkhbgaa.fnReplies
