/-
  The law FnOneWay answers true at every input that the row speaks of, and its arguments read afterwards as before; the walk goes over the callees' contracts.
-/
import Derived.Test.YtombgdjklajanabRows
import Derived.WalkKit
import Derived.Test.YtombgdjklajanabMapM2
import Derived.Test.YtombgdjklajanabDrawMap2
import Derived.Test.YtombgdjklajanabImMap7
import Derived.Test.YtombgdjklajanabDrawNum
import Derived.Test.YtombgdjklajanabInts
import Derived.ProofKit
import Derived.OpenShut
import Derived.ShutString
import Derived.ChangeOld
import Derived.Below
namespace Go.Proofs.Ytombgdjklajanab.fnOneWay
open Go.ChangeShapes Go.WideShapes Go.ChangeAt Go.RowKit
open Go.ChangeMaps (open_string shut_string)
set_option linter.unusedVariables false

theorem own : ownKnob Try.prog.godebug = none := by kernel_rfl
theorem laidOut : laidOutB Try.prog = true := by kernel_rfl

def IsRow (k : IntKind) (w : World) (a : Option Addr) (len cap : Nat) (zs : List Int) : Prop :=
  (a = none ∧ len = 0 ∧ cap = 0 ∧ zs = []) ∨
  ∃ x, a = some x ∧ len ≤ cap ∧ cap ≤ maxLen ∧ zs.length = cap ∧ (∀ i, i < zs.length → w.cell? (x.add i) = some (.int k (zs.getD i 0))) ∧ ∀ n ∈ zs, (Lit.int k n).wf = true

set_option maxRecDepth 100000 in
set_option maxHeartbeats 8000000 in
theorem walk (a0 : Option Addr) (len0 cap0 : Nat) (z0 : List Int) (w : World) (w0 : IsRow .u8 w a0 len0 cap0 z0) :
    Calls Try.prog 5 #[.slice a0 len0 cap0] w fun e w' => e = .returned (.bool true) ∧ Below w.heap.size w w' := by
  have hs : Src w w.heap.size a0 len0 := src_of w0
  have hm := hs.1
  by_cases hbig : (4096 : Int) < (len0 : Int)
  · have hd : decide ((4096 : Int) < (len0 : Int)) = true := by simpa using hbig
    go_enter Try.func5, Try.ntmps5
    go_wp2_with (go_at_call 6; refine (big_any _ _ _ _ hm).mono ?_; rintro e w' ⟨rfl, rfl⟩)
    go_ret
    exact ⟨rfl, Below.refl _ _⟩
  have hd : decide ((4096 : Int) < (len0 : Int)) = false := by simpa using hbig
  clear w0
  go_enter Try.func5, Try.ntmps5
  go_wp2_with fail
  refine (big_any _ _ _ _ hm).mono ?_
  rintro e w' ⟨rfl, rfl⟩
  go_wp2_with fail
  refine (drawPageOf_any _ _ _ _ hs).mono ?_
  rintro e w1 ⟨g, cp, rs, pl, rfl, om, hf, hl17, hpl, d⟩
  have HF : Hid (FitRuns rs) := hf
  clear hf hs
  go_wp2_with fail
  obtain ⟨pv, hpv⟩ : ∃ v, pageOf rs pl = v := ⟨_, rfl⟩
  have HPV : Hid (pageOf rs pl = pv) := hpv
  clear hpv
  refine (implPageOf_any _ rs pl _ HF.out (ReadsR.of_own runC_len om)).mono ?_
  rw [HPV.out]
  rintro e w2 ⟨rfl, b⟩
  replace d := bw_call d b
  replace om := owns_below om b
  clear b
  go_wp2_with fail
  obtain ⟨ls, hls⟩ : ∃ v, pagesOf rs = v := ⟨_, rfl⟩
  have HLS : Hid (pagesOf rs = ls) := hls
  clear hls
  refine (implPagesOf_any _ rs _ HF.out (ReadsR.of_own runC_len om)).mono ?_
  rw [HLS.out]
  rintro e w3 ⟨lv, rfl, ol, hnl0, b⟩
  replace d := bw_call d b
  replace om := owns_below om b
  clear b
  obtain ⟨lg, lc, rfl⟩ : ∃ g c, lv = .slice (some ⟨g, 0, none⟩) ls.length c := by
    rcases ol.2 with ⟨e, _⟩ | ⟨g', cp', _, e, _⟩
    · exact absurd e hnl0
    · exact ⟨g', cp', e⟩
  clear hnl0
  go_wp2_with fail
  refine (specPageOf_any _ rs pl _ (ReadsR.of_own runC_len om)).mono ?_
  rw [HPV.out]
  rintro e w4 ⟨rfl, b⟩
  replace d := bw_call d b
  replace om := owns_below om b
  replace ol := owns_below ol b
  clear b
  have hpp : (pv != pv) = false := by simp
  go_wp2_with fail
  refine (specPagesOf_any _ rs _ (ReadsR.of_own runC_len om)).mono ?_
  rw [HLS.out]
  rintro e w5 ⟨sv, rfl, os, -, b⟩
  replace d := bw_call d b
  replace om := owns_below om b
  replace ol := owns_below ol b
  clear b
  go_wp2_with fail
  refine (likeInts_any _ _ ls ls _ (Reads.of_own ol) (Reads.of_own os)).mono ?_
  rintro e w6 ⟨rfl, b⟩
  replace d := bw_call d b
  replace om := owns_below om b
  replace ol := owns_below ol b
  clear b
  clear os
  simp only [decide_true]
  go_wp2_with fail
  refine (specMapOk_any _ rs _ (ReadsR.of_own runC_len om)).mono ?_
  rintro e wk ⟨rfl, b⟩
  replace d := bw_call d b
  replace om := owns_below om b
  replace ol := owns_below ol b
  clear b
  cases hok : mapOk rs
  · have h1 : pv = -1 := by have := HPV.out; rw [pageOf, if_neg (fun q => by rw [hok] at q; cases q.1)] at this; exact this.symm
    have h2 : ls = [] := by have := HLS.out; rw [pagesOf, if_neg (fun q => by rw [hok] at q; cases q)] at this; exact this.symm
    subst h1 h2
    clear HPV HLS
    go_wp2_with fail
    go_ret
    exact ⟨rfl, d⟩
  have HOK : Hid (mapOk rs = true) := hok
  have HLN : Hid (ls.length ≤ 16) := by
    rw [Hid, ← HLS.out, ← had_end rs hok]
    exact had_le rs 16
  clear hok
  have ou : ((wk.alloc (.cells #[] 66)).alloc (.cells #[] 66)).ownsRow wk.heap.size 66 3 (.slice (some ⟨wk.heap.size, 0, none⟩) 0 0) (mapOf (cutAt (pages rs) ((0 : Nat) : Int))).length ((mapOf (cutAt (pages rs) ((0 : Nat) : Int))).flatMap runC) := by rw [up_start]; exact (own_none wk).alloc _
  have od : ((wk.alloc (.cells #[] 66)).alloc (.cells #[] 66)).ownsRow wk.heap.size 66 3 (.slice (some ⟨(wk.alloc (.cells #[] 66)).heap.size, 0, none⟩) 0 0) (mapOf (cutMid (pages rs) 0 (16 - 0))).length ((mapOf (cutMid (pages rs) 0 (16 - 0))).flatMap runC) := by
    rw [show 16 - 0 = 16 from rfl, down_start]
    exact owns_mono (own_none _) (by simp)
  rw [show (wk.alloc (.cells #[] 66)).heap.size = wk.heap.size + 1 by simp] at od
  have b : Below wk.heap.size wk ((wk.alloc (.cells #[] 66)).alloc (.cells #[] 66)) := bw_alloc (bw_alloc (Below.refl _ _))
  have yk : wk.heap.size ≤ wk.heap.size := Nat.le_refl _
  replace d := bw_call d b
  replace om := owns_below om b
  replace ol := owns_below ol b
  replace yk := Nat.le_trans yk b.size
  clear b
  go_wp2_with fail
  generalize (wk.alloc (.cells #[] 66)).alloc (.cells #[] 66) = WL at *
  have HU : Hid _ := ou
  have HD : Hid _ := od
  clear ou od
  generalize wk.heap.size = nK at *
  go_loopw [7, 8, 9, 10] (fun u dn nn i wr => ∃ k : Nat, k ≤ 16 ∧ i = .int .i64 k ∧ nn = .int .i64 (hadBefore rs k) ∧ wr.ownsRow nK 66 3 u (mapOf (cutAt (pages rs) (k : Int))).length ((mapOf (cutAt (pages rs) (k : Int))).flatMap runC) ∧ wr.ownsRow nK 66 3 dn (mapOf (cutMid (pages rs) 0 (16 - k))).length ((mapOf (cutMid (pages rs) 0 (16 - k))).flatMap runC) ∧ Below WL.heap.size WL wr) (fun _ _ _ i _ => 16 - (intOf i).toNat)
  case atStart => exact ⟨0, Nat.zero_le _, rfl, by rw [had_start]; rfl, HU.out, HD.out, Below.refl _ _⟩
  case round =>
    clear HU HD
    obtain ⟨k, hk, rfl, rfl, ou, od, bb⟩ := hrel
    have b := bb
    replace d := bw_call d b
    replace om := owns_below om b
    replace ol := owns_below ol b
    replace yk := Nat.le_trans yk b.size
    clear b
    by_cases hlt : k < 16
    · have hki : (k : Int) < 16 := by omega
      obtain ⟨s, hs⟩ : ∃ s : Nat, s + k = 15 := ⟨15 - k, by omega⟩
      have HUS : Hid _ := up_step rs HOK.out k hlt
      have HDS : Hid _ := down_step rs HOK.out s (by omega)
      have HHS : Hid _ := had_step rs HOK.out k hlt
      have HUF : Hid _ := up_fit rs HOK.out k
      have HDF : Hid _ := down_fit rs HOK.out (s + 1)
      have e16 : 16 - k = s + 1 := by omega
      have e15 : 16 - (k + 1) = s := by omega
      rw [e16] at od
      have hw1 : IntKind.i64.wrap (15 - (k : Int)) = (s : Int) := by rw [IntKind.wrap_i64]; omega
      have hw2 : (15 : Int) - (k : Int) = (s : Int) := by omega
      have hw3 : IntKind.i64.wrap (s : Int) = (s : Int) := by rw [IntKind.wrap_i64]; omega
      obtain ⟨q, hq⟩ : ∃ q, pageOf rs (k : Int) = q := ⟨_, rfl⟩
      obtain ⟨q2, hq2⟩ : ∃ q, pageOf rs (s : Int) = q := ⟨_, rfl⟩
      rw [hq] at HUS HHS
      rw [hq2] at HDS
      have HQ : Hid (pageOf rs (k : Int) = q) := hq
      have HQ2 : Hid (pageOf rs (s : Int) = q2) := hq2
      have E15 : Hid (16 - (k + 1) = s) := e15
      clear hq hq2 e16 e15 hs
      go_wp2_with fail
      refine (specPageOf_any _ rs k _ (ReadsR.of_own runC_len om)).mono ?_
      rw [HQ.out]
      rintro e wa ⟨rfl, b⟩
      replace d := bw_call d b
      replace om := owns_below om b
      replace ol := owns_below ol b
      replace yk := Nat.le_trans yk b.size
      replace bb := bw_call bb b
      replace ou := owns_below ou b
      replace od := owns_below od b
      clear b
      go_wp2_with fail
      refine (implMapped_any _ (mapOf (cutAt (pages rs) (k : Int))) k q _ HUF.out (ReadsR.of_own runC_len ou)).mono ?_
      rw [HUS.out]
      simp only
      rintro e wb ⟨vu, rfl, ov, -, b⟩
      have yv := yk
      clear ou
      replace d := bw_call d b
      replace om := owns_below om b
      replace ol := owns_below ol b
      replace yk := Nat.le_trans yk b.size
      replace bb := bw_call bb b
      replace od := owns_below od b
      clear b
      replace ov := owns_mono ov yv
      clear yv
      go_wp2_with fail
      refine (specPageOf_any _ rs s _ (ReadsR.of_own runC_len om)).mono ?_
      rw [HQ2.out]
      rintro e wc ⟨rfl, b⟩
      replace d := bw_call d b
      replace om := owns_below om b
      replace ol := owns_below ol b
      replace yk := Nat.le_trans yk b.size
      replace bb := bw_call bb b
      replace od := owns_below od b
      replace ov := owns_below ov b
      clear b
      go_wp2_with fail
      refine (implMapped_any _ (mapOf (cutMid (pages rs) 0 (s + 1))) s q2 _ HDF.out (ReadsR.of_own runC_len od)).mono ?_
      rw [HDS.out]
      simp only
      rintro e wd ⟨vd, rfl, ow, -, b⟩
      have yv := yk
      clear od
      replace d := bw_call d b
      replace om := owns_below om b
      replace ol := owns_below ol b
      replace yk := Nat.le_trans yk b.size
      replace bb := bw_call bb b
      replace ov := owns_below ov b
      clear b
      replace ow := owns_mono ow yv
      clear yv
      go_wp2_with fail
      refine (specPageOf_any _ rs k _ (ReadsR.of_own runC_len om)).mono ?_
      rw [HQ.out]
      rintro e we ⟨rfl, b⟩
      replace d := bw_call d b
      replace om := owns_below om b
      replace ol := owns_below ol b
      replace yk := Nat.le_trans yk b.size
      replace bb := bw_call bb b
      replace ov := owns_below ov b
      replace ow := owns_below ow b
      clear b
      have HO : Hid _ := And.intro ov ow
      by_cases hneg : q < 0
      · have HE : Hid (hadBefore rs (k + 1) = hadBefore rs k) := HHS.out.1 hneg
        have hng : ¬ 0 ≤ q := by omega
        clear HHS ov ow
        go_wp2_with fail
        go_roundw
        case rel => exact ⟨k + 1, by omega, by go_num, by rw [HE.out], HO.out.1, by rw [E15.out]; exact HO.out.2, bb⟩
        case measure => simp [intOf]; omega
      · have hq0 : 0 ≤ q := by omega
        obtain ⟨h1, h2⟩ := HHS.out.2 hq0
        rw [HLS.out] at h2
        have hnl : hadBefore rs k < ls.length := (List.getElem?_eq_some_iff.1 h2).1
        have HE : Hid (hadBefore rs (k + 1) = hadBefore rs k + 1) := h1
        have c0 := ol.cellAt (hadBefore rs k) (by omega)
        rw [List.getElem?_map, h2] at c0
        simp only [Option.map_some] at c0
        have hln := HLN.out
        generalize hadBefore rs k = n at *
        have hn0 : (0 : Int) ≤ (n : Int) := by omega
        have hn1 : (n : Int) < (ls.length : Int) := by omega
        have hn2 : ¬ (ls.length : Int) ≤ (n : Int) := by omega
        have hqq : (q != q) = false := by simp
        clear HHS ov ow h1 h2
        go_wp2_with fail
        go_roundw
        case rel => exact ⟨k + 1, by omega, by go_num, by rw [HE.out]; go_num, HO.out.1, by rw [E15.out]; exact HO.out.2, bb⟩
        case measure => simp [intOf]; omega
    · obtain rfl : k = 16 := by omega
      rw [up_end rs HOK.out] at ou
      rw [show 16 - 16 = 0 from rfl, down_end rs HOK.out] at od
      have HE : Hid (hadBefore rs 16 = ls.length) := by rw [Hid, had_end rs HOK.out, HLS.out]
      rw [HE.out]
      go_wp2_with fail
      refine (likeMap_any _ _ rs rs _ (ReadsR.of_own runC_len ou) (ReadsR.of_own runC_len om)).mono ?_
      rintro e wf ⟨rfl, b⟩
      replace d := bw_call d b
      replace om := owns_below om b
      replace ol := owns_below ol b
      replace yk := Nat.le_trans yk b.size
      replace bb := bw_call bb b
      replace ou := owns_below ou b
      replace od := owns_below od b
      clear b
      simp only [decide_true]
      go_wp2_with fail
      refine (likeMap_any _ _ rs rs _ (ReadsR.of_own runC_len od) (ReadsR.of_own runC_len om)).mono ?_
      rintro e wg ⟨rfl, b⟩
      replace d := bw_call d b
      replace om := owns_below om b
      replace ol := owns_below ol b
      replace yk := Nat.le_trans yk b.size
      replace bb := bw_call bb b
      replace ou := owns_below ou b
      replace od := owns_below od b
      clear b
      simp only [decide_true]
      go_wp2_with fail
      go_ret
      exact ⟨rfl, d⟩

set_option maxRecDepth 100000 in
theorem lifted (os : Os) (started : os.Started) (H : Type) (enc : TypeId × Value → H) :
    ReturnsInHanded {} Try.checked os 5 .any (Rows.fnOneWaySpec.pre6 enc Try.prog Try.f5 Rows.fnOneWayRow.domain false) (Rows.fnOneWaySpec.post enc Try.prog Try.f5 false true false false) := by
  refine returnsInHanded_of_change (C := Try.checked) own started (by kernel_rfl) Try.func5
    (ChangeSpec.witness6 (enc := enc) (C := Try.checked) false ⟨#[], #[.slice none 0 0], []⟩ 8 (by kernel_rfl) (by kernel_rfl) (by kernel_rfl) (by kernel_rfl)) ?_
  intro W base args ds gs before hval0 hW hcnd _
  have hval : ∀ (j : Nat) t v, Try.f5.params[j]? = some t → args[j]? = some v → Value.okWide Try.prog W .any base t v := hval0
  have hW' := hW
  obtain ⟨p, q, hA0, hV, rfl, hfz, hnd⟩ := hW
  have hA : DataW.TrodAll enc Try.prog W 0 (fun _ => true) true Try.f5.params.toList args.toList ds p := hA0
  rw [Try.params5] at hA hval
  obtain ⟨v0, vs0, d0, ds0, p0, q0, hargs, rfl, rfl, h0, r0⟩ := trodAll_cons hA
  obtain ⟨rfl, rfl, rfl⟩ := trodAll_nil r0
  obtain rfl : args = #[v0] := by cases args; simp_all
  obtain ⟨rfl, rfl⟩ := trodVars_none hV
  obtain ⟨a0, len0, cap0, rfl⟩ := okWide_slice Try.underlying22 (hval 0 22 v0 rfl rfl)
  have k0 := h0
  have lt0 : ∀ x ∈ p0, x.block < W.heap.size := by obtain ⟨m, hm⟩ := k0; exact DataW.trod_lt m _ _ _ hm
  obtain ⟨z0, w0⟩ : ∃ zs, IsRow .u8 W a0 len0 cap0 zs := by
    obtain ⟨fuel, hf⟩ := h0
    rcases open_ints Try.underlying22 Try.underlying5 (by kernel_rfl) hf with ⟨hcs, _⟩ | ⟨x, l, c, zs, hcs, _, hl, hm, hz, _, hcell, hwz⟩
    · simp [Value.cells] at hcs
      obtain ⟨rfl, rfl, rfl⟩ := hcs
      exact ⟨[], .inl ⟨rfl, rfl, rfl, rfl⟩⟩
    · simp [Value.cells] at hcs
      obtain ⟨rfl, rfl, rfl⟩ := hcs
      exact ⟨zs, .inr ⟨_, rfl, hl, hm, by simpa using hz, hcell, hwz⟩⟩
  clear hA0 hval0
  refine (walk a0 len0 cap0 z0 W w0).mono fun e W' ⟨he, bel⟩ => ?_
  subst he
  exact ⟨_, rfl, _, _, _, [], _, [], hW', trodAll_mk1 (shut_bool Try.underlying4 _), (trodAll_cons_mk (Below.trod laidOut (by kernel_rfl) (of_decide_eq_true (by kernel_rfl)) k0 bel lt0) trodAll_mk0), rfl, bel.frame _, fun h => by cases h⟩

theorem over : Rows.fnOneWayRow.holds Try.pinned (OpenSpec.ofChange Rows.fnOneWaySpec) :=
  OpenClaim.holds_of_wide 5 Try.f5 rfl rfl rfl rfl rfl rfl rfl ⟨rfl, rfl, rfl, rfl, rfl⟩ rfl rfl rfl rfl rfl (by kernel_rfl) Try.func5 (by kernel_rfl)
    (of_decide_eq_true (by kernel_rfl)) (by unfold Func.isWrapper; first | (rw [if_pos (by decide +kernel)]; kernel_rfl) | (rw [if_neg (by decide +kernel)]; exact ⟨rfl, rfl⟩))
    (fun os started H enc _ => lifted os started H enc)

theorem proved : Rows.FnOneWaySaid := over
#print axioms proved
end Go.Proofs.Ytombgdjklajanab.fnOneWay
