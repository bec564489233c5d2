/-
  The law FnMaps answers true at every input that the row speaks of, and its arguments read afterwards as before; the walk goes over the callees' contracts.
-/
import Derived.Test.YtombgdjklajanabRows
import Derived.WalkKit
import Derived.Test.YtombgdjklajanabMapM2
import Derived.Test.YtombgdjklajanabDrawMap2
import Derived.Test.YtombgdjklajanabImMap7
import Derived.Test.YtombgdjklajanabDrawNum
import Derived.ProofKit
import Derived.OpenShut
import Derived.ShutString
import Derived.ChangeOld
import Derived.Below
namespace Go.Proofs.Ytombgdjklajanab.fnMaps
open Go.ChangeShapes Go.WideShapes Go.ChangeAt Go.RowKit
open Go.ChangeMaps (open_string shut_string)
set_option linter.unusedVariables false

theorem own : ownKnob Try.prog.godebug = none := by kernel_rfl
theorem laidOut : laidOutB Try.prog = true := by kernel_rfl

def IsRow (k : IntKind) (w : World) (a : Option Addr) (len cap : Nat) (zs : List Int) : Prop :=
  (a = none ∧ len = 0 ∧ cap = 0 ∧ zs = []) ∨
  ∃ x, a = some x ∧ len ≤ cap ∧ cap ≤ maxLen ∧ zs.length = cap ∧ (∀ i, i < zs.length → w.cell? (x.add i) = some (.int k (zs.getD i 0))) ∧ ∀ n ∈ zs, (Lit.int k n).wf = true

set_option maxRecDepth 100000 in
set_option maxHeartbeats 8000000 in
theorem walk (a0 : Option Addr) (len0 cap0 : Nat) (z0 : List Int) (w : World) (w0 : IsRow .u8 w a0 len0 cap0 z0) :
    Calls Try.prog 4 #[.slice a0 len0 cap0] w fun e w' => e = .returned (.bool true) ∧ Below w.heap.size w w' := by
  have hs : Src w w.heap.size a0 len0 := src_of w0
  have hm := hs.1
  by_cases hbig : (4096 : Int) < (len0 : Int)
  · have hd : decide ((4096 : Int) < (len0 : Int)) = true := by simpa using hbig
    go_enter Try.func4, Try.ntmps4
    go_wp2_with (go_at_call 6; refine (big_any _ _ _ _ hm).mono ?_; rintro e w' ⟨rfl, rfl⟩)
    go_ret
    exact ⟨rfl, Below.refl _ _⟩
  have hd : decide ((4096 : Int) < (len0 : Int)) = false := by simpa using hbig
  have y0 : w.heap.size ≤ w.heap.size := Nat.le_refl _
  clear w0
  go_enter Try.func4, Try.ntmps4
  go_wp2_with fail
  refine (big_any _ _ _ _ hm).mono ?_
  rintro e w' ⟨rfl, rfl⟩
  go_wp2_with fail
  refine (drawMapped_any _ _ _ _ hs).mono ?_
  rintro e w1 ⟨g, cp, rs, pl, pg, rfl, om, hf, hl17, hpl, hpg, d⟩
  replace hs := hs.below d
  replace y0 := d.size
  have HF : Hid (FitRuns rs) := hf
  have HFX : Hid (FitRuns (mapped rs pl pg).1) := fit_mapped rs pl pg hf
  have HT : Hid ((mapped rs pl pg).2 = true → (∀ k : Nat, k < 16 → pageOf (mapped rs pl pg).1 k = if (k : Int) = pl then pg else pageOf rs k) ∧ mapOk (mapped rs pl pg).1 = true) := fun h => ⟨fun k hk => pageOf_mapped h k hk, mapOk_mapped h⟩
  have HN : Hid ((mapped rs pl pg).2 = false → (mapOk rs = false ∧ (mapped rs pl pg).1 = []) ∨ (mapOk rs = true ∧ (mapped rs pl pg).1 = rs)) := fun h => mapped_false h
  clear hf
  go_wp2_with fail
  obtain ⟨⟨ns, nv⟩, hfd⟩ : ∃ fd, mapped rs pl pg = fd := ⟨_, rfl⟩
  have HFD : Hid (mapped rs pl pg = (ns, nv)) := hfd
  rw [hfd] at HFX HT HN
  simp only at HFX HT HN
  refine (implMapped_any _ rs pl pg _ HF.out (ReadsR.of_own runC_len om)).mono ?_
  rw [hfd]
  clear hfd
  simp only
  rintro e w2 ⟨x, rfl, ox, hxn, b⟩
  replace d := bw_call d b
  replace hs := hs.below (b.mono y0)
  replace y0 := Nat.le_trans y0 b.size
  replace om := owns_below om b
  clear b
  obtain ⟨xo, xc, rfl⟩ := own_slice ox
  go_wp2_with fail
  refine (drawBelow_any _ _ _ _ (hs.mono y0)).mono ?_
  rintro e w3 ⟨ga, cpa, rsa, sz, rfl, oa, hfa, hla, hsz, b⟩
  replace d := bw_call d b
  replace hs := hs.below (b.mono y0)
  replace y0 := Nat.le_trans y0 b.size
  replace om := owns_below om b
  replace ox := owns_below ox b
  clear b
  clear hs y0
  have HFA : Hid (FitRuns rsa) := hfa
  have HFB : Hid (FitRuns (belowM rsa sz)) := fit_below rsa sz
  have HPB : Hid (mapOk rsa = true → ∀ k : Nat, k < 16 → pageOf (belowM rsa sz) k = if sz ≤ (k : Int) then -1 else pageOf rsa k) := fun h k hk => pageOf_below rsa sz h k hk
  clear hfa
  go_wp2_with fail
  obtain ⟨bs, hbs⟩ : ∃ fd, belowM rsa sz = fd := ⟨_, rfl⟩
  have HBS : Hid (belowM rsa sz = bs) := hbs
  rw [hbs] at HFB HPB
  refine (implBelow_any _ rsa sz _ ⟨by omega, by omega⟩ HFA.out (ReadsR.of_own runC_len oa)).mono ?_
  rw [hbs]
  clear hbs
  rintro e w4 ⟨bv, rfl, ob, hbn, b⟩
  replace d := bw_call d b
  replace om := owns_below om b
  replace ox := owns_below ox b
  replace oa := owns_below oa b
  clear b
  go_wp2_with fail
  refine (specMapped_any _ rs pl pg _ (ReadsR.of_own runC_len om)).mono ?_
  rw [HFD.out]
  simp only
  rintro e w5 ⟨y, rfl, oy, -, b⟩
  replace d := bw_call d b
  replace om := owns_below om b
  replace ox := owns_below ox b
  replace oa := owns_below oa b
  replace ob := owns_below ob b
  clear b
  have hnv : (nv != nv) = false := by cases nv <;> rfl
  go_wp2_with fail
  refine (likeMap_any _ _ ns ns _ (ReadsR.of_own runC_len ox) (ReadsR.of_own runC_len oy)).mono ?_
  rintro e w6 ⟨rfl, b⟩
  replace d := bw_call d b
  replace om := owns_below om b
  replace ox := owns_below ox b
  replace oa := owns_below oa b
  replace ob := owns_below ob b
  replace oy := owns_below oy b
  clear b
  clear oy
  simp only [decide_true]
  go_wp2_with fail
  refine (specBelow_any _ rsa sz _ ⟨by omega, by omega⟩ (ReadsR.of_own runC_len oa)).mono ?_
  rw [HBS.out]
  rintro e w7 ⟨z, rfl, oz, -, b⟩
  replace d := bw_call d b
  replace om := owns_below om b
  replace ox := owns_below ox b
  replace oa := owns_below oa b
  replace ob := owns_below ob b
  clear b
  go_wp2_with fail
  refine (likeMap_any _ _ bs bs _ (ReadsR.of_own runC_len ob) (ReadsR.of_own runC_len oz)).mono ?_
  rintro e w8 ⟨rfl, b⟩
  replace d := bw_call d b
  replace om := owns_below om b
  replace ox := owns_below ox b
  replace oa := owns_below oa b
  replace ob := owns_below ob b
  clear b
  clear oz
  simp only [decide_true]
  go_wp2_with fail
  obtain ⟨mv, hmv⟩ : ∃ v, mapOk rs = v := ⟨_, rfl⟩
  have HMV : Hid (mapOk rs = mv) := hmv
  refine (implMapOk_any _ rs _ HF.out (ReadsR.of_own runC_len om)).mono ?_
  rw [hmv] at HN ⊢
  clear hmv
  rintro e w9 ⟨rfl, b⟩
  replace d := bw_call d b
  replace om := owns_below om b
  replace ox := owns_below ox b
  replace oa := owns_below oa b
  replace ob := owns_below ob b
  clear b
  go_wp2_with fail
  refine (specMapOk_any _ rs _ (ReadsR.of_own runC_len om)).mono ?_
  rw [HMV.out]
  rintro e wa ⟨rfl, b⟩
  replace d := bw_call d b
  replace om := owns_below om b
  replace ox := owns_below ox b
  replace oa := owns_below oa b
  replace ob := owns_below ob b
  clear b
  have hmm : (mv != mv) = false := by cases mv <;> rfl
  go_wp2_with fail
  obtain ⟨av, hav⟩ : ∃ v, mapOk rsa = v := ⟨_, rfl⟩
  have HAV : Hid (mapOk rsa = av) := hav
  refine (specMapOk_any _ rsa _ (ReadsR.of_own runC_len oa)).mono ?_
  rw [hav]
  clear hav
  rintro e wb ⟨rfl, b⟩
  replace d := bw_call d b
  replace om := owns_below om b
  replace ox := owns_below ox b
  replace oa := owns_below oa b
  replace ob := owns_below ob b
  clear b
  go_upto_if 72 with fail
  go_cut [] (fun wx => Below wb.heap.size wb wx)
  case first =>
    cases av
    · go_wp2_with fail
      go_meet
      exact Below.refl _ _
    · have HPK : Hid _ := HPB.out HAV.out
      go_wp2_with fail
      go_loopw [13] (fun i wr => ∃ k : Nat, k ≤ 16 ∧ i = .int .i64 k ∧ Below wb.heap.size wb wr) (fun i _ => 16 - (intOf i).toNat)
      case atStart => exact ⟨0, Nat.zero_le _, rfl, Below.refl _ _⟩
      case round =>
        obtain ⟨k, hk, rfl, bb⟩ := hrel
        have b := bb
        replace d := bw_call d b
        replace om := owns_below om b
        replace ox := owns_below ox b
        replace oa := owns_below oa b
        replace ob := owns_below ob b
        clear b
        by_cases hlt : k < 16
        · have hki : (k : Int) < 16 := by omega
          have hpk := HPK.out k hlt
          obtain ⟨q, hq⟩ : ∃ q, pageOf rsa (k : Int) = q := ⟨_, rfl⟩
          rw [hq] at hpk
          have HQ : Hid (pageOf rsa (k : Int) = q) := hq
          have HPQ : Hid (pageOf bs (k : Int) = if sz ≤ (k : Int) then -1 else q) := hpk
          clear hq hpk
          go_wp2_with fail
          refine (specPageOf_any _ rsa k _ (ReadsR.of_own runC_len oa)).mono ?_
          rw [HQ.out]
          rintro e wc ⟨rfl, b⟩
          replace bb := bw_call bb b
          replace d := bw_call d b
          replace om := owns_below om b
          replace ox := owns_below ox b
          replace oa := owns_below oa b
          replace ob := owns_below ob b
          clear b
          by_cases hge : sz ≤ (k : Int)
          · have HP : Hid (pageOf bs (k : Int) = -1) := by rw [Hid, HPQ.out, if_pos hge]
            go_wp2_with fail
            refine (implPageOf_any _ bs k _ HFB.out (ReadsR.of_own runC_len ob)).mono ?_
            rw [HP.out]
            rintro e wd ⟨rfl, b⟩
            replace bb := bw_call bb b
            clear b
            go_wp2_with fail
            go_roundw
            case rel => exact ⟨k + 1, by omega, by go_num, bb⟩
            case measure => simp [intOf]; omega
          · have HP : Hid (pageOf bs (k : Int) = q) := by rw [Hid, HPQ.out, if_neg hge]
            have hqq : (q != q) = false := by simp
            go_wp2_with fail
            refine (implPageOf_any _ bs k _ HFB.out (ReadsR.of_own runC_len ob)).mono ?_
            rw [HP.out]
            rintro e wd ⟨rfl, b⟩
            replace bb := bw_call bb b
            clear b
            go_wp2_with fail
            go_roundw
            case rel => exact ⟨k + 1, by omega, by go_num, bb⟩
            case measure => simp [intOf]; omega
        · have hki : ¬ (k : Int) < 16 := by omega
          go_wp2_with fail
          go_meet
          exact bb
  case rest =>
    have b := hcut
    clear hcut
    replace d := bw_call d b
    replace om := owns_below om b
    replace ox := owns_below ox b
    replace oa := owns_below oa b
    replace ob := owns_below ob b
    clear b
    clear oa ob
    clear HPB HFB HFA HBS HAV
    cases nv
    · have hcase := HN.out rfl
      go_wp2_with fail
      refine (specMapOk_any _ rs _ (ReadsR.of_own runC_len om)).mono ?_
      rw [HMV.out]
      rintro e we ⟨rfl, b⟩
      replace d := bw_call d b
      replace om := owns_below om b
      replace ox := owns_below ox b
      clear b
      rcases hcase with ⟨rfl, rfl⟩ | ⟨rfl, rfl⟩
      · go_wp2_with fail
        go_ret
        exact ⟨rfl, d⟩
      · go_wp2_with fail
        refine (likeMap_any _ _ ns ns _ (ReadsR.of_own runC_len ox) (ReadsR.of_own runC_len om)).mono ?_
        rintro e wf ⟨rfl, b⟩
        replace d := bw_call d b
        replace om := owns_below om b
        replace ox := owns_below ox b
        clear b
        simp only [decide_true]
        go_wp2_with fail
        go_ret
        exact ⟨rfl, d⟩
    · obtain ⟨hpk, hokx⟩ := HT.out rfl
      have HPK : Hid _ := hpk
      have HOKX : Hid (mapOk ns = true) := hokx
      clear hpk hokx HT HN
      go_wp2_with fail
      go_loopw [15] (fun i wr => ∃ k : Nat, k ≤ 16 ∧ i = .int .i64 k ∧ Below wc.heap.size wc wr) (fun i _ => 16 - (intOf i).toNat)
      case atStart => exact ⟨0, Nat.zero_le _, rfl, Below.refl _ _⟩
      case round =>
        obtain ⟨k, hk, rfl, bb⟩ := hrel
        have b := bb
        replace d := bw_call d b
        replace om := owns_below om b
        replace ox := owns_below ox b
        clear b
        by_cases hlt : k < 16
        · have hki : (k : Int) < 16 := by omega
          have hpk := HPK.out k hlt
          obtain ⟨q, hq⟩ : ∃ q, pageOf rs (k : Int) = q := ⟨_, rfl⟩
          rw [hq] at hpk
          have HQ : Hid (pageOf rs (k : Int) = q) := hq
          have HPQ : Hid (pageOf ns (k : Int) = if (k : Int) = pl then pg else q) := hpk
          clear hq hpk
          go_wp2_with fail
          refine (specPageOf_any _ rs k _ (ReadsR.of_own runC_len om)).mono ?_
          rw [HQ.out]
          rintro e wg ⟨rfl, b⟩
          replace bb := bw_call bb b
          replace d := bw_call d b
          replace om := owns_below om b
          replace ox := owns_below ox b
          clear b
          by_cases hge : (k : Int) = pl
          · have HP : Hid (pageOf ns (k : Int) = pg) := by rw [Hid, HPQ.out, if_pos hge]
            have hgb : ((k : Int) == pl) = true := by simpa using hge
            have hqq : (pg != pg) = false := by simp
            clear hge HPQ
            go_wp2_with fail
            refine (implPageOf_any _ ns k _ HFX.out (ReadsR.of_own runC_len ox)).mono ?_
            rw [HP.out]
            rintro e wh ⟨rfl, b⟩
            replace bb := bw_call bb b
            clear b
            go_wp2_with fail
            go_roundw
            case rel => exact ⟨k + 1, by omega, by go_num, bb⟩
            case measure => simp [intOf]; omega
          · have HP : Hid (pageOf ns (k : Int) = q) := by rw [Hid, HPQ.out, if_neg hge]
            have hgb : ((k : Int) == pl) = false := by simpa using hge
            have hqq : (q != q) = false := by simp
            clear hge HPQ
            go_wp2_with fail
            refine (implPageOf_any _ ns k _ HFX.out (ReadsR.of_own runC_len ox)).mono ?_
            rw [HP.out]
            rintro e wh ⟨rfl, b⟩
            replace bb := bw_call bb b
            clear b
            go_wp2_with fail
            go_roundw
            case rel => exact ⟨k + 1, by omega, by go_num, bb⟩
            case measure => simp [intOf]; omega
        · have hki : ¬ (k : Int) < 16 := by omega
          go_wp2_with fail
          refine (implMapOk_any _ ns _ HFX.out (ReadsR.of_own runC_len ox)).mono ?_
          rw [HOKX.out]
          rintro e wi ⟨rfl, b⟩
          replace d := bw_call d b
          replace om := owns_below om b
          replace ox := owns_below ox b
          clear b
          go_wp2_with fail
          go_ret
          exact ⟨rfl, d⟩

set_option maxRecDepth 100000 in
theorem lifted (os : Os) (started : os.Started) (H : Type) (enc : TypeId × Value → H) :
    ReturnsInHanded {} Try.checked os 4 .any (Rows.fnMapsSpec.pre6 enc Try.prog Try.f4 Rows.fnMapsRow.domain false) (Rows.fnMapsSpec.post enc Try.prog Try.f4 false true false false) := by
  refine returnsInHanded_of_change (C := Try.checked) own started (by kernel_rfl) Try.func4
    (ChangeSpec.witness6 (enc := enc) (C := Try.checked) false ⟨#[], #[.slice none 0 0], []⟩ 8 (by kernel_rfl) (by kernel_rfl) (by kernel_rfl) (by kernel_rfl)) ?_
  intro W base args ds gs before hval0 hW hcnd _
  have hval : ∀ (j : Nat) t v, Try.f4.params[j]? = some t → args[j]? = some v → Value.okWide Try.prog W .any base t v := hval0
  have hW' := hW
  obtain ⟨p, q, hA0, hV, rfl, hfz, hnd⟩ := hW
  have hA : DataW.TrodAll enc Try.prog W 0 (fun _ => true) true Try.f4.params.toList args.toList ds p := hA0
  rw [Try.params4] at hA hval
  obtain ⟨v0, vs0, d0, ds0, p0, q0, hargs, rfl, rfl, h0, r0⟩ := trodAll_cons hA
  obtain ⟨rfl, rfl, rfl⟩ := trodAll_nil r0
  obtain rfl : args = #[v0] := by cases args; simp_all
  obtain ⟨rfl, rfl⟩ := trodVars_none hV
  obtain ⟨a0, len0, cap0, rfl⟩ := okWide_slice Try.underlying22 (hval 0 22 v0 rfl rfl)
  have k0 := h0
  have lt0 : ∀ x ∈ p0, x.block < W.heap.size := by obtain ⟨m, hm⟩ := k0; exact DataW.trod_lt m _ _ _ hm
  obtain ⟨z0, w0⟩ : ∃ zs, IsRow .u8 W a0 len0 cap0 zs := by
    obtain ⟨fuel, hf⟩ := h0
    rcases open_ints Try.underlying22 Try.underlying5 (by kernel_rfl) hf with ⟨hcs, _⟩ | ⟨x, l, c, zs, hcs, _, hl, hm, hz, _, hcell, hwz⟩
    · simp [Value.cells] at hcs
      obtain ⟨rfl, rfl, rfl⟩ := hcs
      exact ⟨[], .inl ⟨rfl, rfl, rfl, rfl⟩⟩
    · simp [Value.cells] at hcs
      obtain ⟨rfl, rfl, rfl⟩ := hcs
      exact ⟨zs, .inr ⟨_, rfl, hl, hm, by simpa using hz, hcell, hwz⟩⟩
  clear hA0 hval0
  refine (walk a0 len0 cap0 z0 W w0).mono fun e W' ⟨he, bel⟩ => ?_
  subst he
  exact ⟨_, rfl, _, _, _, [], _, [], hW', trodAll_mk1 (shut_bool Try.underlying4 _), (trodAll_cons_mk (Below.trod laidOut (by kernel_rfl) (of_decide_eq_true (by kernel_rfl)) k0 bel lt0) trodAll_mk0), rfl, bel.frame _, fun h => by cases h⟩

theorem over : Rows.fnMapsRow.holds Try.pinned (OpenSpec.ofChange Rows.fnMapsSpec) :=
  OpenClaim.holds_of_wide 4 Try.f4 rfl rfl rfl rfl rfl rfl rfl ⟨rfl, rfl, rfl, rfl, rfl⟩ rfl rfl rfl rfl rfl (by kernel_rfl) Try.func4 (by kernel_rfl)
    (of_decide_eq_true (by kernel_rfl)) (by unfold Func.isWrapper; first | (rw [if_pos (by decide +kernel)]; kernel_rfl) | (rw [if_neg (by decide +kernel)]; exact ⟨rfl, rfl⟩))
    (fun os started H enc _ => lifted os started H enc)

theorem proved : Rows.FnMapsSaid := over
#print axioms proved
end Go.Proofs.Ytombgdjklajanab.fnMaps
