/-
  The law FnNeighbours answers true at every input that the row speaks of, and its arguments read afterwards as before; the walk goes over the callees' contracts.
-/
import Derived.Test.YtijmmenkcemggaaRows
import Derived.WalkKit
import Derived.Test.YtijmmenkcemggaaDrawVw3
import Derived.Test.YtijmmenkcemggaaVwLike
import Derived.Test.YtijmmenkcemggaaNbM
import Derived.Test.YtijmmenkcemggaaImVw2
import Derived.Test.YtijmmenkcemggaaDrawNum
import Derived.ProofKit
import Derived.OpenShut
import Derived.ShutString
import Derived.ChangeOld
import Derived.Below
namespace Go.Proofs.Ytijmmenkcemggaa.fnNeighbours
open Go.ChangeShapes Go.WideShapes Go.ChangeAt Go.RowKit
open Go.ChangeMaps (open_string shut_string)
set_option linter.unusedVariables false

theorem own : ownKnob Try.prog.godebug = none := by kernel_rfl
theorem laidOut : laidOutB Try.prog = true := by kernel_rfl

def IsRow (k : IntKind) (w : World) (a : Option Addr) (len cap : Nat) (zs : List Int) : Prop :=
  (a = none ∧ len = 0 ∧ cap = 0 ∧ zs = []) ∨
  ∃ x, a = some x ∧ len ≤ cap ∧ cap ≤ maxLen ∧ zs.length = cap ∧ (∀ i, i < zs.length → w.cell? (x.add i) = some (.int k (zs.getD i 0))) ∧ ∀ n ∈ zs, (Lit.int k n).wf = true

set_option maxRecDepth 100000 in
set_option maxHeartbeats 8000000 in
theorem walk (a0 : Option Addr) (len0 cap0 : Nat) (z0 : List Int) (w : World) (w0 : IsRow .u8 w a0 len0 cap0 z0) :
    Calls Try.prog 4 #[.slice a0 len0 cap0] w fun e w' => e = .returned (.bool true) ∧ Below w.heap.size w w' := by
  have hs : Src w w.heap.size a0 len0 := src_of w0
  have hm := hs.1
  by_cases hbig : (4096 : Int) < (len0 : Int)
  · have hd : decide ((4096 : Int) < (len0 : Int)) = true := by simpa using hbig
    go_enter Try.func4, Try.ntmps4
    go_wp2_with (go_at_call 12; refine (big_any _ _ _ _ hm).mono ?_; rintro e w' ⟨rfl, rfl⟩)
    go_ret
    exact ⟨rfl, Below.refl _ _⟩
  have hd : decide ((4096 : Int) < (len0 : Int)) = false := by simpa using hbig
  obtain ⟨i0, hi, hz0, hz1, hz2⟩ := info_parts Try.infoI64
  have y0 : w.heap.size ≤ w.heap.size := Nat.le_refl _
  clear w0
  go_enter Try.func4, Try.ntmps4
  go_wp2_with fail
  refine (big_any _ _ _ _ hm).mono ?_
  rintro e w' ⟨rfl, rfl⟩
  go_wp2_with fail
  refine (drawNextOf_any _ _ _ _ hs).mono ?_
  rintro e w1 ⟨np, vp, mp, hp, rfl, ow, sp, hhp, d⟩
  replace hs := hs.below d
  replace y0 := d.size
  have rP := ow.reads
  have yP : w1.heap.size ≤ w1.heap.size := Nat.le_refl _
  obtain ⟨oP, cP, rfl⟩ := ow.forms
  clear ow
  have b : Below w1.heap.size w1 (w1.alloc (.cells #[.int .i64 np, .slice oP mp.length cP] 26)) := bw_alloc (Below.refl _ _)
  have kP := heap_alloc_new w1 (.cells #[.int .i64 np, .slice oP mp.length cP] 26)
  have sP : w1.heap.size < (w1.alloc (.cells #[.int .i64 np, .slice oP mp.length cP] 26)).heap.size := by simp
  replace d := bw_call d b
  replace hs := hs.below (b.mono y0)
  replace y0 := Nat.le_trans y0 b.size
  replace rP := rP.below (b.mono yP)
  replace yP := Nat.le_trans yP b.size
  clear b
  go_wp2_with fail
  generalize w1.alloc (.cells #[.int .i64 np, .slice oP mp.length cP] 26) = WP at *
  generalize w1.heap.size = nP at *
  obtain ⟨N, hN⟩ : ∃ q, nextOf np mp hp = q := ⟨_, rfl⟩
  have HN : Hid (nextOf np mp hp = N) := hN
  refine (implNextOf_any np _ mp hp _ (rP.mono yP).r).mono ?_
  rw [hN]
  clear hN
  rintro e w2 ⟨rfl, b⟩
  replace d := bw_call d b
  replace hs := hs.below (b.mono y0)
  replace y0 := Nat.le_trans y0 b.size
  replace rP := rP.below (b.mono yP)
  replace yP := Nat.le_trans yP b.size
  replace kP := (b.block _ sP).trans kP
  replace sP := Nat.lt_of_lt_of_le sP b.size
  clear b
  have pP0 := at_cell kP 0
  have pP1 := at_cell kP 1
  go_wp2_with fail
  clear pP0 pP1
  obtain ⟨R, hR⟩ : ∃ q, prevOf np mp hp = q := ⟨_, rfl⟩
  have HR : Hid (prevOf np mp hp = R) := hR
  refine (implPrevOf_any np _ mp hp _ (rP.mono yP).r).mono ?_
  rw [hR]
  clear hR
  rintro e w3 ⟨rfl, b⟩
  replace d := bw_call d b
  replace hs := hs.below (b.mono y0)
  replace y0 := Nat.le_trans y0 b.size
  replace rP := rP.below (b.mono yP)
  replace yP := Nat.le_trans yP b.size
  replace kP := (b.block _ sP).trans kP
  replace sP := Nat.lt_of_lt_of_le sP b.size
  clear b
  go_wp2_with fail
  refine (drawHeadOf_any _ _ _ _ (hs.mono y0)).mono ?_
  rintro e w4 ⟨nq, vq, mq, rfl, ow, sq, b⟩
  replace d := bw_call d b
  replace hs := hs.below (b.mono y0)
  replace y0 := Nat.le_trans y0 b.size
  replace rP := rP.below (b.mono yP)
  replace yP := Nat.le_trans yP b.size
  replace kP := (b.block _ sP).trans kP
  replace sP := Nat.lt_of_lt_of_le sP b.size
  clear b
  clear hs y0
  have rQ := ow.reads
  have yQ : w4.heap.size ≤ w4.heap.size := Nat.le_refl _
  obtain ⟨oQ, cQ, rfl⟩ := ow.forms
  clear ow
  have b : Below w4.heap.size w4 (w4.alloc (.cells #[.int .i64 nq, .slice oQ mq.length cQ] 26)) := bw_alloc (Below.refl _ _)
  have kQ := heap_alloc_new w4 (.cells #[.int .i64 nq, .slice oQ mq.length cQ] 26)
  have sQ : w4.heap.size < (w4.alloc (.cells #[.int .i64 nq, .slice oQ mq.length cQ] 26)).heap.size := by simp
  replace d := bw_call d b
  replace rP := rP.below (b.mono yP)
  replace yP := Nat.le_trans yP b.size
  replace kP := (b.block _ sP).trans kP
  replace sP := Nat.lt_of_lt_of_le sP b.size
  replace rQ := rQ.below (b.mono yQ)
  replace yQ := Nat.le_trans yQ b.size
  clear b
  go_upto_region 7 with fail
  generalize w4.alloc (.cells #[.int .i64 nq, .slice oQ mq.length cQ] 26) = WQ at *
  generalize w4.heap.size = nQ at *
  obtain ⟨hd_, hhd⟩ : ∃ q, headOf nq mq = q := ⟨_, rfl⟩
  obtain ⟨tl_, htl⟩ : ∃ q, tailOf nq mq = q := ⟨_, rfl⟩
  have hne := BelowOf.any WQ
  have gP0 := BelowOf.cell (at_cell kP 0) sP
  have gP1 := BelowOf.cell (at_cell kP 1) sP
  have gQ0 := BelowOf.cell (at_cell kQ 0) sQ
  have gQ1 := BelowOf.cell (at_cell kQ 1) sQ
  have HSN : ∀ p : BelowOf WQ, Calls Try.prog 29 #[.agg #[.int .i64 np, (.slice oP mp.length cP)], .int .i64 hp] p.w' fun e w' => e = .returned (.int .i64 N) ∧ Below p.w'.heap.size p.w' w' := fun p => by have h := specNextOf_any np _ mp hp p.w' (rP.of yP p).r; rwa [HN.out] at h
  have HSP : ∀ p : BelowOf WQ, Calls Try.prog 30 #[.agg #[.int .i64 np, (.slice oP mp.length cP)], .int .i64 hp] p.w' fun e w' => e = .returned (.int .i64 R) ∧ Below p.w'.heap.size p.w' w' := fun p => by have h := specPrevOf_any np _ mp hp p.w' (rP.of yP p).r; rwa [HR.out] at h
  have HIH : ∀ p : BelowOf WQ, Calls Try.prog 31 #[.agg #[.int .i64 nq, (.slice oQ mq.length cQ)]] p.w' fun e w' => e = .returned (.int .i64 hd_) ∧ Below p.w'.heap.size p.w' w' := fun p => by have h := implHeadOf_any nq _ mq p.w' (rQ.of yQ p).r; rwa [hhd] at h
  have HSH : ∀ p : BelowOf WQ, Calls Try.prog 32 #[.agg #[.int .i64 nq, (.slice oQ mq.length cQ)]] p.w' fun e w' => e = .returned (.int .i64 hd_) ∧ Below p.w'.heap.size p.w' w' := fun p => by have h := specHeadOf_any nq _ mq p.w' (rQ.of yQ p).r; rwa [hhd] at h
  have HIT : ∀ p : BelowOf WQ, Calls Try.prog 22 #[.agg #[.int .i64 nq, (.slice oQ mq.length cQ)]] p.w' fun e w' => e = .returned (.int .i64 tl_) ∧ Below p.w'.heap.size p.w' w' := fun p => by have h := implTailOf_any nq _ mq p.w' (rQ.of yQ p).r; rwa [htl] at h
  have HST : ∀ p : BelowOf WQ, Calls Try.prog 33 #[.agg #[.int .i64 nq, (.slice oQ mq.length cQ)]] p.w' fun e w' => e = .returned (.int .i64 tl_) ∧ Below p.w'.heap.size p.w' w' := fun p => by have h := specTailOf_any nq _ mq p.w' (rQ.of yQ p).r; rwa [htl] at h
  have q1 : (N != N) = false := by simp
  have q2 : (R != R) = false := by simp
  have q3 : (hd_ != hd_) = false := by simp
  have q4 : (tl_ != tl_) = false := by simp
  clear hhd htl
  refine wp_region_of (by kernel_rfl) (by kernel_rfl) ?_
  repeat (go_big_quiet_step ((first | (go_at_call 29; exact calls_of (HSN _)) | (go_at_call 30; exact calls_of (HSP _)) | (go_at_call 31; exact calls_of (HIH _)) | (go_at_call 32; exact calls_of (HSH _)) | (go_at_call 22; exact calls_of (HIT _)) | (go_at_call 33; exact calls_of (HST _)) | rfl)))
  refine wpQuiet_nil ?_
  intro w5 hw12
  obtain ⟨⟨wx, cx⟩, hwx⟩ := hw12
  have b : Below WQ.heap.size WQ w5 := by rw [hwx]; exact cx
  clear hwx cx wx hne gP0 gP1 gQ0 gQ1 HSN HSP HIH HSH HIT HST q1 q2 q3 q4
  replace d := bw_call d b
  replace rP := rP.below (b.mono yP)
  replace yP := Nat.le_trans yP b.size
  replace kP := (b.block _ sP).trans kP
  replace sP := Nat.lt_of_lt_of_le sP b.size
  replace rQ := rQ.below (b.mono yQ)
  replace yQ := Nat.le_trans yQ b.size
  replace kQ := (b.block _ sQ).trans kQ
  replace sQ := Nat.lt_of_lt_of_le sQ b.size
  clear b
  clear rQ yQ kQ sQ
  go_upto_region 9 with fail
  go_cut [70] (fun v wx => v = .bool false ∧ Below w5.heap.size w5 wx)
  case first =>
    have p0 := at_cell kP 0
    have p1 := at_cell kP 1
    by_cases hN0 : 0 ≤ N
    · have hN1 : N ≥ 0 := hN0
      have hpn : prevOf np mp N = hp := nb_next HN.out hN0
      go_wp2_with fail
      refine (implPrevOf_any np _ mp N _ (rP.mono yP).r).mono ?_
      rw [hpn]
      rintro e w6 ⟨rfl, b6⟩
      by_cases hR0 : 0 ≤ R
      · have hR1 : R ≥ 0 := hR0
        have hpr : nextOf np mp R = hp := nb_prev HR.out hR0
        have p0 := at_cell ((b6.block _ sP).trans kP) 0
        have p1 := at_cell ((b6.block _ sP).trans kP) 1
        have r6 := (rP.below (b6.mono yP)).mono (Nat.le_trans yP b6.size)
        clear hpn
        go_wp2_with fail
        refine (implNextOf_any np _ mp R _ r6.r).mono ?_
        rw [hpr]
        rintro e w7 ⟨rfl, b7⟩
        clear hpr r6
        go_wp2_with fail
        go_meet
        exact ⟨rfl, bw_call b6 b7⟩
      · have hR1 : ¬ R ≥ 0 := hR0
        clear hpn
        go_wp2_with fail
        go_meet
        exact ⟨rfl, b6⟩
    · have hN1 : ¬ N ≥ 0 := hN0
      by_cases hR0 : 0 ≤ R
      · have hR1 : R ≥ 0 := hR0
        have hpr : nextOf np mp R = hp := nb_prev HR.out hR0
        go_wp2_with fail
        refine (implNextOf_any np _ mp R _ (rP.mono yP).r).mono ?_
        rw [hpr]
        rintro e w7 ⟨rfl, b7⟩
        clear hpr
        go_wp2_with fail
        go_meet
        exact ⟨rfl, b7⟩
      · have hR1 : ¬ R ≥ 0 := hR0
        go_wp2_with fail
        go_meet
        exact ⟨rfl, Below.refl _ _⟩
  case rest =>
    obtain ⟨rfl, b⟩ := hcut
    replace d := bw_call d b
    replace rP := rP.below (b.mono yP)
    replace yP := Nat.le_trans yP b.size
    replace kP := (b.block _ sP).trans kP
    replace sP := Nat.lt_of_lt_of_le sP b.size
    clear b
    have p0 := at_cell kP 0
    have p1 := at_cell kP 1
    obtain ⟨ok, hok⟩ : ∃ ok, viewOk np mp = ok := ⟨_, rfl⟩
    go_wp2_with fail
    refine (specViewOk_any np _ mp _ (rP.mono yP).r).mono ?_
    rw [hok]
    rintro e w8 ⟨rfl, b⟩
    clear p0 p1
    replace d := bw_call d b
    replace rP := rP.below (b.mono yP)
    replace yP := Nat.le_trans yP b.size
    replace kP := (b.block _ sP).trans kP
    replace sP := Nat.lt_of_lt_of_le sP b.size
    clear b
    have p0 := at_cell kP 0
    have p1 := at_cell kP 1
    cases ok
    · obtain ⟨e1, e2, e3⟩ := nb_bad hp hok
      have e4 : N = -1 := by rw [← HN.out]; exact e1
      have e5 : R = -1 := by rw [← HR.out]; exact e2
      subst e4 e5
      clear hok e1 e2 HN HR
      go_wp2_with fail
      refine (implHeadOf_any np _ mp _ (rP.mono yP).r).mono ?_
      rw [e3]
      rintro e w9 ⟨rfl, b9⟩
      have HD : Hid _ := d
      clear p0 p1 e3
      go_wp2_with fail
      go_ret
      exact ⟨rfl, bw_call HD.out b9⟩
    · obtain ⟨e1, e2⟩ := nb_head hok
      have hvp := viewOk_parts hok
      have hl1 : 1 ≤ mp.length := hvp.2.2.2.1
      have hl4 : mp.length ≤ 4 := hvp.2.2.2.2
      have HST : Hid (∀ (k : Nat) (hk : k < mp.length), nextOf np mp (mp.getD k (-1)) = mp.getD (k + 1) (-1) ∧ 0 ≤ mp.getD k (-1) ∧ mp.take (k + 1) = mp.take k ++ [mp.getD k (-1)]) := nb_step hok
      have HEN : Hid (∀ (k : Nat), ¬ k < mp.length → mp.getD k (-1) = -1) := fun k hk => nb_end k hk
      have HTL : Hid _ := e2
      clear hok hvp e2 HN HR
      go_upto_region 14 with fail
      have b : Below w8.heap.size w8 (w8.alloc (.cells #[] 2)) := bw_alloc (Below.refl _ _)
      have hPn := sP
      have hwn : w'.heap.size ≤ w8.heap.size := d.size
      have own0 := World.ownsRow_lit (base := w8.heap.size) (e := 2) (size := 1) w8 #[] 0 (Nat.le_refl _) (Nat.zero_le _) rfl
      clear p0 p1
      replace d := bw_call d b
      replace rP := rP.below (b.mono yP)
      replace yP := Nat.le_trans yP b.size
      replace kP := (b.block _ sP).trans kP
      replace sP := Nat.lt_of_lt_of_le sP b.size
      clear b
      generalize w8.alloc (.cells #[] 2) = W8 at *
      generalize w8.heap.size = nS at *
      have p0 := at_cell kP 0
      have p1 := at_cell kP 1
      go_wp2_with fail
      refine (implHeadOf_any np _ mp _ (rP.mono yP).r).mono ?_
      rw [e1]
      rintro e w9 ⟨rfl, b⟩
      have own1 := owns_below own0 b
      have HNS : Hid (w'.heap.size ≤ nS) := hwn
      have hnS : nS ≤ w9.heap.size := by have := (own1.lt nS rfl).2; omega
      clear p0 p1 e1 own0
      replace d := bw_call d b
      replace rP := rP.below (b.mono yP)
      replace yP := Nat.le_trans yP b.size
      replace kP := (b.block _ sP).trans kP
      replace sP := Nat.lt_of_lt_of_le sP b.size
      clear b
      have KP : Hid _ := kP
      have RP : Hid _ := rP
      have DD : Hid _ := d
      have b0 : Below w9.heap.size w9 w9 := Below.refl _ _
      go_wp2_with fail
      go_loopw [8, 9] (fun se at_ wr => ∃ (k g cp : Nat), k ≤ mp.length ∧ se = .slice (some ⟨g, 0, none⟩) k cp ∧ at_ = .int .i64 (mp.getD k (-1)) ∧ wr.ownsRow nS 2 1 (.slice (some ⟨g, 0, none⟩) k cp) k ((mp.take k).map (Value.int .i64)) ∧ Below nS w9 wr) (fun se _ _ => 5 - lenOfV se)
      case atStart => exact ⟨0, nS, 0, Nat.zero_le _, rfl, rfl, own1, b0.mono hnS⟩
      case round =>
        clear kP sP rP yP d b0 own1
        obtain ⟨k, g, cp, hk, rfl, rfl, own, hb⟩ := hrel
        have kP := (hb.block nP hPn).trans KP.out
        have rP : RVw wr.heap.size wr (.slice oP mp.length cP) mp := (RP.out.below (hb.mono (by omega))).mono (by have := hb.size; omega)
        have p0 := at_cell kP 0
        have p1 := at_cell kP 1
        have sP := heap_lt kP
        have hk4 : (k : Int) < 5 := by omega
        by_cases hlt : k < mp.length
        · obtain ⟨s1, s2, s3⟩ := HST.out k hlt
          obtain ⟨x, hx⟩ : ∃ x, mp.getD k (-1) = x := ⟨_, rfl⟩
          rw [hx] at s1 s2 s3
          rw [hx]
          have S1 : Hid _ := s1
          have S3 : Hid _ := s3
          have s2' : x ≥ 0 := s2
          clear hx s1 s3
          go_wp2_with (at_builtin; refine wpList_append_own _ rfl _ _ 24 rfl nS 2 i0 (.int .i64 0) 1 8 Try.underlying24 hi hz0 hz1 hz2 rfl (by decide) _ _ _ rfl (own.alloc _) ⟨wr.heap.size, 0, none⟩ 1 1 [.int .i64 x] rfl rfl ?c1 ?c2 ?c3 ?c4 ?c5 ?_)
          case c1 => exact new_one _ _ _
          case c2 => intro u hu; simp at hu; subst hu; rfl
          case c3 => unfold maxLen; omega
          case c4 => omega
          case c5 => have := hb.size; simp; omega
          intro v' w10 hown' hgrow hnil
          have bA : Below wr.heap.size wr (wr.alloc (.cells #[.int .i64 x] 2)) := bw_alloc (Below.refl _ _)
          have ng : ∀ q, (Value.slice (some ⟨g, 0, none⟩) k cp).ownBlock = some q → nS ≤ q := fun q hq => (own.lt q hq).1
          have b10 : Below nS wr w10 := (bA.mono (by have := hb.size; omega)).grown hgrow (by simp; have := hb.size; omega) ng
          have own10 : w10.ownsRow nS 2 1 v' (k + 1) ((mp.take (k + 1)).map (Value.int .i64)) := by rw [S3.out, List.map_append]; simpa using hown'
          obtain ⟨g', cp', hv'⟩ := owns_form own10
          subst hv'
          replace hb := hb.trans b10
          replace kP := (b10.block nP hPn).trans kP
          replace rP : RVw w10.heap.size w10 (.slice oP mp.length cP) mp := (RP.out.below (hb.mono (by omega))).mono (by have := hb.size; omega)
          replace p0 := at_cell kP 0
          replace p1 := at_cell kP 1
          clear hown' hgrow hnil own bA ng b10 kP sP
          go_wp2_with fail
          refine (implNextOf_any np _ mp x _ rP.r).mono ?_
          rw [S1.out]
          rintro e w11 ⟨rfl, b11⟩
          have HB : Hid _ := hb.trans (b11.mono (by have := hb.size; omega))
          have HO : Hid _ := owns_below own10 b11
          clear p0 p1 rP hb own10 b11
          go_wp2_with fail
          go_roundw
          case rel => exact ⟨k + 1, g', cp', by omega, rfl, rfl, HO.out, HB.out⟩
          case measure => simp [lenOfV]; omega
        · have hx := HEN.out k hlt
          rw [hx]
          have hkm : k = mp.length := by omega
          subst hkm
          rw [List.take_length] at own
          have HTL2 : Hid _ := HTL.out
          have hz := nb_front (ms := mp) 0 (by omega)
          have hj : mp.length - 1 < mp.length := by omega
          obtain ⟨J, hJ⟩ : ∃ J, J = mp.length - 1 := ⟨_, rfl⟩
          have HJ : Hid (J = mp.length - 1) := hJ
          have hJl : J < mp.length := by omega
          have hcx := own.cellAt J (by omega)
          rw [List.getElem?_map, List.getElem?_eq_getElem hJl] at hcx
          have hvx : mp.getD (mp.length - 1) 0 = mp[J] := by rw [List.getD_eq_getElem?_getD, ← hJ, List.getElem?_eq_getElem hJl]; rfl
          obtain ⟨x, hxx⟩ : ∃ x, mp[J] = x := ⟨_, rfl⟩
          rw [hxx] at hvx hcx
          have HTX : Hid (tailOf np mp = x) := HTL.out.trans hvx
          have hJ1 : IntKind.i64.wrap ((mp.length : Int) - 1) = (J : Int) := by rw [IntKind.wrap_i64]; omega
          have hJ2 : (mp.length : Int) - 1 = (J : Int) := by omega
          have hJ3 : IntKind.i64.wrap (J : Int) = (J : Int) := by rw [IntKind.wrap_i64]; omega
          have i0' : (0 : Int) ≤ (J : Int) := by omega
          have i1' : (J : Int) < (mp.length : Int) := by omega
          have hbe : (x == x) = true := by simp
          have lg := (own.lt g rfl).2
          have hne := BelowOf.any wr
          have gP0 := BelowOf.cell p0 sP
          have gP1 := BelowOf.cell p1 sP
          have gX := BelowOf.cell (show wr.cell? ⟨g, J, none⟩ = some (.int .i64 x) from hcx) lg
          have rS : Reads wr.heap.size wr (.slice (some ⟨g, 0, none⟩) mp.length cp) (mp.map (Value.int .i64)) := Reads.of_own own
          have HLI : ∀ p : BelowOf wr, Calls Try.prog 23 #[.slice (some ⟨g, 0, none⟩) mp.length cp, .slice oP mp.length cP] p.w' fun e w' => e = .returned (.bool true) ∧ Below p.w'.heap.size p.w' w' := fun p => by
            have h := likeInts_any (.slice (some ⟨g, 0, none⟩) mp.length cp) _ mp mp p.w' ((rS.below p.h).mono p.h.size) (rP.of (Nat.le_refl _) p).r
            rwa [decide_eq_true rfl] at h
          have HTO : ∀ p : BelowOf wr, Calls Try.prog 22 #[.agg #[.int .i64 np, .slice oP mp.length cP]] p.w' fun e w' => e = .returned (.int .i64 x) ∧ Below p.w'.heap.size p.w' w' := fun p => by have h := implTailOf_any np _ mp p.w' (rP.of (Nat.le_refl _) p).r; rwa [HTX.out] at h
          have HDD : Hid (Below w'.heap.size w' wr) := DD.out.trans (hb.mono (by have := DD.out.size; have := HNS.out; omega))
          clear hcx hvx hxx hJ hj hz hx own rS p0 p1 kP rP hb hJl
          go_wp2_with fail
          refine wp_region_of (by kernel_rfl) (by kernel_rfl) ?_
          repeat (go_big_quiet_step ((first | (go_at_call 23; exact calls_of (HLI _)) | (go_at_call 22; exact calls_of (HTO _)) | rfl)))
          refine wpQuiet_nil ?_
          intro w12 hw12
          obtain ⟨⟨wx, cx⟩, hwx⟩ := hw12
          have b12 : Below wr.heap.size wr w12 := by rw [hwx]; exact cx
          clear hwx cx wx hne gP0 gP1 gX HLI HTO
          go_wp2_with fail
          go_ret
          exact ⟨rfl, bw_call HDD.out b12⟩

set_option maxRecDepth 100000 in
theorem lifted (os : Os) (started : os.Started) (H : Type) (enc : TypeId × Value → H) :
    ReturnsInHanded {} Try.checked os 4 .any (Rows.fnNeighboursSpec.pre6 enc Try.prog Try.f4 Rows.fnNeighboursRow.domain false) (Rows.fnNeighboursSpec.post enc Try.prog Try.f4 false true false false) := by
  refine returnsInHanded_of_change (C := Try.checked) own started (by kernel_rfl) Try.func4
    (ChangeSpec.witness6 (enc := enc) (C := Try.checked) false ⟨#[], #[.slice none 0 0], []⟩ 8 (by kernel_rfl) (by kernel_rfl) (by kernel_rfl) (by kernel_rfl)) ?_
  intro W base args ds gs before hval0 hW hcnd _
  have hval : ∀ (j : Nat) t v, Try.f4.params[j]? = some t → args[j]? = some v → Value.okWide Try.prog W .any base t v := hval0
  have hW' := hW
  obtain ⟨p, q, hA0, hV, rfl, hfz, hnd⟩ := hW
  have hA : DataW.TrodAll enc Try.prog W 0 (fun _ => true) true Try.f4.params.toList args.toList ds p := hA0
  rw [Try.params4] at hA hval
  obtain ⟨v0, vs0, d0, ds0, p0, q0, hargs, rfl, rfl, h0, r0⟩ := trodAll_cons hA
  obtain ⟨rfl, rfl, rfl⟩ := trodAll_nil r0
  obtain rfl : args = #[v0] := by cases args; simp_all
  obtain ⟨rfl, rfl⟩ := trodVars_none hV
  obtain ⟨a0, len0, cap0, rfl⟩ := okWide_slice Try.underlying22 (hval 0 22 v0 rfl rfl)
  have k0 := h0
  have lt0 : ∀ x ∈ p0, x.block < W.heap.size := by obtain ⟨m, hm⟩ := k0; exact DataW.trod_lt m _ _ _ hm
  obtain ⟨z0, w0⟩ : ∃ zs, IsRow .u8 W a0 len0 cap0 zs := by
    obtain ⟨fuel, hf⟩ := h0
    rcases open_ints Try.underlying22 Try.underlying5 (by kernel_rfl) hf with ⟨hcs, _⟩ | ⟨x, l, c, zs, hcs, _, hl, hm, hz, _, hcell, hwz⟩
    · simp [Value.cells] at hcs
      obtain ⟨rfl, rfl, rfl⟩ := hcs
      exact ⟨[], .inl ⟨rfl, rfl, rfl, rfl⟩⟩
    · simp [Value.cells] at hcs
      obtain ⟨rfl, rfl, rfl⟩ := hcs
      exact ⟨zs, .inr ⟨_, rfl, hl, hm, by simpa using hz, hcell, hwz⟩⟩
  clear hA0 hval0
  refine (walk a0 len0 cap0 z0 W w0).mono fun e W' ⟨he, bel⟩ => ?_
  subst he
  exact ⟨_, rfl, _, _, _, [], _, [], hW', trodAll_mk1 (shut_bool Try.underlying4 _), (trodAll_cons_mk (Below.trod laidOut (by kernel_rfl) (of_decide_eq_true (by kernel_rfl)) k0 bel lt0) trodAll_mk0), rfl, bel.frame _, fun h => by cases h⟩

theorem over : Rows.fnNeighboursRow.holds Try.pinned (OpenSpec.ofChange Rows.fnNeighboursSpec) :=
  OpenClaim.holds_of_wide 4 Try.f4 rfl rfl rfl rfl rfl rfl rfl ⟨rfl, rfl, rfl, rfl, rfl⟩ rfl rfl rfl rfl rfl (by kernel_rfl) Try.func4 (by kernel_rfl)
    (of_decide_eq_true (by kernel_rfl)) (by unfold Func.isWrapper; first | (rw [if_pos (by decide +kernel)]; kernel_rfl) | (rw [if_neg (by decide +kernel)]; exact ⟨rfl, rfl⟩))
    (fun os started H enc _ => lifted os started H enc)

theorem proved : Rows.FnNeighboursSaid := over
#print axioms proved
end Go.Proofs.Ytijmmenkcemggaa.fnNeighbours
