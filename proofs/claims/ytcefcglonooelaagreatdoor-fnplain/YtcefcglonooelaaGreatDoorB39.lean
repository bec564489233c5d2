/-
  Contracts and plain laws, one chapter behind the other.
-/
import Derived.RangeFuncBox
import Derived.Lib.LazyBuf
import Derived.Deep.DeepCutAuto
import Derived.Test.YtcefcglonooelaaGreatDoorB01
import Derived.Test.YtcefcglonooelaaGreatDoorB02
import Derived.Test.YtcefcglonooelaaGreatDoorB05
import Derived.Test.YtcefcglonooelaaGreatDoorB06
import Derived.Test.YtcefcglonooelaaGreatDoorB09
import Derived.Test.YtcefcglonooelaaGreatDoorB10
import Derived.Test.YtcefcglonooelaaGreatDoorB12
import Derived.Test.YtcefcglonooelaaGreatDoorB21
import Derived.Test.YtcefcglonooelaaGreatDoorB22
import Derived.Test.YtcefcglonooelaaGreatDoorB23
import Derived.Test.YtcefcglonooelaaGreatDoorB25
import Derived.Test.YtcefcglonooelaaGreatDoorB26
import Derived.Test.YtcefcglonooelaaGreatDoorB29
namespace Go.Proofs.YtcefcglonooelaaGreatDoor
open Go.RowKit

set_option linter.unusedVariables false


/-- A plain in its place among the others. -/
def insK (bks : List Pk) (b : Pk) : List Pk := bks.take (insertAt ((bks.map Pk.pv).map Pv.pb) b.nm) ++ [b] ++ bks.drop (insertAt ((bks.map Pk.pv).map Pv.pb) b.nm)

def stepK (bks : List Pk) (b : Pk) (j : Nat) : List Pk := bks.take j ++ [b] ++ bks.drop j

theorem stepK_len (bks : List Pk) (b : Pk) (j : Nat) (h : j ≤ bks.length) : (stepK bks b j).length = bks.length + 1 := by
  simp [stepK]; omega

theorem stepK_at (bks : List Pk) (b : Pk) (j : Nat) (h : j ≤ bks.length) : (stepK bks b j)[j]? = some b := by
  have hl : (bks.take j).length = j := by rw [List.length_take]; omega
  rw [stepK, List.append_assoc, List.getElem?_append_right (by omega), hl, Nat.sub_self]; rfl

theorem stepK_before (bks : List Pk) (b : Pk) (j i : Nat) (h : i < j) (hj : j ≤ bks.length) : (stepK bks b j)[i]? = bks[i]? := by
  rw [stepK, List.append_assoc, List.getElem?_append_left (by rw [List.length_take]; omega), List.getElem?_take, if_pos h]

theorem stepK_swap (bks : List Pk) (b : Pk) (j : Nat) (h : j < bks.length) : ((stepK bks b (j + 1)).set (j + 1) bks[j]).set j b = stepK bks b j ∧ ((stepK bks b (j + 1)).set j b).set (j + 1) bks[j] = stepK bks b j := by
  have hl : (bks.take (j + 1)).length = j + 1 := by rw [List.length_take]; omega
  have hl0 : (bks.take j).length = j := by rw [List.length_take]; omega
  have e : bks.take (j + 1) = bks.take j ++ [bks[j]] := List.take_succ_eq_append_getElem h
  have e2 : bks.drop j = bks[j] :: bks.drop (j + 1) := List.drop_eq_getElem_cons h
  have key : ((stepK bks b (j + 1)).set (j + 1) bks[j]).set j b = stepK bks b j := by
    rw [stepK, List.append_assoc, List.set_append_right _ _ (by omega), hl, Nat.sub_self, List.singleton_append, List.set_cons_zero, e, List.append_assoc, List.set_append_right _ _ (by omega), hl0, Nat.sub_self, List.singleton_append, List.set_cons_zero, stepK, e2, List.append_assoc]
    rfl
  exact ⟨key, by rw [List.set_comm _ _ (by omega)]; exact key⟩

theorem plainByName_any (n1 : ByteArray) (s1 : Int) (o1 : Option Addr) (l1 c1 : Nat) (f1 : Bool) (e1 : Int) (n2 : ByteArray) (s2 : Int) (o2 : Option Addr) (l2 c2 : Nat) (f2 : Bool) (e2 : Int) (w : World) :
    Calls Tryz.prog 128 #[.agg #[.string n1, .int .i64 s1, .slice o1 l1 c1, .bool f1, .int .i64 e1], .agg #[.string n2, .int .i64 s2, .slice o2 l2 c2, .bool f2, .int .i64 e2]] w fun e w' => e = .returned (.int .i64 (cmpI n1 n2)) ∧ Below w.heap.size w w' := by
  go_enter Tryz.func128, Tryz.ntmps128
  go_wp2_with (go_at_call 157; refine (compare_any _ _ _).mono ?_; rintro e w' ⟨rfl, rfl⟩)
  go_ret
  exact ⟨rfl, bw_alloc (bw_alloc (Below.refl _ _))⟩

theorem last_insK (bks : List Pk) (b : Pk) (j : Nat) (hj : j ≤ bks.length) (h1 : ∀ i (hi : i < bks.length), j ≤ i → ltB b.nm bks[i].nm = true) (h2 : ∀ i (hi : i < bks.length), i < j → ltB bks[i].nm b.nm = true) : stepK bks b j = insK bks b := by
  have e : insertAt ((bks.map Pk.pv).map Pv.pb) b.nm = j := insertAt_eq _ _ j (by simpa using hj) (fun i hi hij => by simpa [Pk.pv, Pv.pb] using h2 i (by simpa using hi) hij) (fun h => by
    have := h1 j (by simpa using h) (Nat.le_refl _)
    simpa [Pk.pv, Pv.pb] using ltB_asymm this)
  rw [insK, e]
  rfl

set_option maxRecDepth 100000 in
set_option maxHeartbeats 6400000 in
theorem insSortK_any (base g cap N : Nat) (bks : List Pk) (b : Pk) (w : World) (hN1 : bks.length + 1 ≤ N) (hN2 : N ≤ bks.length + 1) (hl : bks.length ≤ 6) (hms : ∀ x ∈ bks, ∃ o k c, x.m = .slice o k c) (hmb : ∃ o k c, b.m = .slice o k c) (hs : (bks.map Pk.nm).Pairwise (fun x y => ltB x y = true)) (hnew : ∀ x ∈ bks, x.nm ≠ b.nm)
    (own : w.ownsRow base 51 5 (.slice (some ⟨g, 0, none⟩) N cap) (stepK bks b bks.length).length ((stepK bks b bks.length).flatMap pkC)) :
    Calls Tryz.prog 164 #[.slice (some ⟨g, 0, none⟩) N cap, .int .i64 0, .int .i64 (N : Int), .func (.func 128) #[] #[]] w fun e w' => e = .returned (.tuple #[]) ∧ w'.ownsRow base 51 5 (.slice (some ⟨g, 0, none⟩) N cap) (insK bks b).length ((insK bks b).flatMap pkC) ∧ Upto g w w' := by
  have HMS : Hid _ := hms
  have HMB : Hid _ := hmb
  have HSR : Hid (∀ i j (hi : i < bks.length) (hj : j < bks.length), i < j → ltB bks[i].nm bks[j].nm = true) := fun i j hi hj hij => by
    have := List.pairwise_iff_getElem.1 hs i j (by simpa using hi) (by simpa using hj) hij
    simpa using this
  have HNE : Hid (∀ i (hi : i < bks.length), ltB bks[i].nm b.nm = !(ltB b.nm bks[i].nm)) := fun i hi => by
    cases h : ltB b.nm bks[i].nm
    · cases h2 : ltB bks[i].nm b.nm
      · exact absurd (ltB_total h2 h) (hnew _ (List.getElem_mem hi))
      · rfl
    · rw [ltB_asymm h]; rfl
  clear hms hmb hs hnew
  go_enter Tryz.func164, Tryz.ntmps164
  go_wp2_with fail
  go_loopw [8] (fun i wr => ∃ q : Nat, 1 ≤ q ∧ q ≤ bks.length + 1 ∧ i = .int .i64 q ∧ (q ≤ bks.length → wr.ownsRow base 51 5 (.slice (some ⟨g, 0, none⟩) N cap) (stepK bks b bks.length).length ((stepK bks b bks.length).flatMap pkC)) ∧ (bks.length < q → bks.length ≠ 0 → wr.ownsRow base 51 5 (.slice (some ⟨g, 0, none⟩) N cap) (insK bks b).length ((insK bks b).flatMap pkC)) ∧ Upto g w wr ∧ (bks.length = 0 → wr = w)) (fun i _ => bks.length + 1 - (intOf i).toNat)
  case atStart => exact ⟨1, Nat.le_refl _, by omega, by go_num, fun _ => own, fun h1 h2 => by omega, Upto.refl _ _, fun _ => rfl⟩
  case round =>
    obtain ⟨q, hq1, hq, rfl, ow1, ow2, u, hz⟩ := hrel
    by_cases hlt : q ≤ bks.length
    · have ow := ow1 hlt
      have i1 : (q : Int) < (N : Int) := by omega
      clear ow1 ow2 own hz
      rcases Nat.lt_or_ge q bks.length with hqn | hqn
      · -- two of the old ones, in their order: nothing is moved
        have hlo := HSR.out (q - 1) q (by omega) hqn (by omega)
        have hno : ¬ cmpI bks[q].nm bks[q - 1].nm < 0 := by rw [cmpI_neg, ltB_asymm hlo]; decide
        have hlS := stepK_len bks b bks.length (Nat.le_refl _)
        obtain ⟨⟨a0, a1, a2, a3, a4⟩, -⟩ := own_fiveK ow q (by omega)
        obtain ⟨⟨c0, c1, c2, c3, c4⟩, -⟩ := own_fiveK ow (q - 1) (by omega)
        have e1 : (stepK bks b bks.length)[q]'(by omega) = bks[q] := by
          have h := stepK_before bks b bks.length q hqn (Nat.le_refl _)
          rw [List.getElem?_eq_getElem (by omega), List.getElem?_eq_getElem hqn] at h
          exact Option.some.inj h
        have e2 : (stepK bks b bks.length)[q - 1]'(by omega) = bks[q - 1] := by
          have h := stepK_before bks b bks.length (q - 1) (by omega) (Nat.le_refl _)
          rw [List.getElem?_eq_getElem (by omega), List.getElem?_eq_getElem (show q - 1 < bks.length by omega)] at h
          exact Option.some.inj h
        rw [e1] at a0 a1 a2 a3 a4
        rw [e2] at c0 c1 c2 c3 c4
        obtain ⟨oa, ka, ca, ha⟩ := HMS.out bks[q] (List.getElem_mem hqn)
        obtain ⟨oc, kc, cc, hc⟩ := HMS.out bks[q - 1] (List.getElem_mem (by omega))
        have lg := (ow.lt g rfl).2
        generalize bks[q] = xa at *
        generalize bks[q - 1] = xc at *
        obtain ⟨an, asz, am, ar, af, ae⟩ := xa
        obtain ⟨cn, cs, cm, cr, cf, ce⟩ := xc
        simp only at a0 a1 a2 a3 a4 c0 c1 c2 c3 c4 ha hc hno
        subst ha hc
        obtain ⟨p, hp⟩ : ∃ p, q = p + 1 := ⟨q - 1, by omega⟩
        have HPQ : Hid (q = p + 1) := hp
        have e3 : q - 1 = p := by omega
        rw [e3] at c0 c1 c2 c3 c4
        have w1a : IntKind.i64.wrap ((q : Int) - 1) = p := by rw [IntKind.wrap_i64]; omega
        have w1b : (q : Int) - 1 = p := by omega
        have w1c : IntKind.i64.wrap (p : Int) = p := by rw [IntKind.wrap_i64]; omega
        have j0 : (0 : Int) ≤ (p : Int) := by omega
        have j1 : (p : Int) < (N : Int) := by omega
        have j2 : decide (0 < q) = true := decide_eq_true (by omega)
        have HOW : Hid (wr.ownsRow base 51 5 (.slice (some ⟨g, 0, none⟩) N cap) (stepK bks b bks.length).length ((stepK bks b bks.length).flatMap pkC)) := ow
        clear e1 e2 e3 hp hlS hlo ow
        go_wp2_with fail
        go_loopw [9] (fun j wr2 => j = .int .i64 q ∧ wr2 = wr) (fun _ _ => 0)
        case atStart => exact ⟨rfl, rfl⟩
        case round =>
          obtain ⟨rfl, rfl⟩ := hrel
          have hne := BelowOf.any wr
          have a0' := BelowOf.cell a0 lg
          have a1' := BelowOf.cell a1 lg
          have a2' := BelowOf.cell a2 lg
          have a3' := BelowOf.cell a3 lg
          have a4' := BelowOf.cell a4 lg
          have c0' := BelowOf.cell c0 lg
          have c1' := BelowOf.cell c1 lg
          have c2' := BelowOf.cell c2 lg
          have c3' := BelowOf.cell c3 lg
          have c4' := BelowOf.cell c4 lg
          obtain ⟨cv, hcv⟩ : ∃ cv, cmpI an cn = cv := ⟨_, rfl⟩
          rw [hcv] at hno
          have HB : ∀ z : BelowOf wr, Calls Tryz.prog 128 #[.agg #[.string an, .int .i64 asz, .slice oa ka ca, .bool af, .int .i64 ae], .agg #[.string cn, .int .i64 cs, .slice oc kc cc, .bool cf, .int .i64 ce]] z.w' fun e w' => e = .returned (.int .i64 cv) ∧ Below z.w'.heap.size z.w' w' := fun z => by have h := plainByName_any an asz oa ka ca af ae cn cs oc kc cc cf ce z.w'; rwa [hcv] at h
          clear hcv a0 a1 a2 a3 a4 c0 c1 c2 c3 c4
          go_wp2_with fail
          refine wp_region_of (by kernel_rfl) (by kernel_rfl) ?_
          repeat (go_big_quiet_step ((first | (go_at_call 128; exact calls_of (HB _)) | rfl)))
          refine wpQuiet_nil ?_
          intro w5 hw5
          obtain ⟨⟨wx, cx⟩, hwx⟩ := hw5
          have b5 : Below wr.heap.size wr w5 := by rw [hwx]; exact cx
          clear hwx cx wx
          have ow5 := owns_below HOW.out b5
          have u5 := u.below b5
          clear a0' a1' a2' a3' a4' c0' c1' c2' c3' c4' HB hne
          go_wp2_with fail
          go_roundw
          case rel => exact ⟨q + 1, by omega, by omega, by go_num, fun _ => ow5, fun h1 h2 => by omega, u5, fun h => by omega⟩
          case measure => simp [intOf] <;> omega
      · -- the new one comes down to its place
        obtain rfl : q = bks.length := by omega
        go_wp2_with fail
        go_loopw [9] (fun j wr2 => ∃ p : Nat, p ≤ bks.length ∧ j = .int .i64 p ∧ wr2.ownsRow base 51 5 (.slice (some ⟨g, 0, none⟩) N cap) (stepK bks b p).length ((stepK bks b p).flatMap pkC) ∧ (∀ i (hi : i < bks.length), p ≤ i → ltB b.nm bks[i].nm = true) ∧ Upto g w wr2) (fun j _ => (intOf j).toNat)
        case atStart => exact ⟨bks.length, Nat.le_refl _, rfl, ow, fun i hi h => by omega, u⟩
        case round =>
          clear ow u
          obtain ⟨p, hp, rfl, ow, hgt, u⟩ := hrel
          have HGT : Hid _ := hgt
          clear hgt
          rcases Nat.eq_zero_or_pos p with hp0 | hpp
          · subst hp0
            have HF : Hid (stepK bks b 0 = insK bks b) := last_insK bks b 0 (Nat.zero_le _) (fun i hi h => HGT.out i hi h) (fun i hi h => by omega)
            rw [HF.out] at ow
            go_wp2_with fail
            refine wp_region_of (by kernel_rfl) (by kernel_rfl) ?_
            repeat (go_big_quiet_step (rfl))
            refine wpQuiet_nil ?_
            intro w5 hw5
            obtain ⟨⟨wx, cx⟩, hwx⟩ := hw5
            have b5 : Below wr.heap.size wr w5 := by rw [hwx]; exact cx
            clear hwx cx wx
            have ow5 := owns_below ow b5
            have u5 := u.below b5
            clear ow u b5
            go_wp2_with fail
            go_roundw
            case rel => exact ⟨bks.length + 1, by omega, by omega, by go_num, fun h => by omega, fun h1 h2 => ow5, u5, fun h => by omega⟩
            case measure => simp [intOf] <;> omega
          · obtain ⟨k, rfl⟩ : ∃ k, p = k + 1 := ⟨p - 1, by omega⟩
            have hk : k < bks.length := by omega
            have hlS := stepK_len bks b (k + 1) hp
            obtain ⟨⟨a0, a1, a2, a3, a4⟩, fa0, fa1, fa2, fa3, fa4⟩ := own_fiveK ow (k + 1) (by omega)
            obtain ⟨⟨c0, c1, c2, c3, c4⟩, fc0, fc1, fc2, fc3, fc4⟩ := own_fiveK ow k (by omega)
            have e1 : (stepK bks b (k + 1))[k + 1]'(by omega) = b := by
              have h := stepK_at bks b (k + 1) hp
              rw [List.getElem?_eq_getElem (by omega)] at h
              exact Option.some.inj h
            have e2 : (stepK bks b (k + 1))[k]'(by omega) = bks[k] := by
              have h := stepK_before bks b (k + 1) k (by omega) hp
              rw [List.getElem?_eq_getElem (by omega), List.getElem?_eq_getElem hk] at h
              exact Option.some.inj h
            rw [e1] at a0 a1 a2 a3 a4
            rw [e2] at c0 c1 c2 c3 c4
            obtain ⟨oa, ka, ca, ha⟩ := HMB.out
            obtain ⟨oc, kc, cc, hc⟩ := HMS.out bks[k] (List.getElem_mem hk)
            have lg := (ow.lt g rfl).2
            have HNK := HNE.out k hk
            have HSK : Hid (∀ i (hi : i < bks.length), i < k → ltB bks[i].nm bks[k].nm = true) := fun i hi h => HSR.out i k hi hk h
            have HCM : Hid (cmpI b.nm bks[k].nm < 0 ↔ ltB b.nm bks[k].nm = true) := cmpI_neg _ _
            have HSTOP : Hid (ltB b.nm bks[k].nm = false → stepK bks b (k + 1) = insK bks b) := fun h => last_insK bks b (k + 1) hp (fun i hi h2 => HGT.out i hi h2) (fun i hi h2 => by
              have hkb : ltB bks[k].nm b.nm = true := by rw [HNK, h]; rfl
              rcases Nat.lt_or_ge i k with z | z
              · exact ltB_trans (HSK.out i hi z) hkb
              · obtain rfl : i = k := by omega
                exact hkb)
            have HGT2 : Hid (ltB b.nm bks[k].nm = true → ∀ i (hi : i < bks.length), k ≤ i → ltB b.nm bks[i].nm = true) := fun h i hi h2 => by
              rcases Nat.lt_or_ge k i with z | z
              · exact HGT.out i hi (by omega)
              · obtain rfl : i = k := by omega
                exact h
            have HOW : Hid (wr.ownsRow base 51 5 (.slice (some ⟨g, 0, none⟩) N cap) (stepK bks b (k + 1)).length ((stepK bks b (k + 1)).flatMap pkC)) := ow
            clear ow e1 e2 hlS HNK HSK
            generalize hKC : bks[k] = xc at *
            generalize hB : b = xa at a0 a1 a2 a3 a4 ha HCM HSTOP HGT2 HOW
            obtain ⟨an, asz, am, ar, af, ae⟩ := xa
            obtain ⟨cn, csz, cm, cr, cf, ce⟩ := xc
            simp only at a0 a1 a2 a3 a4 c0 c1 c2 c3 c4 ha hc HCM HSTOP HGT2
            clear fa0 fa1 fa2 fa3 fa4 fc0 fc1 fc2 fc3 fc4
            subst ha hc
            have w1a : IntKind.i64.wrap (((k + 1 : Nat) : Int) - 1) = k := by rw [IntKind.wrap_i64]; omega
            have w1b : ((k + 1 : Nat) : Int) - 1 = k := by omega
            have w1c : IntKind.i64.wrap (k : Int) = k := by rw [IntKind.wrap_i64]; omega
            have j0 : (0 : Int) ≤ (k : Int) := by omega
            have j1 : (k : Int) < (N : Int) := by omega
            have j2 : decide (0 < k + 1) = true := decide_eq_true (by omega)
            have j3 : ((k + 1 : Nat) : Int) < (N : Int) := by omega
            have hne := BelowOf.any wr
            have a0' := BelowOf.cell a0 lg
            have a1' := BelowOf.cell a1 lg
            have a2' := BelowOf.cell a2 lg
            have a3' := BelowOf.cell a3 lg
            have a4' := BelowOf.cell a4 lg
            have c0' := BelowOf.cell c0 lg
            have c1' := BelowOf.cell c1 lg
            have c2' := BelowOf.cell c2 lg
            have c3' := BelowOf.cell c3 lg
            have c4' := BelowOf.cell c4 lg
            obtain ⟨cv, hcv⟩ : ∃ cv, cmpI an cn = cv := ⟨_, rfl⟩
            rw [hcv] at HCM
            have HB : ∀ z : BelowOf wr, Calls Tryz.prog 128 #[.agg #[.string an, .int .i64 asz, .slice oa ka ca, .bool af, .int .i64 ae], .agg #[.string cn, .int .i64 csz, .slice oc kc cc, .bool cf, .int .i64 ce]] z.w' fun e w' => e = .returned (.int .i64 cv) ∧ Below z.w'.heap.size z.w' w' := fun z => by have h := plainByName_any an asz oa ka ca af ae cn csz oc kc cc cf ce z.w'; rwa [hcv] at h
            clear hcv
            have HST : Hid _ := HSTOP.out
            have HGG : Hid _ := HGT2.out
            clear HSTOP HGT2
            by_cases hcn : cv < 0
            · have HL : Hid _ := HGG.out (HCM.out.1 hcn)
              clear HCM HST HGG
              clear a0 a1 a2 a3 a4 c0 c1 c2 c3 c4
              go_wp2_with fail
              refine wp_region_of (by kernel_rfl) (by kernel_rfl) ?_
              repeat (go_big_quiet_step ((first | (go_at_call 128; exact calls_of (HB _)) | rfl)))
              refine wpQuiet_nil ?_
              intro w5 hw5
              obtain ⟨⟨wx, cx⟩, hwx⟩ := hw5
              have b5 : Below wr.heap.size wr w5 := by rw [hwx]; exact cx
              clear hwx cx wx
              clear a0' a1' a2' a3' a4' c0' c1' c2' c3' c4' HB hne
              have ow5 := owns_below HOW.out b5
              have u5 := u.below b5
              have hlS := stepK_len bks ⟨an, asz, .slice oa ka ca, ar, af, ae⟩ (k + 1) hp
              obtain ⟨⟨a0, a1, a2, a3, a4⟩, fa0, fa1, fa2, fa3, fa4⟩ := own_fiveK ow5 (k + 1) (by omega)
              obtain ⟨⟨c0, c1, c2, c3, c4⟩, fc0, fc1, fc2, fc3, fc4⟩ := own_fiveK ow5 k (by omega)
              have e1 : (stepK bks ⟨an, asz, .slice oa ka ca, ar, af, ae⟩ (k + 1))[k + 1]'(by omega) = ⟨an, asz, .slice oa ka ca, ar, af, ae⟩ := by
                have h := stepK_at bks ⟨an, asz, .slice oa ka ca, ar, af, ae⟩ (k + 1) hp
                rw [List.getElem?_eq_getElem (by omega)] at h
                exact Option.some.inj h
              have e2 : (stepK bks ⟨an, asz, .slice oa ka ca, ar, af, ae⟩ (k + 1))[k]'(by omega) = ⟨cn, csz, .slice oc kc cc, cr, cf, ce⟩ := by
                have h := stepK_before bks ⟨an, asz, .slice oa ka ca, ar, af, ae⟩ (k + 1) k (by omega) hp
                rw [List.getElem?_eq_getElem (by omega), List.getElem?_eq_getElem hk, hKC] at h
                exact Option.some.inj h
              rw [e1] at a0 a1 a2 a3 a4
              rw [e2] at c0 c1 c2 c3 c4
              simp only at a0 a1 a2 a3 a4 c0 c1 c2 c3 c4
              obtain ⟨hsw1, hsw2⟩ := stepK_swap bks ⟨an, asz, .slice oa ka ca, ar, af, ae⟩ k hk
              rw [hKC] at hsw1 hsw2
              have ob1 := own_plain (own_plain ow5 (k + 1) (by omega) ⟨cn, csz, .slice oc kc cc, cr, cf, ce⟩) k (by simp <;> omega) ⟨an, asz, .slice oa ka ca, ar, af, ae⟩
              have ob2 := own_plain (own_plain ow5 k (by omega) ⟨an, asz, .slice oa ka ca, ar, af, ae⟩) (k + 1) (by simp <;> omega) ⟨cn, csz, .slice oc kc cc, cr, cf, ce⟩
              rw [hsw1] at ob1
              rw [hsw2] at ob2
              simp only at ob1 ob2
              have x1 : Upto g w5 ((((((((((w5.setCell ⟨g, (k + 1) * 5, none⟩ (.string cn)).setCell ⟨g, (k + 1) * 5 + 1, none⟩ (.int .i64 csz)).setCell ⟨g, (k + 1) * 5 + 2, none⟩ (.slice oc kc cc)).setCell ⟨g, (k + 1) * 5 + 3, none⟩ (.bool cf)).setCell ⟨g, (k + 1) * 5 + 4, none⟩ (.int .i64 ce)).setCell ⟨g, k * 5, none⟩ (.string an)).setCell ⟨g, k * 5 + 1, none⟩ (.int .i64 asz)).setCell ⟨g, k * 5 + 2, none⟩ (.slice oa ka ca)).setCell ⟨g, k * 5 + 3, none⟩ (.bool af)).setCell ⟨g, k * 5 + 4, none⟩ (.int .i64 ae)) := (((((((((((Upto.refl _ _).setCell ⟨g, (k + 1) * 5, none⟩ (.inl rfl) _).setCell ⟨g, (k + 1) * 5 + 1, none⟩ (.inl rfl) _).setCell ⟨g, (k + 1) * 5 + 2, none⟩ (.inl rfl) _).setCell ⟨g, (k + 1) * 5 + 3, none⟩ (.inl rfl) _).setCell ⟨g, (k + 1) * 5 + 4, none⟩ (.inl rfl) _).setCell ⟨g, k * 5, none⟩ (.inl rfl) _).setCell ⟨g, k * 5 + 1, none⟩ (.inl rfl) _).setCell ⟨g, k * 5 + 2, none⟩ (.inl rfl) _).setCell ⟨g, k * 5 + 3, none⟩ (.inl rfl) _).setCell ⟨g, k * 5 + 4, none⟩ (.inl rfl) _)
              have x2 : Upto g w5 ((((((((((w5.setCell ⟨g, k * 5, none⟩ (.string an)).setCell ⟨g, k * 5 + 1, none⟩ (.int .i64 asz)).setCell ⟨g, k * 5 + 2, none⟩ (.slice oa ka ca)).setCell ⟨g, k * 5 + 3, none⟩ (.bool af)).setCell ⟨g, k * 5 + 4, none⟩ (.int .i64 ae)).setCell ⟨g, (k + 1) * 5, none⟩ (.string cn)).setCell ⟨g, (k + 1) * 5 + 1, none⟩ (.int .i64 csz)).setCell ⟨g, (k + 1) * 5 + 2, none⟩ (.slice oc kc cc)).setCell ⟨g, (k + 1) * 5 + 3, none⟩ (.bool cf)).setCell ⟨g, (k + 1) * 5 + 4, none⟩ (.int .i64 ce)) := (((((((((((Upto.refl _ _).setCell ⟨g, k * 5, none⟩ (.inl rfl) _).setCell ⟨g, k * 5 + 1, none⟩ (.inl rfl) _).setCell ⟨g, k * 5 + 2, none⟩ (.inl rfl) _).setCell ⟨g, k * 5 + 3, none⟩ (.inl rfl) _).setCell ⟨g, k * 5 + 4, none⟩ (.inl rfl) _).setCell ⟨g, (k + 1) * 5, none⟩ (.inl rfl) _).setCell ⟨g, (k + 1) * 5 + 1, none⟩ (.inl rfl) _).setCell ⟨g, (k + 1) * 5 + 2, none⟩ (.inl rfl) _).setCell ⟨g, (k + 1) * 5 + 3, none⟩ (.inl rfl) _).setCell ⟨g, (k + 1) * 5 + 4, none⟩ (.inl rfl) _)
              have HO1 : Hid _ := And.intro ob1 (u5.trans x1)
              have HO2 : Hid _ := And.intro ob2 (u5.trans x2)
              have n1 : ¬ (k + 1) * 5 = k * 5 := by omega
              clear ob1 ob2 x1 x2 hsw1 hsw2 e1 e2 ow5 u5 hlS HOW b5 u HGT
              go_wp2_with fail
              go_region
              all_goals
                go_wp2_with fail
                go_roundw
                case rel => exact ⟨k, by omega, rfl, by first | exact owns_below HO1.out.1 ((Below.refl _ _).drew) | exact owns_below HO2.out.1 ((Below.refl _ _).drew), HL.out, by first | exact HO1.out.2.drew | exact HO2.out.2.drew⟩
                case measure => simp [intOf] <;> omega
            · have HF : Hid _ := HST.out (Bool.eq_false_iff.2 (fun h => hcn (HCM.out.2 h)))
              clear HCM HST HGG a0 a1 a2 a3 a4 c0 c1 c2 c3 c4
              go_wp2_with fail
              refine wp_region_of (by kernel_rfl) (by kernel_rfl) ?_
              repeat (go_big_quiet_step ((first | (go_at_call 128; exact calls_of (HB _)) | rfl)))
              refine wpQuiet_nil ?_
              intro w5 hw5
              obtain ⟨⟨wx, cx⟩, hwx⟩ := hw5
              have b5 : Below wr.heap.size wr w5 := by rw [hwx]; exact cx
              clear hwx cx wx
              clear a0' a1' a2' a3' a4' c0' c1' c2' c3' c4' HB hne
              have ow5 := owns_below HOW.out b5
              rw [HF.out, ← hB] at ow5
              have u5 := u.below b5
              go_wp2_with fail
              go_roundw
              case rel => exact ⟨bks.length + 1, by omega, by omega, by go_num, fun h => by omega, fun h1 h2 => ow5, u5, fun h => by omega⟩
              case measure => simp [intOf] <;> omega
    · have hqe : q = bks.length + 1 := by omega
      have hql : ¬ (q : Int) < (N : Int) := by omega
      have HO : Hid (wr.ownsRow base 51 5 (.slice (some ⟨g, 0, none⟩) N cap) (insK bks b).length ((insK bks b).flatMap pkC)) := by
        rcases Nat.eq_zero_or_pos bks.length with h0 | h0
        · rw [hz h0]
          have e : bks = [] := List.length_eq_zero_iff.1 h0
          subst e
          exact own
        · exact ow2 (by omega) (by omega)
      clear ow1 ow2 own hz
      go_wp2_with fail
      exact bodyPost_end (results_none rfl _ _ _) rfl ⟨rfl, HO.out, u⟩

set_option maxRecDepth 100000 in
set_option maxHeartbeats 6400000 in
theorem sortPlains_any (base g cap N : Nat) (bks : List Pk) (b : Pk) (w : World) (hN1 : bks.length + 1 ≤ N) (hN2 : N ≤ bks.length + 1) (hl : bks.length ≤ 6) (hms : ∀ x ∈ bks, ∃ o k c, x.m = .slice o k c) (hmb : ∃ o k c, b.m = .slice o k c) (hs : (bks.map Pk.nm).Pairwise (fun x y => ltB x y = true)) (hnew : ∀ x ∈ bks, x.nm ≠ b.nm)
    (own : w.ownsRow base 51 5 (.slice (some ⟨g, 0, none⟩) N cap) (stepK bks b bks.length).length ((stepK bks b bks.length).flatMap pkC)) :
    Calls Tryz.prog 127 #[.slice (some ⟨g, 0, none⟩) N cap, .func (.func 128) #[] #[]] w fun e w' => e = .returned (.tuple #[]) ∧ w'.ownsRow base 51 5 (.slice (some ⟨g, 0, none⟩) N cap) (insK bks b).length ((insK bks b).flatMap pkC) ∧ Upto g w w' := by
  have H : ∀ (lim : Int) (w2 : World), w2 = w → Calls Tryz.prog 155 #[.slice (some ⟨g, 0, none⟩) N cap, .int .i64 0, .int .i64 (N : Int), .int .i64 lim, .func (.func 128) #[] #[]] w2 fun e w' => e = .returned (.tuple #[]) ∧ w'.ownsRow base 51 5 (.slice (some ⟨g, 0, none⟩) N cap) (insK bks b).length ((insK bks b).flatMap pkC) ∧ Upto g w w' := fun lim w2 e2 => by
    subst e2
    have h12 : (N : Int) ≤ 12 := by omega
    have H1 : Hid _ := hms
    have H2 : Hid _ := hmb
    have H3 : Hid _ := hs
    have H4 : Hid _ := hnew
    have H5 : Hid (w2.ownsRow base 51 5 (.slice (some ⟨g, 0, none⟩) N cap) (stepK bks b bks.length).length ((stepK bks b bks.length).flatMap pkC)) := own
    clear hms hmb hs hnew own
    go_enter Tryz.func155, Tryz.ntmps155
    go_wp2_with fail
    refine wp_loop_rounds 1 ?_
    rw [rounds_succ]
    go_wp2_with fail
    refine (insSortK_any base g cap N bks b _ hN1 hN2 hl H1.out H2.out H3.out H4.out H5.out).mono ?_
    rintro e w1 ⟨rfl, ho, hu⟩
    have HO : Hid _ := And.intro ho hu
    clear ho hu H1 H2 H3 H4 H5
    go_wp2_with fail
    exact bodyPost_ret (results_none rfl _ _ _) rfl ⟨rfl, HO.out⟩
  have hN7 : N ≤ 7 := by omega
  have HH : Hid _ := H
  clear H hms hmb hs hnew own
  go_enter Tryz.func127, Tryz.ntmps127
  go_wp2_with fail
  refine (len_any N hN7 _).mono ?_
  rintro e w1 ⟨r, rfl, hw1⟩
  go_wp2_with fail
  clear hw1
  refine (HH.out r _ rfl).mono ?_
  rintro e w2 ⟨rfl, ho, hu⟩
  have HO : Hid _ := And.intro ho hu
  clear ho hu HH
  go_wp2_with fail
  exact bodyPost_end (results_none rfl _ _ _) rfl ⟨rfl, HO.out⟩
end Go.Proofs.YtcefcglonooelaaGreatDoor

namespace Go.Proofs.YtcefcglonooelaaGreatDoor
open Go.RowKit

set_option linter.unusedVariables false

set_option maxRecDepth 100000


theorem own_noplainsK (w : World) : (w.alloc (.cells #[] 51)).ownsRow w.heap.size 51 5 (.slice (some ⟨w.heap.size, 0, none⟩) 0 0) 0 [] := World.ownsRow_lit w #[] 0 (Nat.le_refl _) (Nat.zero_le _) rfl

set_option maxHeartbeats 1600000 in
theorem cloneK_any (v : Value) (rs : List Pk) (w : World) (hl : rs.length ≤ 1048576) (hms : ∀ b ∈ rs, ∃ o k cap, b.m = .slice o k cap) (r : ReadsR 5 pkC w.heap.size w v rs) :
    Calls Tryz.prog 126 #[v] w fun e w' => ∃ v' : Value, e = .returned v' ∧ w'.ownsRow w.heap.size 51 5 v' rs.length (rs.flatMap pkC) ∧ Below w.heap.size w w' := by
  obtain ⟨i0, hi, hz0, hz1, hz2⟩ := info_parts Tryz.infoPlain
  have r0 := r
  obtain ⟨o, cap, rfl, hm, hc, -⟩ := r
  have qn : ∀ (n c : Nat) (w : World), (binOp .eql 24 (.slice o n c) (.slice none 0 0)).run Tryz.prog w = .ok (.bool o.isNone) w := fun n c w => run_eql_slice_nil w _ _ o _ _ Tryz.underlying24
  cases o with
  | none =>
    have h0 : rs = [] := by
      cases rs with
      | nil => rfl
      | cons a l => obtain ⟨_, _, h, _⟩ := hc 0 a rfl; cases h
    subst h0
    clear hc
    go_enter Tryz.func126, Tryz.ntmps126
    go_wp2_with fail
    go_ret
    exact ⟨_, rfl, World.ownsRow_nil _ _ _ _, Below.refl _ _⟩
  | some a =>
    have d0 : Below w.heap.size w (w.alloc (.cells #[] 51)) := bw_alloc (Below.refl _ _)
    have HSRC : Hid _ := flat_src pkC_len (by decide) ((r0.below d0).mono d0.size)
    have HONE : Hid _ := plains_one rs hms
    have HLEN : Hid ((rs.flatMap pkC).length = rs.length * 5) := flat_length pkC_len rs
    have HM : Hid (0 + rs.length ≤ maxLen) := by rw [Hid]; unfold maxLen; omega
    have HB : Hid ((0 + rs.length) * 64 ≤ 140737488355328) := by rw [Hid]; omega
    have HS : Hid (w.heap.size ≤ (w.alloc (.cells #[] 51)).heap.size) := by rw [Hid]; simp
    have HON : Hid ((w.alloc (.cells #[] 51)).ownsRow w.heap.size 51 5 (.slice (some ⟨w.heap.size, 0, none⟩) 0 0) 0 []) := own_noplainsK w
    clear hc r0 hm
    go_enter Tryz.func126, Tryz.ntmps126
    go_wp2_with (at_builtin; refine wpList_append_reads rfl _ _ 24 rfl w.heap.size 51 i0 (.agg #[.string ByteArray.empty, .int .i64 0, .slice none 0 0, .bool false, .int .i64 0]) 5 64 Tryz.underlying24 hi hz0 hz1 hz2 rfl (by decide) (.slice (some ⟨w.heap.size, 0, none⟩) 0 0) 0 [] rfl HON.out (some a) rs.length cap (rs.flatMap pkC) rfl HLEN.out HSRC.out HONE.out HM.out HB.out HS.out ?_)
    intro v' w3 hown hgrow hnil
    have HO : Hid (w3.ownsRow w.heap.size 51 5 v' rs.length (rs.flatMap pkC)) := by rw [Hid]; simpa using hown
    have b3 : Below w.heap.size w w3 := d0.grown hgrow (by simp) (fun q hq => by simp [Value.ownBlock] at hq; omega)
    clear hown hgrow hnil
    go_wp2_with fail
    go_ret
    exact ⟨v', rfl, HO.out, b3⟩
end Go.Proofs.YtcefcglonooelaaGreatDoor

