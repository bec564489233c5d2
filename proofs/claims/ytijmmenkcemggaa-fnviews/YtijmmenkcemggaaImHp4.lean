/-
  Chapter 14: container/heap's down over the line's box.
-/
import Derived.Test.YtijmmenkcemggaaImHp3
namespace Go.Proofs.Ytijmmenkcemggaa
open Go.RowKit
set_option linter.unusedVariables false
set_option maxRecDepth 100000

theorem childP_is (L : List Mb) (k n j1 j2 : Nat) (h1 : j1 = 2 * k + 1) (h2 : j2 = j1 + 1) : childP L k n = if j2 < n ∧ lessP L j2 j1 = true then j2 else j1 := by subst h1; subst h2; rfl

set_option maxHeartbeats 3200000 in
theorem heapDown_any (S : Nat → Prop) (base b : Nat) (l : List Mb) (i n : Nat) (w : World) (h : Hp S base w b l) (hl : l.length ≤ 64) (hi : i ≤ l.length) (hn : n ≤ l.length) :
    Calls Try.prog 68 #[.iface 51 (.pointer (some ⟨b, 0, none⟩)), .int .i64 (i : Int), .int .i64 (n : Int)] w fun e w' => e = .returned (.bool (decide (i < (downAll l i n).2))) ∧ Hp S base w' b (downAll l i n).1 ∧ Only S w w' := by
  go_enter Try.func68, Try.ntmps68
  go_wp2_with fail
  go_loopw [7] (fun i' wr => ∃ (k : Nat) (L : List Mb), k ≤ l.length ∧ L.length = l.length ∧ i' = .int .i64 k ∧ downAll l i n = downAll L k n ∧ Hp S base wr b L ∧ Only S w wr) (fun i' _ => l.length - (intOf i').toNat)
  case atStart => exact ⟨i, l, hi, rfl, rfl, rfl, h, Only.refl _ _⟩
  case round =>
    obtain ⟨k, L, hk, hL0, rfl, hf, hp, hb⟩ := hrel
    have hL : L.length ≤ l.length := by omega
    have hL' : l.length ≤ L.length := by omega
    have HF : Hid _ := hf
    have hlo := hp.inS
    have hlt := hp.lt
    obtain ⟨j1, hj1⟩ : ∃ j1, j1 = 2 * k + 1 := ⟨_, rfl⟩
    obtain ⟨j2, hj2⟩ : ∃ j2, j2 = j1 + 1 := ⟨_, rfl⟩
    have HJ1 : Hid (j1 = 2 * k + 1) := hj1
    have HJ2 : Hid (j2 = j1 + 1) := hj2
    have w1 : IntKind.i64.wrap (2 * (k : Int)) = 2 * (k : Int) := by rw [IntKind.wrap_i64]; omega
    have w2 : IntKind.i64.wrap (2 * (k : Int) + 1) = 2 * (k : Int) + 1 := by rw [IntKind.wrap_i64]; omega
    have e1 : 2 * (k : Int) + 1 = (j1 : Int) := by omega
    have w3 : IntKind.i64.wrap (j1 : Int) = j1 := by rw [IntKind.wrap_i64]; omega
    have w4 : IntKind.i64.wrap ((j1 : Int) + 1) = (j1 : Int) + 1 := by rw [IntKind.wrap_i64]; omega
    have e2 : (j1 : Int) + 1 = (j2 : Int) := by omega
    have w5 : IntKind.i64.wrap (j2 : Int) = j2 := by rw [IntKind.wrap_i64]; omega
    have j0 : (0 : Int) ≤ (j1 : Int) := by omega
    have hst := downAll_stop L k n
    have hgo := downAll_go L k n
    rw [← hj1] at hst hgo
    clear hL0 hf h
    by_cases h1 : n ≤ j1
    · have hd : downAll l i n = (L, k) := HF.out.trans (hst (.inl h1))
      have HV : Hid (decide (i < (downAll l i n).2) = decide ((i : Int) < (k : Int))) := by rw [Hid, hd]; simp
      have HE : Hid (Hp S base wr b (downAll l i n).1 ∧ Only S w wr) := by rw [Hid, hd]; exact ⟨hp, hb⟩
      have h1' : (n : Int) ≤ (j1 : Int) := by omega
      clear hd hst hgo hj1 hj2 hp hb h1 HF
      go_wp2_with fail
      all_goals
        go_ret
        exact ⟨ret_bool (by rw [HV.out] <;> simp <;> omega), HE.out⟩
    · have h1' : (j1 : Int) < (n : Int) := by omega
      have h1n : j1 < n := by omega
      have HC : Hid (childP L k n = if j2 < n ∧ lessP L j2 j1 = true then j2 else j1) := childP_is L k n j1 j2 hj1 hj2
      have HST : Hid (∀ c, childP L k n = c → lessP L c k = false → downAll l i n = (L, k)) := fun c hc hl => HF.out.trans (hst (.inr (by rw [hc]; exact hl)))
      have HGO : Hid (∀ c, childP L k n = c → lessP L c k = true → downAll l i n = downAll (swapP L k c) c n) := fun c hc hl => by
        have := hgo h1 (by rw [hc]; exact hl)
        rw [hc] at this
        exact HF.out.trans this
      obtain ⟨v, kb, own, hSg0⟩ := hp.box
      have hSg : Hid _ := hSg0
      clear hSg0
      obtain ⟨g, cap, rfl⟩ := own_form own (by omega)
      have c0 := at_cell kb 0
      have hm := meth_Less b _ _ _ wr c0
      have hkj : k < j1 := by omega
      have hkj2 : k < j2 := by omega
      have HKB : Hid (wr.heap[b]? = some _) := kb
      clear hst hgo hj1 h1 HF kb
      by_cases h2 : j2 < n
      · have h2' : (j2 : Int) < (n : Int) := by omega
        clear hj2
        go_wp2_with (go_at_call 93; refine (implLess_any base _ L j2 j1 _ own (by omega) (by omega)).mono ?_)
        rintro e wa ⟨rfl, ba⟩
        have hp1 := hp.below ba
        have hb1 := hb.below ba
        have own1 := owns_below own ba
        have kb1 := (ba.block b hlt).trans HKB.out
        have hlta := heap_lt kb1
        clear own hp hb hm c0 HKB ba
        cases hlj : lessP L j2 j1
        · have HCC : Hid (childP L k n = j1) := by rw [Hid, HC.out, if_neg (fun q => by rw [hlj] at q; exact absurd q.2 (by decide))]
          clear hlj HC
          have c0 := at_cell kb1 0
          have hm := meth_Less b _ _ _ wa c0
          go_wp2_with (go_at_call 93; refine (implLess_any base _ L j1 k _ own1 (by omega) (by omega)).mono ?_)
          rintro e w5 ⟨rfl, b5⟩
          have hp5 := hp1.below b5
          have hb5 := hb1.below b5
          have own5 := owns_below own1 b5
          have kb5 := (b5.block b (heap_lt kb1)).trans kb1
          have hlt5 := heap_lt kb5
          clear own1 hp1 hb1 hm c0 b5 kb1
          cases hll : lessP L j1 k
          · have hd : downAll l i n = (L, k) := HST.out j1 HCC.out hll
            have HV : Hid (decide (i < (downAll l i n).2) = decide ((i : Int) < (k : Int))) := by rw [Hid, hd]; simp
            have HE : Hid (Hp S base w5 b (downAll l i n).1 ∧ Only S w w5) := by rw [Hid, hd]; exact ⟨hp5, hb5⟩
            clear hp5 hb5 own5 kb5 hll hd HST HGO
            go_wp2_with fail
            go_ret
            exact ⟨ret_bool (by rw [HV.out] <;> simp <;> omega), HE.out⟩
          · have HV : Hid (downAll l i n = downAll (swapP L k j1) j1 n) := HGO.out j1 HCC.out hll
            have c0 := at_cell kb5 0
            have hm := meth_Swap b _ _ _ w5 c0
            clear hll HST HGO
            go_wp2_with (go_at_call 94; refine (implSwap_any base _ L k j1 _ own5 (by omega) (by omega)).mono ?_)
            rintro e w6 ⟨rfl, own6, u6⟩
            obtain ⟨hp6, b6⟩ := Hp.swap hlo kb5 own5 hSg.out (by omega) own6 u6
            have hb6 := hb5.trans b6
            have HE : Hid _ := And.intro hp6 hb6
            have hsl : (swapP L k j1).length = l.length := by rw [swapP_len]; omega
            have HSL : Hid _ := hsl
            clear hm c0 kb5 own5 own6 u6 hp6 b6 hb6 hb5 hp5 hsl
            go_wp2_with fail
            go_roundw
            case rel => exact ⟨j1, swapP L k j1, by omega, HSL.out, rfl, HV.out, HE.out.1, HE.out.2⟩
            case measure => simp [intOf]; omega
        · have HCC : Hid (childP L k n = j2) := by rw [Hid, HC.out, if_pos ⟨h2, hlj⟩]
          clear hlj HC
          have c0 := at_cell kb1 0
          have hm := meth_Less b _ _ _ wa c0
          go_wp2_with (go_at_call 93; refine (implLess_any base _ L j2 k _ own1 (by omega) (by omega)).mono ?_)
          rintro e w5 ⟨rfl, b5⟩
          have hp5 := hp1.below b5
          have hb5 := hb1.below b5
          have own5 := owns_below own1 b5
          have kb5 := (b5.block b (heap_lt kb1)).trans kb1
          have hlt5 := heap_lt kb5
          clear own1 hp1 hb1 hm c0 b5 kb1
          cases hll : lessP L j2 k
          · have hd : downAll l i n = (L, k) := HST.out j2 HCC.out hll
            have HV : Hid (decide (i < (downAll l i n).2) = decide ((i : Int) < (k : Int))) := by rw [Hid, hd]; simp
            have HE : Hid (Hp S base w5 b (downAll l i n).1 ∧ Only S w w5) := by rw [Hid, hd]; exact ⟨hp5, hb5⟩
            clear hp5 hb5 own5 kb5 hll hd HST HGO
            go_wp2_with fail
            go_ret
            exact ⟨ret_bool (by rw [HV.out] <;> simp <;> omega), HE.out⟩
          · have HV : Hid (downAll l i n = downAll (swapP L k j2) j2 n) := HGO.out j2 HCC.out hll
            have c0 := at_cell kb5 0
            have hm := meth_Swap b _ _ _ w5 c0
            clear hll HST HGO
            go_wp2_with (go_at_call 94; refine (implSwap_any base _ L k j2 _ own5 (by omega) (by omega)).mono ?_)
            rintro e w6 ⟨rfl, own6, u6⟩
            obtain ⟨hp6, b6⟩ := Hp.swap hlo kb5 own5 hSg.out (by omega) own6 u6
            have hb6 := hb5.trans b6
            have HE : Hid _ := And.intro hp6 hb6
            have hsl : (swapP L k j2).length = l.length := by rw [swapP_len]; omega
            have HSL : Hid _ := hsl
            clear hm c0 kb5 own5 own6 u6 hp6 b6 hb6 hb5 hp5 hsl
            go_wp2_with fail
            go_roundw
            case rel => exact ⟨j2, swapP L k j2, by omega, HSL.out, rfl, HV.out, HE.out.1, HE.out.2⟩
            case measure => simp [intOf]; omega
      · have h2' : (n : Int) ≤ (j2 : Int) := by omega
        have HCC : Hid (childP L k n = j1) := by rw [Hid, HC.out, if_neg (fun q => h2 q.1)]
        have hp1 := hp
        have hb1 := hb
        have own1 := own
        have kb1 := HKB.out
        clear hj2 hm c0 hp hb own HKB HC
        have c0 := at_cell kb1 0
        have hm := meth_Less b _ _ _ wr c0
        go_wp2_with (go_at_call 93; refine (implLess_any base _ L j1 k _ own1 (by omega) (by omega)).mono ?_)
        rintro e w5 ⟨rfl, b5⟩
        have hp5 := hp1.below b5
        have hb5 := hb1.below b5
        have own5 := owns_below own1 b5
        have kb5 := (b5.block b (heap_lt kb1)).trans kb1
        have hlt5 := heap_lt kb5
        clear own1 hp1 hb1 hm c0 b5 kb1
        cases hll : lessP L j1 k
        · have hd : downAll l i n = (L, k) := HST.out j1 HCC.out hll
          have HV : Hid (decide (i < (downAll l i n).2) = decide ((i : Int) < (k : Int))) := by rw [Hid, hd]; simp
          have HE : Hid (Hp S base w5 b (downAll l i n).1 ∧ Only S w w5) := by rw [Hid, hd]; exact ⟨hp5, hb5⟩
          clear hp5 hb5 own5 kb5 hll hd HST HGO
          go_wp2_with fail
          go_ret
          exact ⟨ret_bool (by rw [HV.out] <;> simp <;> omega), HE.out⟩
        · have HV : Hid (downAll l i n = downAll (swapP L k j1) j1 n) := HGO.out j1 HCC.out hll
          have c0 := at_cell kb5 0
          have hm := meth_Swap b _ _ _ w5 c0
          clear hll HST HGO
          go_wp2_with (go_at_call 94; refine (implSwap_any base _ L k j1 _ own5 (by omega) (by omega)).mono ?_)
          rintro e w6 ⟨rfl, own6, u6⟩
          obtain ⟨hp6, b6⟩ := Hp.swap hlo kb5 own5 hSg.out (by omega) own6 u6
          have hb6 := hb5.trans b6
          have HE : Hid _ := And.intro hp6 hb6
          have hsl : (swapP L k j1).length = l.length := by rw [swapP_len]; omega
          have HSL : Hid _ := hsl
          clear hm c0 kb5 own5 own6 u6 hp6 b6 hb6 hb5 hp5 hsl
          go_wp2_with fail
          go_roundw
          case rel => exact ⟨j1, swapP L k j1, by omega, HSL.out, rfl, HV.out, HE.out.1, HE.out.2⟩
          case measure => simp [intOf]; omega

end Go.Proofs.Ytijmmenkcemggaa
