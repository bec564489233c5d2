/-
  Chapter 14: container/heap's up and down over the line's box.
-/
import Derived.Test.YtghhphhnalfjaaaImHp2
namespace Go.Proofs.Ytghhphhnalfjaaa
open Go.RowKit
set_option linter.unusedVariables false
set_option maxRecDepth 100000

/-- A box that holds a line of one's own; the box and the row's block are among those of S. -/
structure Hp (S : Nat → Prop) (base : Nat) (w : World) (b : Nat) (l : List Mb) : Prop where
  inS : S b
  box : ∃ v, w.heap[b]? = some (.cells #[v] 126 (0, 0)) ∧ OwnM base w v l ∧ (∀ g, v.ownBlock = some g → S g)
theorem Hp.lt {S : Nat → Prop} {base : Nat} {w : World} {b : Nat} {l : List Mb} (h : Hp S base w b l) : b < w.heap.size := by
  obtain ⟨v, k, -⟩ := h.box
  exact heap_lt k
theorem Hp.below {S : Nat → Prop} {base : Nat} {w w' : World} {b : Nat} {l : List Mb} (h : Hp S base w b l) (k : Below w.heap.size w w') : Hp S base w' b l := by
  obtain ⟨v, k1, k2, k3⟩ := h.box
  exact ⟨h.inS, v, (k.block b (heap_lt k1)).trans k1, owns_below k2 k, k3⟩
theorem Hp.small {S : Nat → Prop} {base : Nat} {w : World} {b : Nat} {l : List Mb} (h : Hp S base w b l) : l.length ≤ 9223372036854775807 := by
  obtain ⟨v, -, ⟨h1, h2⟩, -⟩ := h.box
  rcases h2 with ⟨-, h2⟩ | ⟨g, cap, cur, -, -, -, hc, hm, -⟩
  · omega
  · unfold maxLen at hm; omega
theorem only_upto {S : Nat → Prop} {g : Nat} {w w' : World} (u : Upto g w w') (h : S g) : Only S w w' := ⟨u.os, u.tape, u.output, u.size, fun k hk hn => u.block k hk (fun e => hn (by rw [e]; exact h))⟩
/-- Two of the line are changed for one another. -/
theorem Hp.swap {S : Nat → Prop} {base : Nat} {w w' : World} {b : Nat} {l L : List Mb} {v : Value} (lo : S b) (k : w.heap[b]? = some (.cells #[v] 126 (0, 0))) (own : OwnM base w v l) (hS : ∀ g, v.ownBlock = some g → S g) (hl : 0 < l.length) (own' : OwnM base w' v L) (u : ∀ g, v.ownBlock = some g → Upto g w w') : Hp S base w' b L ∧ Only S w w' := by
  obtain ⟨g, cap, rfl⟩ := own_form own hl
  have hne := own_not_box own k (by decide)
  have hu := u g rfl
  exact ⟨⟨lo, _, (hu.block b (heap_lt k) (fun e => hne (by rw [e]; rfl))).trans k, own', hS⟩, only_upto hu (hS g rfl)⟩

theorem half_of (k : Nat) : ((k : Int) - 1).tdiv 2 = (((k - 1) / 2 : Nat) : Int) := by
  cases k with
  | zero => rfl
  | succ k =>
    rw [show (((k + 1 : Nat) : Int) - 1) = ((k : Nat) : Int) by omega, Nat.add_sub_cancel]
    rfl

set_option maxHeartbeats 1600000 in
theorem heapUp_any (S : Nat → Prop) (base b : Nat) (l : List Mb) (j : Nat) (w : World) (h : Hp S base w b l) (hj : j < l.length) :
    Calls Try.prog 105 #[.iface 135 (.pointer (some ⟨b, 0, none⟩)), .int .i64 (j : Int)] w fun e w' => e = .returned (.tuple #[]) ∧ Hp S base w' b (upP (j + 1) l j) ∧ Only S w w' := by
  have hs := h.small
  go_enter Try.func105, Try.ntmps105
  go_wp2_with fail
  go_loopw [1] (fun i wr => ∃ (k : Nat) (L : List Mb), k < l.length ∧ L.length = l.length ∧ i = .int .i64 k ∧ upP (j + 1) l j = upP (k + 1) L k ∧ Hp S base wr b L ∧ Only S w wr) (fun i _ => (intOf i).toNat)
  case atStart => exact ⟨j, l, hj, rfl, rfl, rfl, h, Only.refl _ _⟩
  case round =>
    obtain ⟨k, L, hk, hL0, rfl, hf, hp, hb⟩ := hrel
    have hL : L.length ≤ l.length := by omega
    have hL' : l.length ≤ L.length := by omega
    clear hL0
    have HF : Hid _ := hf
    have hlo := hp.inS
    have hlt := hp.lt
    have hw1 : IntKind.i64.wrap ((k : Int) - 1) = (k : Int) - 1 := by rw [IntKind.wrap_i64]; omega
    have hq := half_of k
    obtain ⟨p, hpq⟩ : ∃ p, (k - 1) / 2 = p := ⟨_, rfl⟩
    rw [hpq] at hq
    have hpk1 : p ≤ k := by omega
    have hw2 : IntKind.i64.wrap (p : Int) = p := by rw [IntKind.wrap_i64]; omega
    by_cases hpk : p = k
    · have hbe : ((p : Int) == (k : Int)) = true := by rw [hpk]; simp
      have HV : Hid (upP (j + 1) l j = L) := by rw [Hid, HF.out, upP_stop L k (.inl (by rw [hpq, hpk]))]
      have HE : Hid _ := And.intro hp hb
      clear hpq hpk hf h hp hb
      go_wp2_with fail
      exact bodyPost_end (results_none rfl _ _ _) rfl ⟨rfl, by rw [HV.out]; exact HE.out.1, HE.out.2⟩
    · have hbe : ((p : Int) == (k : Int)) = false := by rw [beq_eq_false_iff_ne]; omega
      have hplt : p < k := by omega
      obtain ⟨v, kb, own, hSg0⟩ := hp.box
      have hSg : Hid _ := hSg0
      clear hSg0
      obtain ⟨g, cap, rfl⟩ := own_form own (by omega)
      have c0 := at_cell kb 0
      have hm := meth_Less b _ _ _ wr c0
      have HKB : Hid (wr.heap[b]? = some _) := kb
      have HG : Hid (upP (k + 1) L k = if lessP L k p = true then upP (p + 1) (swapP L p k) p else L) := by
        by_cases hl : lessP L k p = true
        · rw [Hid, if_pos hl, upP_go L k (by rw [hpq]; exact hpk) (by rw [hpq]; exact hl), hpq]
        · rw [Hid, if_neg hl, upP_stop L k (.inr (by rw [hpq]; simpa using hl))]
      clear hpq hf h kb
      go_wp2_with (go_at_call 124; refine (implLess_any base _ L k p _ own (by omega) (by omega)).mono ?_)
      rintro e w1 ⟨rfl, b1⟩
      have hp1 := hp.below b1
      have hb1 := hb.below b1
      have own1 := owns_below own b1
      have kb1 := (b1.block b hlt).trans HKB.out
      have hlt1 := heap_lt kb1
      clear own hp hb hm c0 HKB b1
      cases hl : lessP L k p
      · have HV : Hid (upP (j + 1) l j = L) := by rw [Hid, HF.out, HG.out, hl]; rfl
        have HE : Hid _ := And.intro hp1 hb1
        clear hp1 hb1 own1 kb1 hl HG HF
        go_wp2_with fail
        exact bodyPost_end (results_none rfl _ _ _) rfl ⟨rfl, by rw [HV.out]; exact HE.out.1, HE.out.2⟩
      · have HV : Hid (upP (j + 1) l j = upP (p + 1) (swapP L p k) p) := by rw [Hid, HF.out, HG.out, hl]; rfl
        have c0 := at_cell kb1 0
        have hm := meth_Swap b _ _ _ w1 c0
        clear hl HG HF
        go_wp2_with (go_at_call 125; refine (implSwap_any base _ L p k _ own1 (by omega) (by omega)).mono ?_)
        rintro e w2 ⟨rfl, own2, u2⟩
        obtain ⟨hp2, b2⟩ := Hp.swap hlo kb1 own1 hSg.out (by omega) own2 u2
        have hb2 := hb1.trans b2
        have HE : Hid _ := And.intro hp2 hb2
        have hsl := swapP_len L p k
        clear hm c0 kb1 own1 own2 u2 hp2 b2 hb2 hb1 hp1
        go_wp2_with fail
        go_roundw
        case rel => exact ⟨p, swapP L p k, by omega, by omega, rfl, HV.out, HE.out.1, HE.out.2⟩
        case measure => simp [intOf]; omega

end Go.Proofs.Ytghhphhnalfjaaa
