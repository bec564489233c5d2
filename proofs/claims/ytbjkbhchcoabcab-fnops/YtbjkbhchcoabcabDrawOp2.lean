/-
  Chapter 7's draws for the laws: DrawShowOp, DrawReadOp.
-/
import Derived.Test.YtbjkbhchcoabcabDrawOp
import Derived.Test.YtbjkbhchcoabcabOp2
import Derived.Test.YtbjkbhchcoabcabBend
namespace Go.Proofs.Ytbjkbhchcoabcab
open Go.RowKit
set_option linter.unusedVariables false
set_option maxRecDepth 100000

theorem drawOpOk_any (x : Option Addr) (len cap : Nat) (w : World) (hs : Src w w.heap.size x len) :
    Calls Try.prog 92 #[.slice x len cap] w fun e w' => ∃ o : Oq, e = .returned (.agg #[.int .i64 o.k, .string o.nm, .string o.ot, .int .i64 o.at_, .int .i64 o.va, .int .i64 o.ep]) ∧ OpFit o ∧ Below w.heap.size w w' := by
  obtain ⟨W0, hW0, kR, d0, z0⟩ := box1 w #[.int .i64 0, .string ⟨#[]⟩, .string ⟨#[]⟩, .int .i64 0, .int .i64 0, .int .i64 0] 62
  have HW0 : Hid (W0 = _) := hW0
  have hs0 := (hs.below d0).mono d0.size
  have sR : w.heap.size < W0.heap.size := by omega
  clear hW0 z0 hs
  go_enter Try.func92, Try.ntmps92
  go_wp2_with fail
  rw [← HW0.out]
  clear HW0
  refine (new_any x len cap _ hs0).mono ?_
  rintro e w1 ⟨rfl, b1, kc⟩
  replace kR := (b1.block _ sR).trans kR
  replace d0 := bw_call d0 b1
  have z1 := b1.size
  go_wp2_with fail
  refine (draw7Any_any _ x len cap _ kc).mono ?_
  rintro e w2 ⟨o, rfl, fit, u1, k2⟩
  obtain ⟨k, nm, ot, at_, va, ep⟩ := o
  replace kR := (u1.block _ (Nat.lt_of_lt_of_le sR z1) (Nat.ne_of_lt sR)).trans kR
  replace d0 := d0.trans (u1.toBelow (by omega) (by omega))
  have q0 := at_cell kR 0
  have q1 := at_cell kR 1
  have q2 := at_cell kR 2
  have q3 := at_cell kR 3
  have q4 := at_cell kR 4
  have q5 := at_cell kR 5
  have g0 := at_open kR 0
  have g1 := at_open kR 1
  have g2 := at_open kR 2
  have g3 := at_open kR 3
  have g4 := at_open kR 4
  have g5 := at_open kR 5
  have HS : Hid _ := And.intro (set_six kR (.int .i64 k) (.string nm) (.string ot) (.int .i64 at_) (.int .i64 va) (.int .i64 ep)) (bw_six d0 (Nat.le_refl _) (.int .i64 k) (.string nm) (.string ot) (.int .i64 at_) (.int .i64 va) (.int .i64 ep))
  have HF : Hid _ := fit
  clear kR d0 u1 k2 kc b1 fit hs0
  simp only
  go_wp2_with fail
  exact bodyPost_ret (v := .agg #[.int .i64 k, .string nm, .string ot, .int .i64 at_, .int .i64 va, .int .i64 ep]) (by simp [results, Try.results92, go_sem, at_cell HS.out.1]) rfl ⟨⟨k, nm, ot, at_, va, ep⟩, rfl, HF.out, HS.out.2⟩

theorem drawShowOp_any (x : Option Addr) (len cap : Nat) (w : World) (hs : Src w w.heap.size x len) :
    Calls Try.prog 46 #[.slice x len cap] w fun e w' => ∃ o : Oq, e = .returned (.agg #[.int .i64 o.k, .string o.nm, .string o.ot, .int .i64 o.at_, .int .i64 o.va, .int .i64 o.ep]) ∧ OpFit o ∧ Below w.heap.size w w' := by
  obtain ⟨W0, hW0, kR, d0, z0⟩ := box1 w #[.int .i64 0, .string ⟨#[]⟩, .string ⟨#[]⟩, .int .i64 0, .int .i64 0, .int .i64 0] 62
  have HW0 : Hid (W0 = _) := hW0
  have hs0 := (hs.below d0).mono d0.size
  have sR : w.heap.size < W0.heap.size := by omega
  clear hW0 z0 hs
  go_enter Try.func46, Try.ntmps46
  go_wp2_with fail
  rw [← HW0.out]
  clear HW0
  refine (drawOpOk_any x len cap _ hs0).mono ?_
  rintro e w2 ⟨o, rfl, fit, b1⟩
  obtain ⟨k, nm, ot, at_, va, ep⟩ := o
  replace kR := (b1.block _ sR).trans kR
  replace d0 := bw_call d0 b1
  have q0 := at_cell kR 0
  have q1 := at_cell kR 1
  have q2 := at_cell kR 2
  have q3 := at_cell kR 3
  have q4 := at_cell kR 4
  have q5 := at_cell kR 5
  have g0 := at_open kR 0
  have g1 := at_open kR 1
  have g2 := at_open kR 2
  have g3 := at_open kR 3
  have g4 := at_open kR 4
  have g5 := at_open kR 5
  have HS : Hid _ := And.intro (set_six kR (.int .i64 k) (.string nm) (.string ot) (.int .i64 at_) (.int .i64 va) (.int .i64 ep)) (bw_six d0 (Nat.le_refl _) (.int .i64 k) (.string nm) (.string ot) (.int .i64 at_) (.int .i64 va) (.int .i64 ep))
  have HF : Hid _ := fit
  clear kR d0 b1 fit hs0
  simp only
  go_wp2_with fail
  exact bodyPost_ret (v := .agg #[.int .i64 k, .string nm, .string ot, .int .i64 at_, .int .i64 va, .int .i64 ep]) (by simp [results, Try.results46, go_sem, at_cell HS.out.1]) rfl ⟨⟨k, nm, ot, at_, va, ep⟩, rfl, HF.out, HS.out.2⟩

theorem OpFit.nl {o : Oq} (h : OpFit o) : o.nm.size ≤ maxLen := by have := h.nm; unfold maxLen; omega
theorem OpFit.ol {o : Oq} (h : OpFit o) : o.ot.size ≤ maxLen := by have := h.ot; unfold maxLen; omega

theorem drawReadOp_any (x : Option Addr) (len cap : Nat) (w : World) (hs : Src w w.heap.size x len) :
    Calls Try.prog 48 #[.slice x len cap] w fun e w' => ∃ s : ByteArray, e = .returned (.string s) ∧ s.size ≤ 18 ∧ Below w.heap.size w w' := by
  go_enter Try.func48, Try.ntmps48
  go_wp2_with fail
  refine (new_any x len cap _ hs).mono ?_
  rintro e w1 ⟨rfl, b1, kc⟩
  go_wp2_with fail
  refine (draw7Any_any _ x len cap _ kc).mono ?_
  rintro e w2 ⟨o, rfl, fit, u1, k2⟩
  have h1 := fit.nl
  have h2 := fit.ol
  have hz := showOp_size o
  obtain ⟨k, nm, ot, at_, va, ep⟩ := o
  simp only at h1 h2 ⊢
  clear fit kc
  go_wp2_with fail
  refine (specShowOp_any k nm ot at_ va ep _ h1 h2).mono ?_
  rintro e w3 ⟨rfl, b3⟩
  generalize showOp ⟨k, nm, ot, at_, va, ep⟩ = t at hz ⊢
  replace u1 := u1.below b3
  have k3 := k2.below b3
  clear k2 b3
  go_wp2_with fail
  refine (once_any _ x len cap 2 _ (by omega) k3).mono ?_
  rintro e w4 ⟨y, rfl, u4, k4⟩
  replace u1 := u1.trans u4
  clear u4 k3
  cases y
  · have d := b1.trans (u1.toBelow b1.size (Nat.le_refl _))
    go_wp2_with fail
    go_ret
    exact ⟨t, rfl, by omega, d⟩
  · go_wp2_with fail
    refine (bend_any _ x len cap t _ _ (by omega) (by decide) (by decide) k4).mono ?_
    rintro e w5 ⟨r, rfl, hr, u5, k5⟩
    have d := b1.trans ((u1.trans u5).toBelow b1.size (Nat.le_refl _))
    go_wp2_with fail
    go_ret
    exact ⟨r, rfl, by omega, d⟩

end Go.Proofs.Ytbjkbhchcoabcab
