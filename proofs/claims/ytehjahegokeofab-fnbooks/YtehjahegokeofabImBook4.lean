/-
  Chapter 6: the program's FindBook by its closure, at every argument.
-/
import Derived.Test.YtehjahegokeofabBook2
namespace Go.Proofs.Ytehjahegokeofab
open Go.RowKit
set_option linter.unusedVariables false

theorem hasName_in (nm : ByteArray) (sz : Int) (m : Value) (fx : Bool) (ep : Int) (n : ByteArray) (c : Nat) (w : World) (hm : ∃ o k cap, m = .slice o k cap) (hc : c < w.heap.size) (hn : w.cell? ⟨c, 0, none⟩ = some (.string n)) :
    Calls Try.prog 90 #[.agg #[.string nm, .int .i64 sz, m, .bool fx, .int .i64 ep], .pointer (some ⟨c, 0, none⟩)] w fun e w' => e = .returned (.bool (decide (nm = n))) ∧ Below w.heap.size w w' := by
  obtain ⟨o, k, cap, rfl⟩ := hm
  obtain ⟨W0, hW0, k0, d0, z0⟩ := box1 w #[.string nm, .int .i64 sz, .slice o k cap, .bool fx, .int .i64 ep] 50
  have HW0 : Hid (W0 = _) := hW0
  have p0 := at_cell k0 0
  have c0 := (d0.cell (p := ⟨c, 0, none⟩) hc).trans hn
  rw [hW0] at p0 c0
  have hq := text_eq nm n
  clear hW0 k0
  go_enter Try.func90, Try.ntmps90
  go_wp2_with fail
  go_ret
  exact ⟨rfl, by rw [← HW0.out]; exact d0⟩

set_option maxHeartbeats 1600000 in
theorem indexBook_any (v : Value) (bs : List Bk) (n : ByteArray) (c : Nat) (w : World) (hms : ∀ b ∈ bs, ∃ o k cap, b.m = .slice o k cap) (r : ReadsR 5 bookC w.heap.size w v bs) (hc : c < w.heap.size) (hn : w.cell? ⟨c, 0, none⟩ = some (.string n)) :
    Calls Try.prog 75 #[v, .func (.func 90) #[] #[.pointer (some ⟨c, 0, none⟩)]] w fun e w' => e = .returned (.int .i64 (findB bs n)) ∧ Below w.heap.size w w' := by
  obtain ⟨o, cap, rfl, hm, hcs, -⟩ := r
  have HC : Hid _ := hcs
  have HM : Hid _ := hms
  unfold maxLen at hm
  clear hcs hms
  go_enter Try.func75, Try.ntmps75
  go_wp2_with fail
  go_loopw [8] (fun i wr => ∃ k : Nat, k ≤ bs.length ∧ i = .int .i64 k ∧ findB bs n = findFrom n ((bs.map Bk.nm).drop k) k ∧ Below w.heap.size w wr) (fun i _ => bs.length - (intOf i).toNat)
  case atStart => exact ⟨0, Nat.zero_le _, rfl, rfl, Below.refl _ _⟩
  case round =>
    obtain ⟨k, hk, rfl, hf, hb⟩ := hrel
    by_cases hlt : k < bs.length
    · obtain ⟨g, off, rfl, hg, hx⟩ := HC.out k bs[k] (List.getElem?_eq_getElem hlt)
      rw [find_at bs n k hlt] at hf
      have HF : Hid _ := hf
      have a0 := (hb.cell (p := ⟨g, off + k * 5, none⟩) hg).trans (hx 0 _ rfl)
      have a1 := (hb.cell (p := ⟨g, off + k * 5 + 1, none⟩) hg).trans (hx 1 _ rfl)
      have a2 := (hb.cell (p := ⟨g, off + k * 5 + 2, none⟩) hg).trans (hx 2 _ rfl)
      have a3 := (hb.cell (p := ⟨g, off + k * 5 + 3, none⟩) hg).trans (hx 3 _ rfl)
      have a4 := (hb.cell (p := ⟨g, off + k * 5 + 4, none⟩) hg).trans (hx 4 _ rfl)
      have hsl := HM.out bs[k] (List.getElem_mem hlt)
      have cn := (hb.cell (p := ⟨c, 0, none⟩) hc).trans hn
      have hcl := Nat.lt_of_lt_of_le hc hb.size
      clear hf HC HM hx
      generalize bs[k] = x at a0 a1 a2 a3 a4 HF hsl
      obtain ⟨nm, sz, m, rs, fx, ep⟩ := x
      simp only at a0 a1 a2 a3 a4 HF hsl
      obtain ⟨o', k', cap', rfl⟩ := hsl
      go_wp2_with (go_at_call 90; refine (hasName_in nm sz _ fx ep n c _ ⟨_, _, _, rfl⟩ hcl cn).mono ?_)
      rintro e w1 ⟨rfl, b1⟩
      replace hb := bw_call hb b1
      clear a0 a1 a2 a3 a4 b1 cn hcl
      by_cases hx : nm = n
      · have HV : Hid (findB bs n = k) := by have := HF.out; rwa [if_pos hx] at this
        rw [decide_eq_true hx]
        clear HF hx
        go_wp2_with fail
        go_ret
        exact ⟨ret_int HV.out.symm, hb⟩
      · have HV : Hid (findB bs n = findFrom n ((bs.map Bk.nm).drop (k + 1)) (k + 1)) := by have := HF.out; rwa [if_neg hx] at this
        rw [decide_eq_false hx]
        clear HF hx
        go_wp2_with fail
        go_roundw
        case rel => exact ⟨k + 1, by omega, by go_num, HV.out, hb⟩
        case measure => simp [intOf]; omega
    · rw [find_end bs n k hlt] at hf
      have HF : Hid _ := hf
      clear hf HC
      go_wp2_with fail
      go_ret
      exact ⟨ret_int HF.out.symm, hb⟩

theorem hasName_any (n : ByteArray) (w : World) :
    Calls Try.prog 76 #[.string n] w fun e w' => e = .returned (.func (.func 90) #[] #[.pointer (some ⟨w.heap.size, 0, none⟩)]) ∧ w' = w.alloc (.cells #[.string n] 9) := by
  have hmf : ∀ (fn : Fn) (first cap : Array Value) (w : World), (Instr.makeFunc fn first cap).run Try.prog w = .ok (.func fn first cap) w := fun _ _ _ _ => rfl
  go_enter Try.func76, Try.ntmps76
  go_wp2_with fail
  go_ret
  exact ⟨rfl, rfl⟩

theorem implFindBook_any (v : Value) (bs : List Bk) (n : ByteArray) (w : World) (hms : ∀ b ∈ bs, ∃ o k cap, b.m = .slice o k cap) (r : ReadsR 5 bookC w.heap.size w v bs) :
    Calls Try.prog 37 #[v, .string n] w fun e w' => e = .returned (.int .i64 (findB bs n)) ∧ Below w.heap.size w w' := by
  obtain ⟨W0, hW0, k0, d0, z0⟩ := box1 w #[.string n] 9
  have r0 := (r.below d0).mono d0.size
  have p0 := at_cell k0 0
  have hlt := heap_lt k0
  have HM : Hid _ := hms
  clear k0 r hms
  go_enter Try.func37, Try.ntmps37
  go_wp2_with fail
  refine (hasName_any n _).mono ?_
  rintro e w1 ⟨rfl, h1⟩
  rw [← hW0] at h1
  subst h1
  clear hW0
  go_wp2_with fail
  refine (indexBook_any v bs n _ _ HM.out r0 hlt p0).mono ?_
  rintro e w2 ⟨rfl, b2⟩
  go_wp2_with fail
  go_ret
  exact ⟨rfl, bw_call d0 b2⟩

end Go.Proofs.Ytehjahegokeofab
