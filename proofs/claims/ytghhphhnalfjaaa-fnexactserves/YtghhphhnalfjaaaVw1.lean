/-
  Chapter 14: the specification's ViewOk, l14At, l14Member, HeadOf, TailOf, NextOf, PrevOf, at every argument.
-/
import Derived.Test.YtghhphhnalfjaaaVwM
import Derived.Test.YtghhphhnalfjaaaPool2
import Derived.Test.YtghhphhnalfjaaaRows2
import Derived.BigQuiet
namespace Go.Proofs.Ytghhphhnalfjaaa
open Go.RowKit Nums
set_option linter.unusedVariables false
set_option maxRecDepth 100000

/-- The cells of a row of numbers. -/
def CellsI (base : Nat) (w : World) (o : Option Addr) (ms : List Int) : Prop := ∀ (j : Nat) (hj : j < ms.length), ∃ g off, o = some ⟨g, off, none⟩ ∧ g < base ∧ w.cell? ⟨g, off + j, none⟩ = some (.int .i64 ms[j])
theorem cellsI_of {base : Nat} {w : World} {o : Option Addr} {ms : List Int} (h : ∀ j u, (ms.map (Value.int .i64))[j]? = some u → ∃ g off, o = some ⟨g, off, none⟩ ∧ g < base ∧ w.cell? ⟨g, off + j, none⟩ = some u) : CellsI base w o ms := fun j hj => h j _ (by simp [hj])

theorem not_viewOk_bad {n : Int} {ms : List Int} (k : Nat) (hk : k < ms.length) (h : ¬ (0 ≤ ms[k] ∧ ms[k] ≤ 3)) : viewOk n ms = false := by
  cases q : viewOk n ms
  · rfl
  · exact absurd ((viewOk_parts q).1 _ (List.getElem_mem hk)) h
theorem not_viewOk_twice {n : Int} {ms : List Int} (k : Nat) (hk : k < ms.length) (j : Nat) (hj : j < k) (h : ms[j] = ms[k]) : viewOk n ms = false := by
  cases q : viewOk n ms
  · rfl
  · have hn := (viewOk_parts q).2.1
    have e1 := vAt_own hn k hk
    have e2 := vAt_own hn j (by omega)
    rw [h, e1] at e2
    omega
/-- The members before the k-th are right, and no two are alike. -/
def upTo (ms : List Int) (k : Nat) : Prop := (∀ m ∈ ms.take k, 0 ≤ m ∧ m ≤ 3) ∧ (ms.take k).Nodup
theorem upTo_step {ms : List Int} {k : Nat} (hk : k < ms.length) (h : upTo ms k) (h1 : 0 ≤ ms[k] ∧ ms[k] ≤ 3) (h2 : ms[k] ∉ ms.take k) : upTo ms (k + 1) := by
  rw [upTo, List.take_succ_eq_append_getElem hk]
  refine ⟨fun m hm => ?_, List.nodup_append.2 ⟨h.2, by simp, fun a ha b hb => ?_⟩⟩
  · rcases List.mem_append.1 hm with hm | hm
    · exact h.1 m hm
    · simp only [List.mem_singleton] at hm; rw [hm]; exact h1
  · simp only [List.mem_singleton] at hb
    rw [hb]
    exact fun e => h2 (by rw [← e]; exact ha)
theorem viewOk_end {n : Int} {ms : List Int} {k : Nat} (hk : ¬ k < ms.length) (h : upTo ms k) : viewOk n ms = (inB n 1 1000 && inB (ms.length : Int) 1 4) := by
  rw [upTo, List.take_of_length_le (by omega)] at h
  have h1 : (ms.all fun m => inB m 0 3) = true := List.all_eq_true.2 fun m hm => (inB_iff _ _ _).2 (h.1 m hm)
  rw [viewOk, h1, decide_eq_true h.2]
  rfl

set_option maxHeartbeats 3200000 in
theorem specViewOk_any (n : Int) (v : Value) (ms : List Int) (w : World) (r : Reads w.heap.size w v (ms.map (Value.int .i64))) :
    Calls Try.prog 63 #[.agg #[.int .i64 n, v]] w fun e w' => e = .returned (.bool (viewOk n ms)) ∧ Below w.heap.size w w' := by
  obtain ⟨o1, cap1, rfl, m1, c1, -⟩ := r
  simp only [List.length_map] at m1 ⊢
  obtain ⟨W0, hW0, k0, d0, z0⟩ := box1 w #[.int .i64 n, .slice o1 ms.length cap1] 59
  have C1 : Hid (CellsI w.heap.size W0 o1 ms) := fun j hj => by
    obtain ⟨g, off, e, hg, hx⟩ := cellsI_of c1 j hj
    exact ⟨g, off, e, hg, (d0.cell (p := ⟨g, off + j, none⟩) hg).trans hx⟩
  have HW0 : Hid (W0 = _) := hW0
  unfold maxLen at m1
  clear hW0 c1
  go_enter Try.func63, Try.ntmps63
  go_wp2_with fail
  rw [← HW0.out]
  clear HW0
  go_loopw [3] (fun i wr => ∃ k : Nat, k ≤ ms.length ∧ i = .int .i64 k ∧ upTo ms k ∧ Below W0.heap.size W0 wr) (fun i _ => ms.length - (intOf i).toNat)
  case atStart => exact ⟨0, Nat.zero_le _, rfl, ⟨by simp, by simp⟩, Below.refl _ _⟩
  case round =>
    obtain ⟨k, hk, rfl, hu, hb⟩ := hrel
    rename World => wo
    have K0 := (hb.block _ (by omega)).trans k0
    have p0 := at_cell K0 0
    have p1 := at_cell K0 1
    have HU : Hid (upTo ms k) := hu
    have D0 : Below w.heap.size w wo := bw_call d0 hb
    clear hu
    by_cases hlt : k < ms.length
    · obtain ⟨g1, of1, rfl, q1, cc1⟩ := C1.out k hlt
      replace cc1 := (hb.cell (p := ⟨g1, of1 + k, none⟩) (show g1 < W0.heap.size by omega)).trans cc1
      generalize hx : ms[k] = x at cc1
      have HX : Hid (ms[k] = x) := hx
      clear hx K0
      go_wp2_with fail
      refine (l1In_any x 0 3 _).mono ?_
      rintro e w' ⟨rfl, rfl⟩
      cases h1 : (decide (0 ≤ x) && decide (x ≤ 3))
      · have HV : Hid (viewOk n ms = false) := not_viewOk_bad k hlt (by rw [HX.out]; intro q; simp [q.1, q.2] at h1)
        clear h1
        go_wp2_with fail
        go_ret
        exact ⟨ret_bool HV.out.symm, D0⟩
      · have hin : 0 ≤ ms[k] ∧ ms[k] ≤ 3 := by rw [HX.out]; simpa using h1
        have HI : Hid _ := hin
        clear h1 hin
        go_wp2_with fail
        go_loopw [4] (fun i wr => ∃ j : Nat, j ≤ k ∧ i = .int .i64 j ∧ x ∉ ms.take j ∧ Below W0.heap.size W0 wr) (fun i _ => k - (intOf i).toNat)
        case atStart => exact ⟨0, Nat.zero_le _, rfl, by simp, hb⟩
        case round =>
          clear p0 p1 cc1
          obtain ⟨j, hj, rfl, hno, hb2⟩ := hrel
          have HN : Hid _ := hno
          have K2 := (hb2.block _ (by omega)).trans k0
          have p1 := at_cell K2 1
          have D2 : Below w.heap.size w wr := bw_call d0 hb2
          clear hno K2
          by_cases hjk : j < k
          · obtain ⟨g1', of1', e1, q1', cc1⟩ := C1.out k hlt
            cases e1
            obtain ⟨g2, of2, e2, q2, cc2⟩ := C1.out j (by omega)
            cases e2
            rw [HX.out] at cc1
            replace cc1 := (hb2.cell (p := ⟨g1, of1 + k, none⟩) (show g1 < W0.heap.size by omega)).trans cc1
            replace cc2 := (hb2.cell (p := ⟨g1, of1 + j, none⟩) (show g1 < W0.heap.size by omega)).trans cc2
            generalize hy : ms[j] = y at cc2
            have HY : Hid _ := hy
            have hjl : j < ms.length := by omega
            clear hy
            go_wp2_with fail
            go_quiet (fail)
            by_cases hxy : y = x
            · have HV : Hid (viewOk n ms = false) := not_viewOk_twice k hlt j hjk (by rw [HX.out, HY.out, hxy])
              subst hxy
              go_wp2_with fail
              go_ret
              exact ⟨ret_bool HV.out.symm, ⟨D2.os, D2.tape, D2.output, D2.size, D2.block⟩⟩
            · have hbq : (y == x) = false := by simpa using hxy
              have HN2 : Hid (x ∉ ms.take (j + 1)) := by
                rw [Hid, List.take_succ_eq_append_getElem hjl, HY.out]
                intro q
                rcases List.mem_append.1 q with q | q
                · exact HN.out q
                · simp only [List.mem_singleton] at q; exact hxy q.symm
              go_wp2_with fail
              go_roundw
              case rel => exact ⟨j + 1, by omega, by go_num, HN2.out, ⟨hb2.os, hb2.tape, hb2.output, hb2.size, hb2.block⟩⟩
              case measure => simp [intOf]; omega
          · have HN2 : Hid (upTo ms (k + 1)) := upTo_step hlt HU.out HI.out (by rw [HX.out, show k = j by omega]; exact HN.out)
            go_wp2_with fail
            go_roundw
            case rel => exact ⟨k + 1, by omega, by go_num, HN2.out, hb2⟩
            case measure => simp [intOf]; omega
    · have HV : Hid _ := viewOk_end (n := n) hlt HU.out
      clear K0 C1
      go_wp2_with fail
      refine (l1In_any n 1 1000 _).mono ?_
      rintro e w' ⟨rfl, rfl⟩
      cases h1 : (decide (1 ≤ n) && decide (n ≤ 1000))
      · have HW : Hid (viewOk n ms = false) := by rw [Hid, HV.out, inB, h1]; rfl
        clear h1
        go_wp2_with fail
        go_ret
        exact ⟨ret_bool HW.out.symm, D0⟩
      · have HW : Hid (viewOk n ms = inB (ms.length : Int) 1 4) := by rw [Hid, HV.out, inB, h1]; rfl
        clear h1
        go_wp2_with fail
        refine (l1In_any (ms.length : Int) 1 4 _).mono ?_
        rintro e w' ⟨rfl, rfl⟩
        go_wp2_with fail
        go_ret
        exact ⟨ret_bool (by rw [HW.out, inB]), D0⟩

end Go.Proofs.Ytghhphhnalfjaaa
