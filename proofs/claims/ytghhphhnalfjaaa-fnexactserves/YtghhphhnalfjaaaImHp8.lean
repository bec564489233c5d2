/-
  Chapter 14: the line's indexOf; lineOf.
-/
import Derived.Test.YtghhphhnalfjaaaImHp7
namespace Go.Proofs.Ytghhphhnalfjaaa
open Go.RowKit
set_option linter.unusedVariables false
set_option maxRecDepth 100000

theorem line_new {W : World} {m : Nat} (z : W.heap.size = m) : Hp (fun k => m ≤ k) m ((W.alloc (.cells #[] 137)).alloc (.cells #[.slice (some ⟨m, 0, none⟩) 0 0] 126)) (m + 1) [] ∧ Only (fun k => m ≤ k) W ((W.alloc (.cells #[] 137)).alloc (.cells #[.slice (some ⟨m, 0, none⟩) 0 0] 126)) := by
  have h1 := World.ownsRow_lit (base := m) (e := 137) (size := 2) W #[] 0 (by omega) (Nat.zero_le _) rfl
  rw [z] at h1
  have h2 := World.ownsRow.alloc h1 (.cells #[.slice (some ⟨m, 0, none⟩) 0 0] 126)
  have k := heap_alloc_new (W.alloc (.cells #[] 137)) (.cells #[.slice (some ⟨m, 0, none⟩) 0 0] 126)
  rw [show (W.alloc (.cells #[] 137)).heap.size = m + 1 by simp [z]] at k
  refine ⟨⟨by show m ≤ m + 1; omega, _, k, h2, fun g hg => (h2.lt g hg).1⟩, (Only.refl _ W).below (bw_alloc (bw_alloc (Below.refl _ _)))⟩
theorem lineP_bad {side n : Int} {ms : List Int} (h : viewOk n ms = false) : lineP side n ms = [] := by rw [lineP, if_neg (by rw [h]; decide)]
theorem lineP_ok {side n : Int} {ms : List Int} (h : viewOk n ms = true) : lineP side n ms = lineFrom side [] 0 ms := by rw [lineP, if_pos h]

set_option maxHeartbeats 1600000 in
theorem lineOf_any (side n : Int) (v : Value) (ms : List Int) (w : World) (hside : side = 1 ∨ side = -1) (r : Reads w.heap.size w v (ms.map (Value.int .i64))) :
    Calls Try.prog 93 #[.agg #[.int .i64 n, v], .int .i64 side] w fun e w' => ∃ v', e = .returned v' ∧ OwnM (w.heap.size + 1) w' v' (lineP side n ms) ∧ Below w.heap.size w w' := by
  have HR : Hid (Reads w.heap.size w v (ms.map (Value.int .i64))) := r
  obtain ⟨o1, cap1, rfl, m1, c1, -⟩ := r
  simp only [List.length_map] at m1 ⊢ HR
  obtain ⟨W0, hW0, k0, d0, z0⟩ := box1 w #[.int .i64 n, .slice o1 ms.length cap1] 59
  have C1 : Hid (CellsI w.heap.size w o1 ms) := cellsI_of c1
  have HW0 : Hid (W0 = _) := hW0
  unfold maxLen at m1
  clear hW0 c1
  go_enter Try.func93, Try.ntmps93
  go_upto_region 1 with fail
  rw [← HW0.out]
  clear HW0
  go_upto_region 2 with fail
  obtain ⟨hp, u2⟩ := line_new z0
  have HD0 : Hid _ := d0
  have hlo : w.heap.size < w.heap.size + 1 := by omega
  obtain ⟨B, hB⟩ : ∃ B, B = w.heap.size := ⟨_, rfl⟩
  have k2 := (u2.block w.heap.size (by omega) (by omega)).trans k0
  have HT : Hid (∀ W, Only (fun k => w.heap.size + 1 ≤ k) W0 W → Below w.heap.size w W) := fun W u => HD0.out.trans (u.toBelow (by omega) (fun k hk => by omega))
  have HRR : Hid (∀ W, Only (fun k => w.heap.size + 1 ≤ k) W0 W → Reads W.heap.size W (.slice o1 ms.length cap1) (ms.map (Value.int .i64))) := fun W u => (HR.out.below (HT.out W u)).mono (HT.out W u).size
  have hlt2 := hp.lt
  clear z0 k0 d0 hlo hB
  generalize (W0.alloc (.cells #[] 137)).alloc (.cells #[.slice (some ⟨w.heap.size + 1, 0, none⟩) 0 0] 126) = W2 at *
  have p0 := at_cell k2 0
  have p1 := at_cell k2 1
  have hr2 := HRR.out W2 u2
  go_wp2_with (go_at_call 100; refine (implViewOk_any n _ ms _ hr2).mono ?_)
  rintro e w3 ⟨rfl, b3⟩
  have u3 := u2.below b3
  have hp3 := hp.below b3
  have k3 := (b3.block w.heap.size (by omega)).trans k2
  clear hp u2 k2 p0 p1 hr2 hlt2 b3
  cases hok : viewOk n ms
  · have hv := lineP_bad (side := side) hok
    obtain ⟨v3, k4, own4, -⟩ := hp3.box
    have c4 := at_cell k4 0
    have HU : Hid _ := HT.out w3 u3
    have HO : Hid (OwnM (w.heap.size + 1) w3 v3 (lineP side n ms)) := by rw [Hid, hv]; exact own4
    obtain ⟨o3, cap3, e3⟩ := own_slice own4
    clear hp3 hok hv k3 k4 u3 C1 own4
    subst e3
    go_wp2_with fail
    go_ret
    exact ⟨_, rfl, HO.out, HU.out⟩
  · have hv := lineP_ok (side := side) hok
    have hml := (viewOk_parts hok).2.2.2.2
    have HV : Hid _ := hv
    have p0 := at_cell k3 0
    have p1 := at_cell k3 1
    clear hok hv
    go_wp2_with fail
    clear p0 p1
    go_loopw [16] (fun i wr => ∃ (k : Nat) (L : List Mb), k ≤ ms.length ∧ i = .int .i64 k ∧ L.length ≤ k ∧ lineFrom side [] 0 ms = lineFrom side L k (ms.drop k) ∧ Hp (fun k => w.heap.size + 1 ≤ k) (w.heap.size + 1) wr (w.heap.size + 1 + 1) L ∧ Only (fun k => w.heap.size + 1 ≤ k) W0 wr) (fun i _ => ms.length - (intOf i).toNat)
    case atStart => exact ⟨0, [], Nat.zero_le _, rfl, Nat.le_refl _, rfl, hp3, u3⟩
    case round =>
      clear hp3 u3 k3
      obtain ⟨k, L, hk, rfl, hLk, hf, hp, hu⟩ := hrel
      by_cases hlt : k < ms.length
      · obtain ⟨g1, of1, e1, q1, cc1⟩ := C1.out k hlt
        subst e1
        have hb := HT.out wr hu
        replace cc1 := (hb.cell (p := ⟨g1, of1 + k, none⟩) q1).trans cc1
        have hf2 : lineFrom side [] 0 ms = lineFrom side (pushP L ((k : Int) * side, ms[k])) (k + 1) (ms.drop (k + 1)) := by
          rw [hf, List.drop_eq_getElem_cons hlt]; rfl
        have HF : Hid _ := hf2
        obtain ⟨x, hx⟩ : ∃ x, ms[k] = x := ⟨_, rfl⟩
        rw [hx] at cc1 HF
        have HPL : Hid ((pushP L ((k : Int) * side, x)).length ≤ k + 1) := by rw [Hid, pushP_len]; omega
        have hws : wr.heap.size ≥ w.heap.size + 1 := by have := hp.lt; omega
        have hw1 : IntKind.i64.wrap ((k : Int) * side) = (k : Int) * side := by rw [IntKind.wrap_i64]; rcases hside with rfl | rfl <;> omega
        obtain ⟨P, hP⟩ : ∃ P, (k : Int) * side = P := ⟨_, rfl⟩
        have HPP : Hid ((k : Int) * side = P) := hP
        rw [hP] at HF HPL hw1
        have i0 : (0 : Int) ≤ (k : Int) := by omega
        have i1 : (k : Int) < (ms.length : Int) := by omega
        clear hf hf2 hx hb
        go_wp2_with (go_at_call 101; refine (heapPush_any _ _ _ L P x _ hp (by omega) (fun k hk => hk) hws).mono ?_)
        rintro e w5 ⟨rfl, hp5, b5⟩
        have hu5 := hu.trans b5
        have HE : Hid _ := And.intro hp5 hu5
        clear hp hu hp5 hu5 b5 cc1
        go_wp2_with fail
        go_roundw
        case rel => exact ⟨k + 1, _, by omega, by go_num, HPL.out, HF.out, HE.out.1, HE.out.2⟩
        case measure => simp [intOf]; omega
      · have hl : lineFrom side [] 0 ms = L := by rw [hf, List.drop_of_length_le (by omega)]; rfl
        obtain ⟨v3, k4, own4, -⟩ := hp.box
        have c4 := at_cell k4 0
        have HU : Hid _ := HT.out wr hu
        have HO : Hid (OwnM (w.heap.size + 1) wr v3 (lineP side n ms)) := by rw [Hid, HV.out, hl]; exact own4
        obtain ⟨o3, cap3, e3⟩ := own_slice own4
        clear hp hf hl k4 hu C1 own4
        subst e3
        go_wp2_with fail
        go_ret
        exact ⟨_, rfl, HO.out, HU.out⟩

end Go.Proofs.Ytghhphhnalfjaaa
