/-
  Chapter 14: the line's indexOf; lineOf.
-/
import Derived.Test.YtijmmenkcemggaaImHp7
namespace Go.Proofs.Ytijmmenkcemggaa
open Go.RowKit
set_option linter.unusedVariables false
set_option maxRecDepth 100000

theorem idx_in (p m h : Int) (c : Nat) (w : World) (hc : c < w.heap.size) (hn : w.cell? ⟨c, 0, none⟩ = some (.int .i64 h)) :
    Calls Try.prog 66 #[.agg #[.int .i64 p, .int .i64 m], .pointer (some ⟨c, 0, none⟩)] w fun e w' => e = .returned (.bool (m == h)) ∧ Below w.heap.size w w' := by
  obtain ⟨W0, hW0, k0, d0, z0⟩ := box1 w #[.int .i64 p, .int .i64 m] 55
  have HW0 : Hid (W0 = _) := hW0
  have p1 := at_cell k0 1
  have c0 := (d0.cell (p := ⟨c, 0, none⟩) hc).trans hn
  rw [hW0] at p1 c0
  clear hW0 k0
  go_enter Try.func66, Try.ntmps66
  go_wp2_with fail
  go_ret
  exact ⟨rfl, by rw [← HW0.out]; exact d0⟩
theorem idxP_at (h : Int) : ∀ (l : List Mb) (k j : Nat) (hlt : j < l.length), idxP h (l.drop j) k = if (mbAt l j).2 = h then (k : Int) else idxP h (l.drop (j + 1)) (k + 1) := by
  intro l k j hlt
  rw [List.drop_eq_getElem_cons hlt, idxP, mbAt_eq l j hlt]

set_option maxHeartbeats 1600000 in
theorem indexFn_any (base : Nat) (v : Value) (l : List Mb) (h : Int) (c : Nat) (w : World) (own : OwnM base w v l) (hc : c < w.heap.size) (hn : w.cell? ⟨c, 0, none⟩ = some (.int .i64 h)) (hl : l.length ≤ 60) :
    Calls Try.prog 65 #[v, .func (.func 66) #[] #[.pointer (some ⟨c, 0, none⟩)]] w fun e w' => e = .returned (.int .i64 (idxP h l 0)) ∧ Below w.heap.size w w' := by
  obtain ⟨o, cap, rfl⟩ := own_slice own
  have HOW : Hid (OwnM base w (.slice o l.length cap) l) := own
  clear own
  go_enter Try.func65, Try.ntmps65
  go_wp2_with fail
  go_loopw [8] (fun i wr => ∃ k : Nat, k ≤ l.length ∧ i = .int .i64 k ∧ idxP h l 0 = idxP h (l.drop k) k ∧ Below w.heap.size w wr) (fun i _ => l.length - (intOf i).toNat)
  case atStart => exact ⟨0, Nat.zero_le _, rfl, rfl, Below.refl _ _⟩
  case round =>
    obtain ⟨k, hk, rfl, hf, hb⟩ := hrel
    by_cases hlt : k < l.length
    · obtain ⟨g, cap', e⟩ := own_form HOW.out (by omega)
      cases e
      obtain ⟨⟨a0, a1⟩, -⟩ := own_two HOW.out k hlt
      have hg := (HOW.out.lt g rfl).2
      rw [idxP_at h l k k hlt] at hf
      have HF : Hid _ := hf
      replace a0 := (hb.cell (p := ⟨g, k * 2, none⟩) hg).trans a0
      replace a1 := (hb.cell (p := ⟨g, k * 2 + 1, none⟩) hg).trans a1
      have cn := (hb.cell (p := ⟨c, 0, none⟩) hc).trans hn
      have hcl := Nat.lt_of_lt_of_le hc hb.size
      clear hf
      generalize mbAt l k = x at a0 a1 HF
      obtain ⟨p, m⟩ := x
      simp only at a0 a1 HF
      go_wp2_with (go_at_call 66; refine (idx_in p m h c _ hcl cn).mono ?_)
      rintro e w1 ⟨rfl, b1⟩
      replace hb := bw_call hb b1
      clear a0 a1 b1 cn hcl
      by_cases hx : m = h
      · have HV : Hid (idxP h l 0 = k) := by have := HF.out; rwa [if_pos hx] at this
        rw [show (m == h) = true by simpa using hx]
        clear HF hx
        go_wp2_with fail
        go_ret
        exact ⟨ret_int HV.out.symm, hb⟩
      · have HV : Hid (idxP h l 0 = idxP h (l.drop (k + 1)) (k + 1)) := by have := HF.out; rwa [if_neg hx] at this
        rw [show (m == h) = false by simpa using hx]
        clear HF hx
        go_wp2_with fail
        go_roundw
        case rel => exact ⟨k + 1, by omega, by go_num, HV.out, hb⟩
        case measure => simp [intOf]; omega
    · have HF : Hid (idxP h l 0 = -1) := by rw [Hid, hf, List.drop_of_length_le (by omega)]; rfl
      clear hf
      go_wp2_with fail
      go_ret
      exact ⟨ret_int HF.out.symm, hb⟩

theorem implIndexOf_any (base : Nat) (v : Value) (l : List Mb) (h : Int) (w : World) (own : OwnM base w v l) (hl : l.length ≤ 60) :
    Calls Try.prog 41 #[v, .int .i64 h] w fun e w' => e = .returned (.int .i64 (idxP h l 0)) ∧ Below w.heap.size w w' := by
  have hmf : ∀ (fn : Fn) (first cap : Array Value) (w : World), (Instr.makeFunc fn first cap).run Try.prog w = .ok (.func fn first cap) w := fun _ _ _ _ => rfl
  obtain ⟨o, cap, rfl⟩ := own_slice own
  obtain ⟨W0, hW0, k0, d0, z0⟩ := box1 w #[.int .i64 h] 2
  have own0 : OwnM base W0 (.slice o l.length cap) l := owns_below own d0
  have p0 := at_cell k0 0
  have hlt := heap_lt k0
  have HW0 : Hid (W0 = _) := hW0
  clear k0 own hW0 z0
  go_enter Try.func41, Try.ntmps41
  go_upto_region 1 with fail
  rw [← HW0.out]
  clear HW0
  have HD : Hid (Below w.heap.size w W0) := d0
  clear d0
  generalize w.heap.size = c at p0 hlt ⊢
  go_wp2_with (go_at_call 65; refine (indexFn_any base _ l h c _ own0 hlt p0 hl).mono ?_)
  rintro e w2 ⟨rfl, b2⟩
  clear own0 p0
  go_wp2_with fail
  go_ret
  exact ⟨rfl, bw_call HD.out b2⟩

theorem line_new {W : World} {m : Nat} (z : W.heap.size = m) : Hp (fun k => m ≤ k) m ((W.alloc (.cells #[] 55)).alloc (.cells #[.slice (some ⟨m, 0, none⟩) 0 0] 45)) (m + 1) [] ∧ Only (fun k => m ≤ k) W ((W.alloc (.cells #[] 55)).alloc (.cells #[.slice (some ⟨m, 0, none⟩) 0 0] 45)) := by
  have h1 := World.ownsRow_lit (base := m) (e := 55) (size := 2) W #[] 0 (by omega) (Nat.zero_le _) rfl
  rw [z] at h1
  have h2 := World.ownsRow.alloc h1 (.cells #[.slice (some ⟨m, 0, none⟩) 0 0] 45)
  have k := heap_alloc_new (W.alloc (.cells #[] 55)) (.cells #[.slice (some ⟨m, 0, none⟩) 0 0] 45)
  rw [show (W.alloc (.cells #[] 55)).heap.size = m + 1 by simp [z]] at k
  refine ⟨⟨by show m ≤ m + 1; omega, _, k, h2, fun g hg => (h2.lt g hg).1⟩, (Only.refl _ W).below (bw_alloc (bw_alloc (Below.refl _ _)))⟩
theorem lineP_bad {side n : Int} {ms : List Int} (h : viewOk n ms = false) : lineP side n ms = [] := by rw [lineP, if_neg (by rw [h]; decide)]
theorem lineP_ok {side n : Int} {ms : List Int} (h : viewOk n ms = true) : lineP side n ms = lineFrom side [] 0 ms := by rw [lineP, if_pos h]

set_option maxHeartbeats 1600000 in
theorem lineOf_any (side n : Int) (v : Value) (ms : List Int) (w : World) (hside : side = 1 ∨ side = -1) (r : Reads w.heap.size w v (ms.map (Value.int .i64))) :
    Calls Try.prog 39 #[.agg #[.int .i64 n, v], .int .i64 side] w fun e w' => ∃ v', e = .returned v' ∧ OwnM (w.heap.size + 1) w' v' (lineP side n ms) ∧ Below w.heap.size w w' := by
  have HR : Hid (Reads w.heap.size w v (ms.map (Value.int .i64))) := r
  obtain ⟨o1, cap1, rfl, m1, c1, -⟩ := r
  simp only [List.length_map] at m1 ⊢ HR
  obtain ⟨W0, hW0, k0, d0, z0⟩ := box1 w #[.int .i64 n, .slice o1 ms.length cap1] 26
  have C1 : Hid (CellsI w.heap.size w o1 ms) := cellsI_of c1
  have HW0 : Hid (W0 = _) := hW0
  unfold maxLen at m1
  clear hW0 c1
  go_enter Try.func39, Try.ntmps39
  go_upto_region 1 with fail
  rw [← HW0.out]
  clear HW0
  go_upto_region 2 with fail
  obtain ⟨hp, u2⟩ := line_new z0
  have HD0 : Hid _ := d0
  have hlo : w.heap.size < w.heap.size + 1 := by omega
  obtain ⟨B, hB⟩ : ∃ B, B = w.heap.size := ⟨_, rfl⟩
  have k2 := (u2.block w.heap.size (by omega) (by omega)).trans k0
  have HT : Hid (∀ W, Only (fun k => w.heap.size + 1 ≤ k) W0 W → Below w.heap.size w W) := fun W u => HD0.out.trans (u.toBelow (by omega) (fun k hk => by omega))
  have HRR : Hid (∀ W, Only (fun k => w.heap.size + 1 ≤ k) W0 W → Reads W.heap.size W (.slice o1 ms.length cap1) (ms.map (Value.int .i64))) := fun W u => (HR.out.below (HT.out W u)).mono (HT.out W u).size
  have hlt2 := hp.lt
  clear z0 k0 d0 hlo hB
  generalize (W0.alloc (.cells #[] 55)).alloc (.cells #[.slice (some ⟨w.heap.size + 1, 0, none⟩) 0 0] 45) = W2 at *
  have p0 := at_cell k2 0
  have p1 := at_cell k2 1
  have hr2 := HRR.out W2 u2
  go_wp2_with (go_at_call 19; refine (implViewOk_any n _ ms _ hr2).mono ?_)
  rintro e w3 ⟨rfl, b3⟩
  have u3 := u2.below b3
  have hp3 := hp.below b3
  have k3 := (b3.block w.heap.size (by omega)).trans k2
  clear hp u2 k2 p0 p1 hr2 hlt2 b3
  cases hok : viewOk n ms
  · have hv := lineP_bad (side := side) hok
    obtain ⟨v3, k4, own4, -⟩ := hp3.box
    have c4 := at_cell k4 0
    have HU : Hid _ := HT.out w3 u3
    have HO : Hid (OwnM (w.heap.size + 1) w3 v3 (lineP side n ms)) := by rw [Hid, hv]; exact own4
    obtain ⟨o3, cap3, e3⟩ := own_slice own4
    clear hp3 hok hv k3 k4 u3 C1 own4
    subst e3
    go_wp2_with fail
    go_ret
    exact ⟨_, rfl, HO.out, HU.out⟩
  · have hv := lineP_ok (side := side) hok
    have hml := (viewOk_parts hok).2.2.2.2
    have HV : Hid _ := hv
    have p0 := at_cell k3 0
    have p1 := at_cell k3 1
    clear hok hv
    go_wp2_with fail
    clear p0 p1
    go_loopw [16] (fun i wr => ∃ (k : Nat) (L : List Mb), k ≤ ms.length ∧ i = .int .i64 k ∧ L.length ≤ k ∧ lineFrom side [] 0 ms = lineFrom side L k (ms.drop k) ∧ Hp (fun k => w.heap.size + 1 ≤ k) (w.heap.size + 1) wr (w.heap.size + 1 + 1) L ∧ Only (fun k => w.heap.size + 1 ≤ k) W0 wr) (fun i _ => ms.length - (intOf i).toNat)
    case atStart => exact ⟨0, [], Nat.zero_le _, rfl, Nat.le_refl _, rfl, hp3, u3⟩
    case round =>
      clear hp3 u3 k3
      obtain ⟨k, L, hk, rfl, hLk, hf, hp, hu⟩ := hrel
      by_cases hlt : k < ms.length
      · obtain ⟨g1, of1, e1, q1, cc1⟩ := C1.out k hlt
        subst e1
        have hb := HT.out wr hu
        replace cc1 := (hb.cell (p := ⟨g1, of1 + k, none⟩) q1).trans cc1
        have hf2 : lineFrom side [] 0 ms = lineFrom side (pushP L ((k : Int) * side, ms[k])) (k + 1) (ms.drop (k + 1)) := by
          rw [hf, List.drop_eq_getElem_cons hlt]; rfl
        have HF : Hid _ := hf2
        obtain ⟨x, hx⟩ : ∃ x, ms[k] = x := ⟨_, rfl⟩
        rw [hx] at cc1 HF
        have HPL : Hid ((pushP L ((k : Int) * side, x)).length ≤ k + 1) := by rw [Hid, pushP_len]; omega
        have hws : wr.heap.size ≥ w.heap.size + 1 := by have := hp.lt; omega
        have hw1 : IntKind.i64.wrap ((k : Int) * side) = (k : Int) * side := by rw [IntKind.wrap_i64]; rcases hside with rfl | rfl <;> omega
        obtain ⟨P, hP⟩ : ∃ P, (k : Int) * side = P := ⟨_, rfl⟩
        have HPP : Hid ((k : Int) * side = P) := hP
        rw [hP] at HF HPL hw1
        have i0 : (0 : Int) ≤ (k : Int) := by omega
        have i1 : (k : Int) < (ms.length : Int) := by omega
        clear hf hf2 hx hb
        go_wp2_with (go_at_call 45; refine (heapPush_any _ _ _ L P x _ hp (by omega) (fun k hk => hk) hws).mono ?_)
        rintro e w5 ⟨rfl, hp5, b5⟩
        have hu5 := hu.trans b5
        have HE : Hid _ := And.intro hp5 hu5
        clear hp hu hp5 hu5 b5 cc1
        go_wp2_with fail
        go_roundw
        case rel => exact ⟨k + 1, _, by omega, by go_num, HPL.out, HF.out, HE.out.1, HE.out.2⟩
        case measure => simp [intOf]; omega
      · have hl : lineFrom side [] 0 ms = L := by rw [hf, List.drop_of_length_le (by omega)]; rfl
        obtain ⟨v3, k4, own4, -⟩ := hp.box
        have c4 := at_cell k4 0
        have HU : Hid _ := HT.out wr hu
        have HO : Hid (OwnM (w.heap.size + 1) wr v3 (lineP side n ms)) := by rw [Hid, HV.out, hl]; exact own4
        obtain ⟨o3, cap3, e3⟩ := own_slice own4
        clear hp hf hl k4 hu C1 own4
        subst e3
        go_wp2_with fail
        go_ret
        exact ⟨_, rfl, HO.out, HU.out⟩

end Go.Proofs.Ytijmmenkcemggaa
