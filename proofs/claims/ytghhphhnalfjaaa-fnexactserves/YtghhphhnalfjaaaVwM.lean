/-
  Chapter 14, plain: who stands in the row.
-/
import Derived.Test.YtghhphhnalfjaaaOpM
namespace Go.Proofs.Ytghhphhnalfjaaa
open Nums
set_option linter.unusedVariables false
set_option maxRecDepth 100000

def viewOk (n : Int) (ms : List Int) : Bool := ms.all (fun m => inB m 0 3) && decide ms.Nodup && (inB n 1 1000 && inB (ms.length : Int) 1 4)
/-- The place of a house among the members; -1 where it is none. -/
def atFrom (h : Int) : List Int → Nat → Int
  | [], _ => -1
  | m :: ms, k => if m = h then (k : Int) else atFrom h ms (k + 1)
def vAt (ms : List Int) (h : Int) : Int := atFrom h ms 0
def vMem (ms : List Int) (a : Int) : Int := if a < 0 ∨ (ms.length : Int) ≤ a then -1 else ms.getD a.toNat 0
def headOf (n : Int) (ms : List Int) : Int := if viewOk n ms = true then ms.getD 0 0 else -1
def tailOf (n : Int) (ms : List Int) : Int := if viewOk n ms = true then ms.getD (ms.length - 1) 0 else -1
def nextOf (n : Int) (ms : List Int) (h : Int) : Int := if viewOk n ms = true ∧ 0 ≤ vAt ms h then vMem ms (vAt ms h + 1) else -1
def prevOf (n : Int) (ms : List Int) (h : Int) : Int := if viewOk n ms = true ∧ 0 ≤ vAt ms h then vMem ms (vAt ms h - 1) else -1
def goes (n : Int) (ms : List Int) (h : Int) : Prop := 0 ≤ vAt ms h ∧ ms.length ≠ 1 ∧ n ≠ 1000
instance (n : Int) (ms : List Int) (h : Int) : Decidable (goes n ms h) := inferInstanceAs (Decidable (_ ∧ _))
def withoutV (n : Int) (ms : List Int) (h : Int) : (Int × List Int) × Bool :=
  if viewOk n ms = true then (if goes n ms h then ((n + 1, ms.take (vAt ms h).toNat ++ ms.drop ((vAt ms h).toNat + 1)), true) else ((n, ms), false)) else ((0, []), false)
def comes (n : Int) (ms : List Int) (h : Int) : Prop := (0 ≤ h ∧ h ≤ 3) ∧ vAt ms h < 0 ∧ n ≠ 1000
instance (n : Int) (ms : List Int) (h : Int) : Decidable (comes n ms h) := inferInstanceAs (Decidable (_ ∧ _))
def joinedV (n : Int) (ms : List Int) (h : Int) : (Int × List Int) × Bool :=
  if viewOk n ms = true then (if comes n ms h then ((n + 1, ms ++ [h]), true) else ((n, ms), false)) else ((0, []), false)

theorem viewOk_parts {n : Int} {ms : List Int} (h : viewOk n ms = true) : (∀ m ∈ ms, 0 ≤ m ∧ m ≤ 3) ∧ ms.Nodup ∧ (1 ≤ n ∧ n ≤ 1000) ∧ (1 ≤ ms.length ∧ ms.length ≤ 4) := by
  simp only [viewOk, Bool.and_eq_true, List.all_eq_true, decide_eq_true_eq, inB_iff] at h
  exact ⟨h.1.1, h.1.2, h.2.1, by omega⟩
theorem viewOk_of {n : Int} {ms : List Int} (h1 : ∀ m ∈ ms, 0 ≤ m ∧ m ≤ 3) (h2 : ms.Nodup) (h3 : 1 ≤ n ∧ n ≤ 1000) (h4 : 1 ≤ ms.length ∧ ms.length ≤ 4) : viewOk n ms = true := by
  simp only [viewOk, Bool.and_eq_true, List.all_eq_true, decide_eq_true_eq, inB_iff]
  exact ⟨⟨h1, h2⟩, h3, by omega⟩
theorem atFrom_no {h : Int} : ∀ {ms : List Int} {k : Nat}, h ∉ ms → atFrom h ms k = -1
  | [], _, _ => rfl
  | m :: ms, k, hn => by
    rw [atFrom, if_neg (fun e => hn (by rw [e]; exact List.mem_cons_self)), atFrom_no (fun q => hn (List.mem_cons_of_mem _ q))]
theorem atFrom_at {h : Int} : ∀ {ms : List Int} {k : Nat} (i : Nat) (hi : i < ms.length), ms.Nodup → ms[i] = h → atFrom h ms k = ((k + i : Nat) : Int)
  | [], _, i, hi, _, _ => by simp at hi
  | m :: ms, k, 0, _, _, e => by rw [atFrom, if_pos (by simpa using e)]; simp
  | m :: ms, k, i + 1, hi, hn, e => by
    have hi' : i < ms.length := by simpa using hi
    have e' : ms[i] = h := by simpa using e
    have hne : m ≠ h := fun q => (List.nodup_cons.1 hn).1 (by rw [q, ← e']; exact List.getElem_mem hi')
    rw [atFrom, if_neg hne, atFrom_at i hi' (List.nodup_cons.1 hn).2 e']
    omega
theorem atFrom_range (h : Int) : ∀ (ms : List Int) (k : Nat), atFrom h ms k = -1 ∧ h ∉ ms ∨ ∃ (i : Nat) (hi : i < ms.length), atFrom h ms k = ((k + i : Nat) : Int) ∧ ms[i] = h
  | [], k => .inl ⟨rfl, by simp⟩
  | m :: ms, k => by
    by_cases e : m = h
    · exact .inr ⟨0, by simp, by rw [atFrom, if_pos e]; simp, by simpa using e⟩
    · rcases atFrom_range h ms (k + 1) with ⟨h1, h2⟩ | ⟨i, hi, h1, h2⟩
      · refine .inl ⟨by rw [atFrom, if_neg e]; exact h1, fun q => ?_⟩
        rcases List.mem_cons.1 q with q | q
        · exact e q.symm
        · exact h2 q
      · exact .inr ⟨i + 1, by simpa using hi, by rw [atFrom, if_neg e, h1]; omega, by simpa using h2⟩
theorem vAt_range (ms : List Int) (h : Int) : vAt ms h = -1 ∧ h ∉ ms ∨ ∃ (i : Nat) (hi : i < ms.length), vAt ms h = (i : Int) ∧ ms[i] = h := by
  rcases atFrom_range h ms 0 with q | ⟨i, hi, h1, h2⟩
  · exact .inl q
  · exact .inr ⟨i, hi, by rw [vAt, h1, Nat.zero_add], h2⟩
theorem vAt_mem {ms : List Int} {h : Int} (hm : h ∈ ms) : ∃ (i : Nat) (hi : i < ms.length), vAt ms h = (i : Int) ∧ ms[i] = h := by
  rcases vAt_range ms h with ⟨_, q⟩ | q
  · exact absurd hm q
  · exact q
theorem vAt_own {ms : List Int} (hn : ms.Nodup) (i : Nat) (hi : i < ms.length) : vAt ms ms[i] = (i : Int) := by rw [vAt, atFrom_at i hi hn rfl, Nat.zero_add]
theorem vAt_neg {ms : List Int} {h : Int} : vAt ms h < 0 ↔ h ∉ ms := by
  rcases vAt_range ms h with ⟨q1, q2⟩ | ⟨i, hi, q1, q2⟩
  · exact ⟨fun _ => q2, fun _ => by omega⟩
  · exact ⟨fun q => by omega, fun q => absurd (by rw [← q2]; exact List.getElem_mem hi) q⟩
theorem vMem_at {ms : List Int} (i : Nat) (hi : i < ms.length) : vMem ms (i : Int) = ms[i] := by
  rw [vMem, if_neg (by omega), Int.toNat_natCast, List.getD_eq_getElem?_getD, List.getElem?_eq_getElem hi]
  rfl
theorem vMem_out {ms : List Int} {a : Int} (h : a < 0 ∨ (ms.length : Int) ≤ a) : vMem ms a = -1 := by rw [vMem, if_pos h]
/-- Next and previous are one another's. -/
theorem next_at {n : Int} {ms : List Int} (hv : viewOk n ms = true) (i : Nat) (hi : i < ms.length) : nextOf n ms ms[i] = (if h : i + 1 < ms.length then ms[i + 1] else -1) ∧ prevOf n ms ms[i] = (if 0 < i then ms[i - 1]'(by omega) else -1) := by
  have hn := (viewOk_parts hv).2.1
  have ha := vAt_own hn i hi
  refine ⟨?_, ?_⟩
  · rw [nextOf, if_pos ⟨hv, by rw [ha]; omega⟩, ha]
    by_cases h : i + 1 < ms.length
    · rw [dif_pos h, show (i : Int) + 1 = ((i + 1 : Nat) : Int) by omega, vMem_at _ h]
    · rw [dif_neg h, vMem_out (by omega)]
  · rw [prevOf, if_pos ⟨hv, by rw [ha]; omega⟩, ha]
    by_cases h : 0 < i
    · rw [if_pos h, show (i : Int) - 1 = ((i - 1 : Nat) : Int) by omega, vMem_at _ (by omega)]
    · rw [if_neg h, vMem_out (by omega)]
theorem next_none {n : Int} {ms : List Int} {h : Int} (hh : viewOk n ms = false ∨ h ∉ ms) : nextOf n ms h = -1 ∧ prevOf n ms h = -1 := by
  have hc : ¬ (viewOk n ms = true ∧ 0 ≤ vAt ms h) := fun q => by
    rcases hh with hh | hh
    · rw [hh] at q; exact absurd q.1 (by decide)
    · have := vAt_neg.2 hh; omega
  exact ⟨by rw [nextOf, if_neg hc], by rw [prevOf, if_neg hc]⟩
/-- Who leaves is no member. -/
theorem without_ok {n : Int} {ms : List Int} {h : Int} (hv : viewOk n ms = true) (hg : goes n ms h) : viewOk (withoutV n ms h).1.1 (withoutV n ms h).1.2 = true ∧ h ∉ (withoutV n ms h).1.2 ∧ h ∈ ms ∧ (withoutV n ms h).1.1 = n + 1 ∧ (withoutV n ms h).1.2.length + 1 = ms.length ∧ (withoutV n ms h).2 = true := by
  rw [withoutV, if_pos hv, if_pos hg]
  obtain ⟨p1, p2, p3, p4⟩ := viewOk_parts hv
  obtain ⟨g1, g2, g3⟩ := hg
  rcases vAt_range ms h with ⟨q1, -⟩ | ⟨i, hi, q1, q2⟩
  · omega
  rw [q1, Int.toNat_natCast]
  simp only
  have he : ms.take i ++ ms.drop (i + 1) = ms.eraseIdx i := (List.eraseIdx_eq_take_drop_succ ms i).symm
  rw [he]
  have hl : (ms.eraseIdx i).length = ms.length - 1 := List.length_eraseIdx_of_lt hi
  have hno : h ∉ ms.eraseIdx i := by
    rw [← q2]
    intro hm
    obtain ⟨j, hj, hje⟩ := List.mem_eraseIdx_iff_getElem.1 hm
    have e1 := vAt_own p2 i hi
    have e2 := vAt_own p2 j hj
    have e3 : vAt ms ms[j] = vAt ms ms[i] := congrArg (vAt ms) hje.2
    exact hje.1 (by omega)
  refine ⟨viewOk_of (fun m hm => p1 m (List.mem_of_mem_eraseIdx hm)) (p2.sublist (List.eraseIdx_sublist _ _)) (by omega) (by omega), hno, by rw [← q2]; exact List.getElem_mem hi, trivial, by omega, trivial⟩
theorem joined_ok {n : Int} {ms : List Int} {h : Int} (hv : viewOk n ms = true) (hc : comes n ms h) : viewOk (joinedV n ms h).1.1 (joinedV n ms h).1.2 = true ∧ (joinedV n ms h).1 = (n + 1, ms ++ [h]) ∧ (joinedV n ms h).2 = true := by
  rw [joinedV, if_pos hv, if_pos hc]
  obtain ⟨p1, p2, p3, p4⟩ := viewOk_parts hv
  obtain ⟨g1, g2, g3⟩ := hc
  have hno := vAt_neg.1 g2
  refine ⟨?_, rfl, rfl⟩
  have hlen : ms.length < 4 := by
    rcases Nat.lt_or_ge ms.length 4 with q | q
    · exact q
    · exfalso
      have hsub : (h :: ms).Nodup := List.nodup_cons.2 ⟨hno, p2⟩
      have hbd : ∀ m ∈ h :: ms, m ∈ [(0 : Int), 1, 2, 3] := fun m hm => by
        have : 0 ≤ m ∧ m ≤ 3 := by
          rcases List.mem_cons.1 hm with rfl | hm
          · exact g1
          · exact p1 m hm
        have h4 : m = 0 ∨ m = 1 ∨ m = 2 ∨ m = 3 := by omega
        rcases h4 with rfl | rfl | rfl | rfl <;> simp
      have := hsub.length_le_of_subset hbd
      simp at this
      omega
  refine viewOk_of (fun m hm => ?_) ?_ (show 1 ≤ n + 1 ∧ n + 1 ≤ 1000 by omega) (by rw [List.length_append]; simp; omega)
  · rcases List.mem_append.1 hm with hm | hm
    · exact p1 m hm
    · simp only [List.mem_singleton] at hm
      rw [hm]
      exact g1
  · refine List.nodup_append.2 ⟨p2, by simp, fun a ha b hb => ?_⟩
    simp only [List.mem_singleton] at hb
    rw [hb]
    exact fun e => hno (by rw [← e]; exact ha)

end Go.Proofs.Ytghhphhnalfjaaa
