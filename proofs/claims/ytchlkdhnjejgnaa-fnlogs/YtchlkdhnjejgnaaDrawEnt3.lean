/-
  Chapter 11's draws for the laws: DrawBegins.
-/
import Derived.Test.YtchlkdhnjejgnaaDrawEnt2
namespace Go.Proofs.Ytchlkdhnjejgnaa
open Go.RowKit
set_option linter.unusedVariables false
set_option maxRecDepth 100000

theorem flat_head {α : Type} {k : Nat} {cs : α → List Value} (hk : ∀ x, (cs x).length = k) : ∀ (xs : List α) (i : Nat), (xs.take i).flatMap cs = (xs.flatMap cs).take (i * k)
  | [], i => by simp
  | x :: xs, 0 => by simp
  | x :: xs, i + 1 => by
    rw [List.take_succ_cons, List.flatMap_cons, List.flatMap_cons, flat_head hk xs i, List.take_append, hk, Nat.add_mul, Nat.one_mul, Nat.add_sub_cancel]
    congr 1
    exact (List.take_of_length_le (by rw [hk]; omega)).symm
theorem ents_one (l : List Ent) : ∀ u ∈ l.flatMap entC, u.oneCell' = true := fun u hu => by
  obtain ⟨e, _, he⟩ := List.mem_flatMap.1 hu
  exact one_ent e u he

set_option maxHeartbeats 6400000 in
theorem drawBegins_any (x : Option Addr) (len cap : Nat) (w : World) (hs : Src w w.heap.size x len) :
    Calls Try.prog 16 #[.slice x len cap] w fun r w' => ∃ (va vb : Value) (a b : List Ent), r = .returned (.tuple #[va, vb]) ∧ (ReadsR 9 entC w'.heap.size w' va a ∧ FitLog a ∧ a.length ≤ 16) ∧ (ReadsR 9 entC w'.heap.size w' vb b ∧ FitLog b ∧ b.length ≤ 16) ∧ Below w.heap.size w w' := by
  obtain ⟨i1, hi, hz0, hz1, hz2⟩ := info_parts Try.infoEntry
  go_enter Try.func16, Try.ntmps16
  go_wp2_with fail
  refine (new_any x len cap _ hs).mono ?_
  rintro e w1 ⟨rfl, d0, kc⟩
  have kl := kc.lt
  have sz := d0.size
  clear hs
  go_wp2_with fail
  refine (draw11Any_any _ x len cap _ kc).mono ?_
  rintro e w2 ⟨g, cp, l, rfl, st⟩
  replace d0 := d0.trans (st.u.toBelow (by omega) (by omega))
  have hfew := st.few
  have s2 := d0.size
  clear kc
  go_wp2_with fail
  refine (once_any _ x len cap 2 _ (by omega) st.kc).mono ?_
  rintro e w3 ⟨y, rfl, u3, k3⟩
  replace d0 := d0.trans (u3.toBelow (by omega) (by omega))
  replace st := st.step u3 k3
  have s3 := d0.size
  clear u3 k3
  cases y
  · go_wp2_with fail
    refine (draw11Any_any _ x len cap _ st.kc).mono ?_
    rintro e w4 ⟨g2, cp2, l2, rfl, st2⟩
    have st' := st.step st2.u st2.kc
    replace d0 := d0.trans (st2.u.toBelow (by omega) (by omega))
    go_wp2_with fail
    exact bodyPost_ret (v := .tuple #[.slice (some ⟨g, 0, none⟩) l.length cp, .slice (some ⟨g2, 0, none⟩) l2.length cp2]) (by simp [results, Try.results16, go_sem]) rfl ⟨_, _, l, l2, rfl, ⟨st'.reads, st'.fits, hfew⟩, ⟨st2.reads, st2.fits, st2.few⟩, d0⟩
  · have hw1 : IntKind.i64.wrap ((l.length : Int) + 1) = (l.length : Int) + 1 := by rw [IntKind.wrap_i64]; omega
    go_wp2_with fail
    refine (below_any _ x len cap ((l.length : Int) + 1) _ (by omega) st.kc).mono ?_
    rintro e w4 ⟨I0, rfl, hI, u4, k4⟩
    have hI1 := hI.2.1 (by omega)
    obtain ⟨I, rfl⟩ := Int.eq_ofNat_of_zero_le hI.1
    have hil : I ≤ l.length := by omega
    replace d0 := d0.trans (u4.toBelow (by omega) (by omega))
    replace st := st.step u4 k4
    have s4 := d0.size
    clear u4 k4 hI
    have hcap : l.length ≤ cp := by
      obtain ⟨o', c', hv, -, -, hr⟩ := st.reads
      simp only [Value.slice.injEq] at hv
      obtain ⟨-, -, rfl⟩ := hv
      exact hr
    have own0 : (w4.alloc (.cells #[] 56)).ownsRow w4.heap.size 56 9 (.slice (some ⟨w4.heap.size, 0, none⟩) 0 0) 0 [] := World.ownsRow_lit w4 #[] 0 (Nat.le_refl _) (Nat.zero_le _) rfl
    have sta := st.alloc (.cells #[] 56)
    have HN : Hid (∀ j u, ((l.take I).flatMap entC)[j]? = some u → (w4.alloc (.cells #[] 56)).cell? ((⟨g, 0, none⟩ : Addr).add j) = some u) := fun j u hj => by
      rw [addr_add]
      rw [flat_head entC_len] at hj
      have hl := (List.getElem?_eq_some_iff.1 hj).1
      rw [List.length_take, flat_length entC_len] at hl
      rw [List.getElem?_take_of_lt (by omega)] at hj
      have := sta.own.cellAt j (by omega)
      simpa using this.trans hj
    have HL : Hid (((l.take I).flatMap entC).length = I * 9) := by rw [Hid, flat_length entC_len, List.length_take]; congr 1; omega
    have i0 : (0 : Int) ≤ (I : Int) := by omega
    have i2 : (I : Int) ≤ (cp : Int) := by omega
    have i3 : I ≤ cp := by omega
    have ltl : (l.take I).length = I := by rw [List.length_take]; omega
    have HLT : Hid ((l.take I).length = I) := ltl
    clear ltl
    go_wp2_with (at_builtin; refine wpList_append_own _ rfl _ _ 48 rfl w4.heap.size 56 i1 (.agg #[.int .i64 0, .int .i64 0, .int .i64 0, .int .i64 0, .string ByteArray.empty, .string ByteArray.empty, .int .i64 0, .int .i64 0, .int .i64 0]) 9 88 Try.underlying48 hi hz0 hz1 hz2 rfl (by decide) _ _ _ rfl own0 ⟨g, 0, none⟩ I cp ((l.take I).flatMap entC) rfl HL.out HN.out (ents_one _) ?c3 ?c4 ?c5 ?_)
    case c3 => unfold maxLen; omega
    case c4 => omega
    case c5 => simp
    intro v' w5 hown' hgrow hnil
    have b5 : Below w4.heap.size w4 w5 := (bw_alloc (Below.refl _ _)).grown hgrow (by simp) (fun q hq => (own0.lt q hq).1)
    have own5 : w5.ownsRow w4.heap.size 56 9 v' (l.take I).length ((l.take I).flatMap entC) := by rw [HLT.out]; simpa using hown'
    have st5 := st.below b5
    have d5 := bw_call d0 b5
    obtain ⟨o5, cp5, hv5⟩ := own_slice own5
    subst hv5
    have HR : Hid _ := ReadsR.of_own entC_len own5
    have HF : Hid (FitLog (l.take I)) := fun e he => st5.fits e (List.mem_of_mem_take he)
    have HM : Hid ((l.take I).length ≤ 16) := by rw [Hid, HLT.out]; omega
    clear own5 hown' hgrow hnil own0 sta HN HL st d0 b5
    go_wp2_with fail
    exact bodyPost_ret (v := .tuple #[.slice o5 (l.take I).length cp5, .slice (some ⟨g, 0, none⟩) l.length cp]) (by simp [results, Try.results16, go_sem]) rfl ⟨_, _, l.take I, l, rfl, ⟨HR.out, HF.out, HM.out⟩, ⟨st5.reads, st5.fits, hfew⟩, d5⟩

end Go.Proofs.Ytchlkdhnjejgnaa
