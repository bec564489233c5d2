/-
  Contracts and plain laws, one chapter behind the other.
-/
import Derived.Deep.RegionHeld3
import Derived.Test.YtcefcglonooelaaGreatDoorM03
import Derived.Test.YtcefcglonooelaaGreatDoorM04
import Derived.Test.YtcefcglonooelaaGreatDoorM15
import Derived.Test.YtcefcglonooelaaGreatDoorM17
import Derived.Test.YtcefcglonooelaaGreatDoorM19
namespace Go.Proofs.YtcefcglonooelaaGreatDoor
open Go.RowKit

set_option linter.unusedVariables false

set_option maxRecDepth 100000


set_option maxHeartbeats 3200000 in
theorem changedPlain_9 (xn : ByteArray) (xz : Int) (xm : Value) (xr : List Int) (xf : Bool) (xe : Int) (nm ot : ByteArray) (A : Nat) (va ep : Int) (w : World) (hA : A < xr.length) (r : ReadsR 1 intC w.heap.size w xm xr) :
    Calls Tryz.prog 81 #[.agg #[.string xn, .int .i64 xz, xm, .bool xf, .int .i64 xe], .agg #[.int .i64 9, .string nm, .string ot, .int .i64 (A : Int), .int .i64 va, .int .i64 ep]] w fun e w' => e = .returned (.tuple #[.agg #[.string xn, .int .i64 xz, xm, .bool xf, .int .i64 xe], .int .i64 (xr.getD A 0)]) ∧ Below w.heap.size w w' := by
  obtain ⟨om, cm, hmf, hm, hc, hcap⟩ := r
  obtain ⟨g, off, rfl, hg, hx⟩ := hc A xr[A] (List.getElem?_eq_getElem hA)
  subst hmf
  have hcell : w.cell? ⟨g, off + A, none⟩ = some (.int .i64 (xr.getD A 0)) := by
    have h := hx 0 _ rfl
    have e : xr.getD A 0 = xr[A] := by simp [List.getD_eq_getElem?_getD, hA]
    rw [e]
    simpa using h
  obtain ⟨W0, hW0, kP, kO, kR, d0, z0⟩ := box3 w #[.string xn, .int .i64 xz, .slice (some ⟨g, off, none⟩) xr.length cm, .bool xf, .int .i64 xe] #[.int .i64 9, .string nm, .string ot, .int .i64 (A : Int), .int .i64 va, .int .i64 ep] #[.string ⟨#[]⟩, .int .i64 0, .slice none 0 0, .bool false, .int .i64 0] 51 26 51
  have HW0 : Hid (W0 = _) := hW0
  have hcell0 := (d0.cell (p := ⟨g, off + A, none⟩) hg).trans hcell
  have i1 : (0 : Int) ≤ (A : Int) := by omega
  have i2 : (A : Int) < (xr.length : Int) := by omega
  generalize xr.getD A 0 = z at *
  clear hW0 hx hc hcell hcap hm
  go_enter Tryz.func81, Tryz.ntmps81
  go_upto_region 1 with fail
  rw [← HW0.out]
  clear HW0
  have q0 := at_cell kO 0
  go_upto_region 12 with fail
  clear q0
  have HS : Hid _ := five_end (W := W0) (v := .slice none 0 0) (n := 0) (xs := []) (by omega) kR d0 (World.ownsRow_nil _ _ _ _) (.string xn) (.int .i64 xz) (.slice (some ⟨g, off, none⟩) xr.length cm) (.bool xf) (.int .i64 xe)
  have HS2 : Hid _ := five_end (W := W0.drew) (v := .slice none 0 0) (n := 0) (xs := []) (by omega) kR (bw_drew d0) (World.ownsRow_nil _ _ _ _) (.string xn) (.int .i64 xz) (.slice (some ⟨g, off, none⟩) xr.length cm) (.bool xf) (.int .i64 xe)
  have a0 : W0.drew.cell? ⟨w.heap.size, 0, none⟩ = _ := at_cell kP 0
  have a0' : W0.cell? ⟨w.heap.size, 0, none⟩ = _ := at_cell kP 0
  have a1 : W0.drew.cell? ⟨w.heap.size, 1, none⟩ = _ := at_cell kP 1
  have a1' : W0.cell? ⟨w.heap.size, 1, none⟩ = _ := at_cell kP 1
  have a2 : W0.drew.cell? ⟨w.heap.size, 2, none⟩ = _ := at_cell kP 2
  have a2' : W0.cell? ⟨w.heap.size, 2, none⟩ = _ := at_cell kP 2
  have a3 : W0.drew.cell? ⟨w.heap.size, 3, none⟩ = _ := at_cell kP 3
  have a3' : W0.cell? ⟨w.heap.size, 3, none⟩ = _ := at_cell kP 3
  have a4 : W0.drew.cell? ⟨w.heap.size, 4, none⟩ = _ := at_cell kP 4
  have a4' : W0.cell? ⟨w.heap.size, 4, none⟩ = _ := at_cell kP 4
  have q3 : W0.drew.cell? ⟨w.heap.size + 1, 3, none⟩ = _ := at_cell kO 3
  have q3' : W0.cell? ⟨w.heap.size + 1, 3, none⟩ = _ := at_cell kO 3
  have v0 : W0.drew.cell? ⟨g, off + A, none⟩ = some (.int .i64 z) := hcell0
  have v0' : W0.cell? ⟨g, off + A, none⟩ = some (.int .i64 z) := hcell0
  have b0 : W0.drew.cell? ⟨w.heap.size + 1 + 1, 0, none⟩ = _ := at_cell kR 0
  have b0' : W0.cell? ⟨w.heap.size + 1 + 1, 0, none⟩ = _ := at_cell kR 0
  have b1 : W0.drew.cell? ⟨w.heap.size + 1 + 1, 1, none⟩ = _ := at_cell kR 1
  have b1' : W0.cell? ⟨w.heap.size + 1 + 1, 1, none⟩ = _ := at_cell kR 1
  have b2 : W0.drew.cell? ⟨w.heap.size + 1 + 1, 2, none⟩ = _ := at_cell kR 2
  have b2' : W0.cell? ⟨w.heap.size + 1 + 1, 2, none⟩ = _ := at_cell kR 2
  have b3 : W0.drew.cell? ⟨w.heap.size + 1 + 1, 3, none⟩ = _ := at_cell kR 3
  have b3' : W0.cell? ⟨w.heap.size + 1 + 1, 3, none⟩ = _ := at_cell kR 3
  have b4 : W0.drew.cell? ⟨w.heap.size + 1 + 1, 4, none⟩ = _ := at_cell kR 4
  have b4' : W0.cell? ⟨w.heap.size + 1 + 1, 4, none⟩ = _ := at_cell kR 4
  have c0 : W0.drew.frozen? ⟨w.heap.size + 1 + 1, 0, none⟩ = _ := at_open kR 0
  have c0' : W0.frozen? ⟨w.heap.size + 1 + 1, 0, none⟩ = _ := at_open kR 0
  have c1 : W0.drew.frozen? ⟨w.heap.size + 1 + 1, 1, none⟩ = _ := at_open kR 1
  have c1' : W0.frozen? ⟨w.heap.size + 1 + 1, 1, none⟩ = _ := at_open kR 1
  have c2 : W0.drew.frozen? ⟨w.heap.size + 1 + 1, 2, none⟩ = _ := at_open kR 2
  have c2' : W0.frozen? ⟨w.heap.size + 1 + 1, 2, none⟩ = _ := at_open kR 2
  have c3 : W0.drew.frozen? ⟨w.heap.size + 1 + 1, 3, none⟩ = _ := at_open kR 3
  have c3' : W0.frozen? ⟨w.heap.size + 1 + 1, 3, none⟩ = _ := at_open kR 3
  have c4 : W0.drew.frozen? ⟨w.heap.size + 1 + 1, 4, none⟩ = _ := at_open kR 4
  have c4' : W0.frozen? ⟨w.heap.size + 1 + 1, 4, none⟩ = _ := at_open kR 4
  have n1 : ¬ w.heap.size = w.heap.size + 1 + 1 := by omega
  have n2 : ¬ w.heap.size + 1 + 1 = w.heap.size := by omega
  have n3 : ¬ w.heap.size + 1 = w.heap.size + 1 + 1 := by omega
  have n4 : ¬ w.heap.size + 1 + 1 = w.heap.size + 1 := by omega
  have n5 : ¬ g = w.heap.size + 1 + 1 := by omega
  have n6 : ¬ w.heap.size + 1 + 1 = g := by omega
  have HKeep : ∀ X, Upto (w.heap.size + 1 + 1) W0 X → (X.cell? ⟨w.heap.size, 0, none⟩ = some (.string xn) ∧ X.cell? ⟨w.heap.size, 1, none⟩ = some (.int .i64 xz) ∧ X.cell? ⟨w.heap.size, 2, none⟩ = some (.slice (some ⟨g, off, none⟩) xr.length cm) ∧ X.cell? ⟨w.heap.size, 3, none⟩ = some (.bool xf) ∧ X.cell? ⟨w.heap.size, 4, none⟩ = some (.int .i64 xe) ∧ X.cell? ⟨w.heap.size + 1, 3, none⟩ = some (.int .i64 (A : Int)) ∧ X.cell? ⟨g, off + A, none⟩ = some (.int .i64 z)) := fun X u => by
    have x1 := (u.block _ (heap_lt kP) (by omega)).trans kP
    have x2 := (u.block _ (heap_lt kO) (by omega)).trans kO
    have x3 : X.cell? ⟨g, off + A, none⟩ = W0.cell? ⟨g, off + A, none⟩ := by
      have hgW : g < W0.heap.size := cell_lt hcell0
      simp only [World.cell?, u.block g hgW (by omega)]
    exact ⟨at_cell x1 0, at_cell x1 1, at_cell x1 2, at_cell x1 3, at_cell x1 4, at_cell x2 3, x3.trans hcell0⟩
  have UP : Upto (w.heap.size + 1 + 1) W0 (((((W0.setCell ⟨w.heap.size + 1 + 1, 0, none⟩ (.string xn)).setCell ⟨w.heap.size + 1 + 1, 1, none⟩ (.int .i64 xz)).setCell ⟨w.heap.size + 1 + 1, 2, none⟩ (.slice (some ⟨g, off, none⟩) xr.length cm)).setCell ⟨w.heap.size + 1 + 1, 3, none⟩ (.bool xf)).setCell ⟨w.heap.size + 1 + 1, 4, none⟩ (.int .i64 xe)) := ((((((Upto.refl _ _).setCell ⟨w.heap.size + 1 + 1, 0, none⟩ (.inl rfl) _).setCell ⟨w.heap.size + 1 + 1, 1, none⟩ (.inl rfl) _).setCell ⟨w.heap.size + 1 + 1, 2, none⟩ (.inl rfl) _).setCell ⟨w.heap.size + 1 + 1, 3, none⟩ (.inl rfl) _).setCell ⟨w.heap.size + 1 + 1, 4, none⟩ (.inl rfl) _)
  clear kP kR kO d0 hcell0 a0 a1 a2 a3 a4 a0' a1' a2' a3' a4' q3 q3' v0 v0'
  go_region_held3 (fun X => X.cell? ⟨w.heap.size, 0, none⟩ = some (.string xn) ∧ X.cell? ⟨w.heap.size, 1, none⟩ = some (.int .i64 xz) ∧ X.cell? ⟨w.heap.size, 2, none⟩ = some (.slice (some ⟨g, off, none⟩) xr.length cm) ∧ X.cell? ⟨w.heap.size, 3, none⟩ = some (.bool xf) ∧ X.cell? ⟨w.heap.size, 4, none⟩ = some (.int .i64 xe) ∧ X.cell? ⟨w.heap.size + 1, 3, none⟩ = some (.int .i64 (A : Int)) ∧ X.cell? ⟨g, off + A, none⟩ = some (.int .i64 z))
    ((first | exact HKeep _ (Upto.drew UP) | exact HKeep _ UP | (refine HKeep _ ?_; repeat (first | exact Upto.refl _ _ | refine Upto.drew ?_))))
    (fail)
  all_goals
    clear b0 b1 b2 b3 b4 c0 c1 c2 c3 c4 b0' b1' b2' b3' b4' c0' c1' c2' c3' c4'
    go_wp2_with fail
    exact bodyPost_ret (v := .tuple #[.agg #[.string xn, .int .i64 xz, .slice (some ⟨g, off, none⟩) xr.length cm, .bool xf, .int .i64 xe], .int .i64 z]) (by first | (simp [results, Tryz.results81, go_sem, at_cell HS.out.1]; done) | (simp [results, Tryz.results81, go_sem, at_cell HS2.out.1]; done)) rfl ⟨rfl, by first | exact bw_drew HS.out.2.2 | exact HS2.out.2.2 | exact HS.out.2.2⟩
end Go.Proofs.YtcefcglonooelaaGreatDoor

namespace Go.Proofs.YtcefcglonooelaaGreatDoor
open Go.RowKit

set_option linter.unusedVariables false

set_option maxRecDepth 100000


/-- p: the store (an index beyond the operations where there is none); sV: the slot of its value. -/
structure RZ (ops : Array Oper) (p sV : Nat) (G : Value → World → World) (R : Nat → Value → World → Prop) (a0 : Act) (W : World) (L : Array Bool) (a : Act) (x X : World) : Prop where
  df : a.defers = a0.defers
  sz : a.tmps.size = a0.tmps.size
  old : ∀ s, ops.toList.all (fun o => o.dst != some s) = true → a.tmps.getD s undef = a0.tmps.getD s undef
  rel : ∀ j s, L.getD j false = true → ((ops[j]?).bind (·.dst)) = some s → R j (a.tmps.getD s undef) X
  bel : Below W.heap.size W X
  pre : L.getD p false = false → x = X
  fin : L.getD p false = true → x = G (a.tmps.getD sV undef) X

def RZs (ops : Array Oper) (p sV : Nat) (G : Value → World → World) (R : Nat → Value → World → Prop) (a0 : Act) (W : World) (L : Array Bool) (a : Act) (x : World) : Prop := ∃ X, RZ ops p sV G R a0 W L a x X

theorem RZs.start (ops : Array Oper) (p sV : Nat) (G : Value → World → World) (R : Nat → Value → World → Prop) (a0 : Act) (W : World) : RZs ops p sV G R a0 W (Array.replicate ops.size false) a0 W.drew := by
  have hn : ∀ j, (Array.replicate ops.size false).getD j false = false := fun j => by
    rw [Array.getD_eq_getD_getElem?, Array.getElem?_replicate]
    split <;> rfl
  exact ⟨W.drew, rfl, rfl, fun _ _ => rfl, (fun j s h => by rw [hn] at h; cases h), bw_drew (Below.refl _ _), fun _ => rfl, (fun h => by rw [hn] at h; cases h)⟩

/-- An operation ahead of the store: it answers, and may make memory. -/
theorem RZ.val {ops : Array Oper} {p sV : Nat} {G : Value → World → World} {R : Nat → Value → World → Prop} {a0 : Act} {W : World} {L : Array Bool} {a : Act} {x X : World} (h : RZ ops p sV G R a0 W L a x X) (i s : Nat) (v : Value) (x' : World) (hp : i ≠ p) (hi : ((ops[i]?).bind (·.dst)) = some s) (hs : s < a0.tmps.size) (hd : (ops.toList.all (fun o => o.dst != some s)) = false) (hu : uniqB ops s i = true)
    (hn : L.getD p false = false) (hb : Below x.heap.size x x') (hv : R i v x') (hm : ∀ j u, R j u x → R j u x') : RZs ops p sV G R a0 W (L.setIfInBounds i true) (a.put (some s) v) x' := by
  obtain rfl := h.pre hn
  refine ⟨x', h.df, by show (a.tmps.setIfInBounds s v).size = _; rw [Array.size_setIfInBounds]; exact h.sz, fun r hr => ?_, fun j r hj hr => ?_, bw_call h.bel hb, fun _ => rfl, fun hl => by rw [getD_other hp, hn] at hl; cases hl⟩
  · have hne : s ≠ r := fun e => by subst e; rw [hd] at hr; cases hr
    exact (tmps_other v hne).trans (h.old r hr)
  · show R j ((a.tmps.setIfInBounds s v).getD r undef) x'
    by_cases e : i = j
    · subst e
      rw [hi] at hr
      cases hr
      rw [tmps_self v (by rw [h.sz]; exact hs)]
      exact hv
    · have hne : s ≠ r := fun e2 => by subst e2; exact e (uniq_of hu j hr).symm
      rw [tmps_other v hne]
      rw [getD_other e] at hj
      exact hm _ _ (h.rel j r hj hr)

/-- An operation that answers and makes nothing, ahead of the store or behind it. -/
theorem RZ.put {ops : Array Oper} {p sV : Nat} {G : Value → World → World} {R : Nat → Value → World → Prop} {a0 : Act} {W : World} {L : Array Bool} {a : Act} {x X : World} (h : RZ ops p sV G R a0 W L a x X) (i s : Nat) (v : Value) (hp : i ≠ p) (hi : ((ops[i]?).bind (·.dst)) = some s) (hs : s < a0.tmps.size) (hd : (ops.toList.all (fun o => o.dst != some s)) = false) (hu : uniqB ops s i = true)
    (hV : s ≠ sV) (hv : R i v X) : RZs ops p sV G R a0 W (L.setIfInBounds i true) (a.put (some s) v) x := by
  refine ⟨X, h.df, by show (a.tmps.setIfInBounds s v).size = _; rw [Array.size_setIfInBounds]; exact h.sz, fun r hr => ?_, fun j r hj hr => ?_, h.bel, fun hl => h.pre (by rwa [getD_other hp] at hl), fun hl => ?_⟩
  · have hne : s ≠ r := fun e => by subst e; rw [hd] at hr; cases hr
    exact (tmps_other v hne).trans (h.old r hr)
  · show R j ((a.tmps.setIfInBounds s v).getD r undef) X
    by_cases e : i = j
    · subst e
      rw [hi] at hr
      cases hr
      rw [tmps_self v (by rw [h.sz]; exact hs)]
      exact hv
    · have hne : s ≠ r := fun e2 => by subst e2; exact e (uniq_of hu j hr).symm
      rw [tmps_other v hne]
      rw [getD_other e] at hj
      exact h.rel j r hj hr
  · rw [getD_other hp] at hl
    show x = G ((a.tmps.setIfInBounds s v).getD sV undef) X
    rw [tmps_other v hV]
    exact h.fin hl

theorem RZ.store {ops : Array Oper} {p sV : Nat} {G : Value → World → World} {R : Nat → Value → World → Prop} {a0 : Act} {W : World} {L : Array Bool} {a : Act} {x X : World} (h : RZ ops p sV G R a0 W L a x X) (hp : p < L.size) (hn : L.getD p false = false) (hd : ((ops[p]?).bind (·.dst)) = none) {y : World} (hy : y = G (a.tmps.getD sV undef) x) : RZs ops p sV G R a0 W (L.setIfInBounds p true) a y := by
  obtain rfl := h.pre hn
  refine ⟨x, h.df, h.sz, h.old, fun j r hj hr => ?_, h.bel, fun hl => ?_, fun _ => hy⟩
  · by_cases e : p = j
    · subst e; rw [hd] at hr; cases hr
    · rw [getD_other e] at hj
      exact h.rel j r hj hr
  · rw [getD_self hp] at hl; cases hl

theorem RZ.frame {ops : Array Oper} {p sV : Nat} {G : Value → World → World} {R : Nat → Value → World → Prop} {a0 : Act} {W : World} {L : Array Bool} {a : Act} {x X : World} (h : RZ ops p sV G R a0 W L a x X) (S : List Nat) (hS : frameB ops S a0.tmps.size = true) : a = Act.puts a0 (fun s => a.tmps.getD s undef) S := by
  have hd : a.defers = (Act.puts a0 (fun s => a.tmps.getD s undef) S).defers := by rw [puts_defers]; exact h.df
  have ht : a.tmps = (Act.puts a0 (fun s => a.tmps.getD s undef) S).tmps := by
    refine arr_ext (by rw [puts_size]; exact h.sz) (fun r hr => ?_)
    rw [puts_at _ S a0 r (by rw [← h.sz]; exact hr)]
    by_cases hm : r ∈ S
    · rw [if_pos hm]
    · rw [if_neg hm]
      exact h.old r (frame_of hS r (by rw [← h.sz]; exact hr) hm)
  generalize Act.puts a0 (fun s => a.tmps.getD s undef) S = b at hd ht
  cases a
  cases b
  simp only at hd ht
  rw [hd, ht]
end Go.Proofs.YtcefcglonooelaaGreatDoor

namespace Go.Proofs.YtcefcglonooelaaGreatDoor
open Go.RowKit

set_option linter.unusedVariables false

set_option maxRecDepth 100000


theorem hasName_in (nm : ByteArray) (sz : Int) (m : Value) (fx : Bool) (ep : Int) (n : ByteArray) (c : Nat) (w : World) (hm : ∃ o k cap, m = .slice o k cap) (hc : c < w.heap.size) (hn : w.cell? ⟨c, 0, none⟩ = some (.string n)) :
    Calls Tryz.prog 154 #[.agg #[.string nm, .int .i64 sz, m, .bool fx, .int .i64 ep], .pointer (some ⟨c, 0, none⟩)] w fun e w' => e = .returned (.bool (decide (nm = n))) ∧ Below w.heap.size w w' := by
  obtain ⟨o, k, cap, rfl⟩ := hm
  obtain ⟨W0, hW0, k0, d0, z0⟩ := box1 w #[.string nm, .int .i64 sz, .slice o k cap, .bool fx, .int .i64 ep] 87
  have HW0 : Hid (W0 = _) := hW0
  have p0 := at_cell k0 0
  have c0 := (d0.cell (p := ⟨c, 0, none⟩) hc).trans hn
  rw [hW0] at p0 c0
  have hq := text_eq nm n
  clear hW0 k0
  go_enter Tryz.func154, Tryz.ntmps154
  go_wp2_with fail
  go_ret
  exact ⟨rfl, by rw [← HW0.out]; exact d0⟩

set_option maxHeartbeats 1600000 in
theorem indexBook_any (v : Value) (bs : List Bk) (n : ByteArray) (c : Nat) (w : World) (hms : ∀ b ∈ bs, ∃ o k cap, b.m = .slice o k cap) (r : ReadsR 5 bookC w.heap.size w v bs) (hc : c < w.heap.size) (hn : w.cell? ⟨c, 0, none⟩ = some (.string n)) :
    Calls Tryz.prog 124 #[v, .func (.func 154) #[] #[.pointer (some ⟨c, 0, none⟩)]] w fun e w' => e = .returned (.int .i64 (findB bs n)) ∧ Below w.heap.size w w' := by
  obtain ⟨o, cap, rfl, hm, hcs, -⟩ := r
  have HC : Hid _ := hcs
  have HM : Hid _ := hms
  unfold maxLen at hm
  clear hcs hms
  go_enter Tryz.func124, Tryz.ntmps124
  go_wp2_with fail
  go_loopw [8] (fun i wr => ∃ k : Nat, k ≤ bs.length ∧ i = .int .i64 k ∧ findB bs n = findFrom n ((bs.map Bk.nm).drop k) k ∧ Below w.heap.size w wr) (fun i _ => bs.length - (intOf i).toNat)
  case atStart => exact ⟨0, Nat.zero_le _, rfl, rfl, Below.refl _ _⟩
  case round =>
    obtain ⟨k, hk, rfl, hf, hb⟩ := hrel
    by_cases hlt : k < bs.length
    · obtain ⟨g, off, rfl, hg, hx⟩ := HC.out k bs[k] (List.getElem?_eq_getElem hlt)
      rw [find_at bs n k hlt] at hf
      have HF : Hid _ := hf
      have a0 := (hb.cell (p := ⟨g, off + k * 5, none⟩) hg).trans (hx 0 _ rfl)
      have a1 := (hb.cell (p := ⟨g, off + k * 5 + 1, none⟩) hg).trans (hx 1 _ rfl)
      have a2 := (hb.cell (p := ⟨g, off + k * 5 + 2, none⟩) hg).trans (hx 2 _ rfl)
      have a3 := (hb.cell (p := ⟨g, off + k * 5 + 3, none⟩) hg).trans (hx 3 _ rfl)
      have a4 := (hb.cell (p := ⟨g, off + k * 5 + 4, none⟩) hg).trans (hx 4 _ rfl)
      have hsl := HM.out bs[k] (List.getElem_mem hlt)
      have cn := (hb.cell (p := ⟨c, 0, none⟩) hc).trans hn
      have hcl := Nat.lt_of_lt_of_le hc hb.size
      clear hf HC HM hx
      generalize bs[k] = x at a0 a1 a2 a3 a4 HF hsl
      obtain ⟨nm, sz, m, rs, fx, ep⟩ := x
      simp only at a0 a1 a2 a3 a4 HF hsl
      obtain ⟨o', k', cap', rfl⟩ := hsl
      go_wp2_with (go_at_call 154; refine (hasName_in nm sz _ fx ep n c _ ⟨_, _, _, rfl⟩ hcl cn).mono ?_)
      rintro e w1 ⟨rfl, b1⟩
      replace hb := bw_call hb b1
      clear a0 a1 a2 a3 a4 b1 cn hcl
      by_cases hx : nm = n
      · have HV : Hid (findB bs n = k) := by have := HF.out; rwa [if_pos hx] at this
        rw [decide_eq_true hx]
        clear HF hx
        go_wp2_with fail
        go_ret
        exact ⟨ret_int HV.out.symm, hb⟩
      · have HV : Hid (findB bs n = findFrom n ((bs.map Bk.nm).drop (k + 1)) (k + 1)) := by have := HF.out; rwa [if_neg hx] at this
        rw [decide_eq_false hx]
        clear HF hx
        go_wp2_with fail
        go_roundw
        case rel => exact ⟨k + 1, by omega, by go_num, HV.out, hb⟩
        case measure => simp [intOf]; omega
    · rw [find_end bs n k hlt] at hf
      have HF : Hid _ := hf
      clear hf HC
      go_wp2_with fail
      go_ret
      exact ⟨ret_int HF.out.symm, hb⟩

theorem hasName_any (n : ByteArray) (w : World) :
    Calls Tryz.prog 125 #[.string n] w fun e w' => e = .returned (.func (.func 154) #[] #[.pointer (some ⟨w.heap.size, 0, none⟩)]) ∧ w' = w.alloc (.cells #[.string n] 9) := by
  have hmf : ∀ (fn : Fn) (first cap : Array Value) (w : World), (Instr.makeFunc fn first cap).run Tryz.prog w = .ok (.func fn first cap) w := fun _ _ _ _ => rfl
  go_enter Tryz.func125, Tryz.ntmps125
  go_wp2_with fail
  go_ret
  exact ⟨rfl, rfl⟩

theorem implFindBook_any (v : Value) (bs : List Bk) (n : ByteArray) (w : World) (hms : ∀ b ∈ bs, ∃ o k cap, b.m = .slice o k cap) (r : ReadsR 5 bookC w.heap.size w v bs) :
    Calls Tryz.prog 76 #[v, .string n] w fun e w' => e = .returned (.int .i64 (findB bs n)) ∧ Below w.heap.size w w' := by
  obtain ⟨W0, hW0, k0, d0, z0⟩ := box1 w #[.string n] 9
  have r0 := (r.below d0).mono d0.size
  have p0 := at_cell k0 0
  have hlt := heap_lt k0
  have HM : Hid _ := hms
  clear k0 r hms
  go_enter Tryz.func76, Tryz.ntmps76
  go_wp2_with fail
  refine (hasName_any n _).mono ?_
  rintro e w1 ⟨rfl, h1⟩
  rw [← hW0] at h1
  subst h1
  clear hW0
  go_wp2_with fail
  refine (indexBook_any v bs n _ _ HM.out r0 hlt p0).mono ?_
  rintro e w2 ⟨rfl, b2⟩
  go_wp2_with fail
  go_ret
  exact ⟨rfl, bw_call d0 b2⟩
end Go.Proofs.YtcefcglonooelaaGreatDoor

namespace Go.Proofs.YtcefcglonooelaaGreatDoor
open Nums

set_option linter.unusedVariables false

set_option maxRecDepth 100000


/-- What of a kind lies within which limits. -/
def lmAt (k : Int) : Int := if kAt k = true then 255 else 0

def lmLo (k : Int) : Int := if kSize k = true then 1 else 0

def lmHi (k : Int) : Int := if kSize k = true then 16 else if k = 2 then 999 else 0

def lmEp (k : Int) : Int := if kEpoch k = true then 1000 else 0

def otOk (ot : ByteArray) (h : Bool) : Bool := if h = true then nameB ot.data.toList else decide (ot.size = 0)

def opBy (o : Oq) : Bool :=
  inB o.k 1 9 && nameB o.nm.data.toList && otOk o.ot (kOther o.k) && inB o.at_ 0 (lmAt o.k) && inB o.va (lmLo o.k) (lmHi o.k) && inB o.ep 0 (lmEp o.k)

theorem inB_zero (x : Int) : inB x 0 0 = decide (x = 0) := by
  rw [Bool.eq_iff_iff, inB_iff, decide_eq_true_eq]; omega

theorem inB_or (b : Bool) (x hi : Int) (h : 0 ≤ hi) : ((b || decide (x = 0)) && inB x 0 hi) = inB x 0 (if b = true then hi else 0) := by
  cases b
  · rw [Bool.eq_iff_iff]
    simp only [Bool.false_or, Bool.and_eq_true, inB_iff, decide_eq_true_eq, Bool.false_eq_true, if_false]
    omega
  · simp

theorem ot_by (ot : ByteArray) (b : Bool) : ((b == decide (ot.size ≠ 0)) && (!b || nameB ot.data.toList)) = otOk ot b := by
  cases b
  · simp [otOk]
  · unfold otOk
    rw [if_pos rfl]
    cases h : nameB ot.data.toList
    · simp
    · have := nameB_size ot h
      have e : decide (ot.size ≠ 0) = true := by simp only [decide_eq_true_eq]; omega
      rw [e]
      rfl

theorem val_by (k va : Int) : valOk k va = inB va (lmLo k) (lmHi k) := by
  unfold valOk lmLo lmHi
  split
  · rfl
  · split
    · rfl
    · exact (inB_zero va).symm

theorem opOk_by (o : Oq) : opOk o = opBy o := by
  have h1 := ot_by o.ot (kOther o.k)
  have h2 := inB_or (kAt o.k) o.at_ 255 (by omega)
  have h3 := inB_or (kEpoch o.k) o.ep 1000 (by omega)
  have h4 := val_by o.k o.va
  have e : opOk o = (nameB o.nm.data.toList && inB o.k 1 9 && ((kOther o.k == decide (o.ot.size ≠ 0)) && (!kOther o.k || nameB o.ot.data.toList)) && ((kAt o.k || decide (o.at_ = 0)) && inB o.at_ 0 255) && ((kEpoch o.k || decide (o.ep = 0)) && inB o.ep 0 1000) && valOk o.k o.va) := by
    unfold opOk
    simp only [Bool.and_assoc]
  rw [e, h1, h2, h3, h4]
  unfold opBy lmAt lmEp
  generalize nameB o.nm.data.toList = a
  generalize inB o.k 1 9 = b
  generalize otOk o.ot (kOther o.k) = c
  generalize inB o.at_ 0 _ = d
  generalize inB o.ep 0 _ = e
  generalize inB o.va _ _ = f
  cases a <;> cases b <;> cases c <;> cases d <;> cases e <;> cases f <;> rfl
end Go.Proofs.YtcefcglonooelaaGreatDoor

namespace Go.Proofs.YtcefcglonooelaaGreatDoor
open Go.RowKit

set_option linter.unusedVariables false

set_option maxRecDepth 100000


theorem within_any (x lo hi : Int) (w : World) :
    Calls Tryz.prog 150 #[.int .i64 x, .int .i64 lo, .int .i64 hi] w fun e w' => e = .returned (.bool (inB x lo hi)) ∧ w' = w := by
  by_cases h : lo ≤ x
  · go_enter Tryz.func150, Tryz.ntmps150
    go_wp2
    go_ret
    exact ⟨ret_bool (by simp [inB, h]), rfl⟩
  · go_enter Tryz.func150, Tryz.ntmps150
    go_wp2
    go_ret
    exact ⟨ret_bool (by simp [inB]; omega), rfl⟩

theorem otherOk_any (ot : ByteArray) (b : Bool) (w : World) (ho : ot.size ≤ maxLen) :
    Calls Tryz.prog 149 #[.string ot, .bool b] w fun e w' => e = .returned (.bool (otOk ot b)) ∧ w' = w := by
  cases b
  · have HE : Hid (_ = _) := text_nil ot
    have HV : Hid (otOk ot false = decide (ot.size = 0)) := by simp [Hid, otOk]
    go_enter Tryz.func149, Tryz.ntmps149
    go_wp2_with fail
    go_ret
    exact ⟨ret_bool (by rw [HV.out, ← HE.out]; simp), rfl⟩
  · have HV : Hid (otOk ot true = Nums.nameB ot.data.toList) := by simp [Hid, otOk]
    go_enter Tryz.func149, Tryz.ntmps149
    go_wp2_with fail
    refine (implName_any ot _ ho).mono ?_
    rintro e w' ⟨rfl, rfl⟩
    go_wp2_with fail
    go_ret
    exact ⟨ret_bool HV.out.symm, rfl⟩

/-- What limitsOf answers. -/
def limV (k : Int) : Value := .tuple #[.agg #[.bool (kOther k), .int .i64 (lmAt k), .int .i64 (lmLo k), .int .i64 (lmHi k), .int .i64 (lmEp k)], .bool (inB k 1 9)]

theorem limits_in (k : Int) (w : World) (h : k = 1 ∨ k = 2 ∨ k = 3 ∨ k = 4 ∨ k = 5 ∨ k = 6 ∨ k = 7 ∨ k = 8 ∨ k = 9) :
    Calls Tryz.prog 148 #[.int .i64 k] w fun e w' => e = .returned (limV k) ∧ Below w.heap.size w w' := by
  rcases h with rfl | rfl | rfl | rfl | rfl | rfl | rfl | rfl | rfl
  all_goals
    go_enter Tryz.func148, Tryz.ntmps148
    go_wp2_with fail
    exact bodyPost_ret (v := limV _) (by simp [results, Tryz.results148, go_sem]; rfl) rfl ⟨rfl, by go_grown⟩

theorem limits_out (k : Int) (w : World) (h : ¬ (1 ≤ k ∧ k ≤ 9)) :
    Calls Tryz.prog 148 #[.int .i64 k] w fun e w' => e = .returned (limV k) ∧ Below w.heap.size w w' := by
  have n1 : ¬ k = 1 := by omega
  have n2 : ¬ k = 2 := by omega
  have n3 : ¬ k = 3 := by omega
  have n4 : ¬ k = 4 := by omega
  have n5 : ¬ k = 5 := by omega
  have n6 : ¬ k = 6 := by omega
  have n7 : ¬ k = 7 := by omega
  have n8 : ¬ k = 8 := by omega
  have n9 : ¬ k = 9 := by omega
  have HV : Hid (limV k = .tuple #[.agg #[.bool false, .int .i64 0, .int .i64 0, .int .i64 0, .int .i64 0], .bool false]) := by
    have e : inB k 1 9 = false := by rw [Bool.eq_false_iff, ne_eq, inB_iff]; exact h
    unfold limV
    rw [Hid, e]
    simp [lmAt, lmLo, lmHi, lmEp, kAt, kSize, kEpoch, kOther, *]
  go_enter Tryz.func148, Tryz.ntmps148
  go_wp2_with fail
  exact bodyPost_ret (v := .tuple #[.agg #[.bool false, .int .i64 0, .int .i64 0, .int .i64 0, .int .i64 0], .bool false]) (by simp [results, Tryz.results148, go_sem]) rfl ⟨by rw [HV.out], by go_grown⟩

theorem limits_any (k : Int) (w : World) :
    Calls Tryz.prog 148 #[.int .i64 k] w fun e w' => e = .returned (limV k) ∧ Below w.heap.size w w' := by
  by_cases h : 1 ≤ k ∧ k ≤ 9
  · exact limits_in k w (by omega)
  · exact limits_out k w h

set_option maxHeartbeats 1600000 in
theorem implOpOk_any (k : Int) (nm ot : ByteArray) (at_ va ep : Int) (w : World) (hn : nm.size ≤ maxLen) (ho : ot.size ≤ maxLen) (fk : I64 k) (fa : I64 at_) (fv : I64 va) (fe : I64 ep) :
    Calls Tryz.prog 113 #[.agg #[.int .i64 k, .string nm, .string ot, .int .i64 at_, .int .i64 va, .int .i64 ep]] w fun e w' => e = .returned (.bool (opOk ⟨k, nm, ot, at_, va, ep⟩)) ∧ Below w.heap.size w w' := by
  rw [opOk_by]
  obtain ⟨W0, hW0, k0, d0, z0⟩ := box1 w #[.int .i64 k, .string nm, .string ot, .int .i64 at_, .int .i64 va, .int .i64 ep] 26
  have HW0 : Hid (W0 = _) := hW0
  have s0 := heap_lt k0
  have p0 := at_cell k0 0
  clear hW0 z0
  go_enter Tryz.func113, Tryz.ntmps113
  go_wp2_with fail
  rw [← HW0.out]
  clear HW0 p0
  refine (limits_any k _).mono ?_
  unfold limV
  rintro e w1 ⟨rfl, b1⟩
  replace k0 := (b1.block _ s0).trans k0
  replace d0 := bw_call d0 b1
  have t0 := heap_lt k0
  have o1 := at_cell k0 1
  obtain ⟨W1, hW1, k1, d1, z1⟩ := box1 w1 #[.bool (kOther k), .int .i64 (lmAt k), .int .i64 (lmLo k), .int .i64 (lmHi k), .int .i64 (lmEp k)] 181
  have HW1 : Hid (W1 = _) := hW1
  replace k0 := (d1.block _ t0).trans k0
  replace d0 := bw_call d0 d1
  have p1 := at_cell k0 1
  have p2 := at_cell k0 2
  have p3 := at_cell k0 3
  have p4 := at_cell k0 4
  have p5 := at_cell k0 5
  have r0 := at_cell k1 0
  have r1 := at_cell k1 1
  have r2 := at_cell k1 2
  have r3 := at_cell k1 3
  have r4 := at_cell k1 4
  have HB : Hid (opBy ⟨k, nm, ot, at_, va, ep⟩ = (inB k 1 9 && Nums.nameB nm.data.toList && otOk ot (kOther k) && inB at_ 0 (lmAt k) && inB va (lmLo k) (lmHi k) && inB ep 0 (lmEp k))) := rfl
  clear b1 d1 z1 hW1 k0 k1 s0
  generalize kOther k = x0 at *
  generalize lmAt k = x1 at *
  generalize lmLo k = x2 at *
  generalize lmHi k = x3 at *
  generalize lmEp k = x4 at *
  generalize inB k 1 9 = c0 at *
  cases c0
  · go_wp2_with fail
    rw [← HW1.out]
    clear HW1
    go_ret
    exact ⟨ret_bool (by rw [HB.out]; rfl), d0⟩
  go_wp2_with fail
  rw [← HW1.out]
  clear HW1 o1 t0
  refine (implName_any nm _ hn).mono ?_
  rintro e w' ⟨rfl, rfl⟩
  generalize Nums.nameB nm.data.toList = c1 at *
  cases c1
  · go_wp2_with fail
    go_ret
    exact ⟨ret_bool (by rw [HB.out]; rfl), d0⟩
  go_wp2_with fail
  refine (otherOk_any ot x0 _ ho).mono ?_
  rintro e w' ⟨rfl, rfl⟩
  generalize otOk ot x0 = c2 at *
  cases c2
  · go_wp2_with fail
    go_ret
    exact ⟨ret_bool (by rw [HB.out]; rfl), d0⟩
  go_wp2_with fail
  refine (within_any at_ 0 x1 _).mono ?_
  rintro e w' ⟨rfl, rfl⟩
  generalize inB at_ 0 x1 = c3 at *
  cases c3
  · go_wp2_with fail
    go_ret
    exact ⟨ret_bool (by rw [HB.out]; rfl), d0⟩
  go_wp2_with fail
  refine (within_any va x2 x3 _).mono ?_
  rintro e w' ⟨rfl, rfl⟩
  generalize inB va x2 x3 = c4 at *
  cases c4
  · go_wp2_with fail
    go_ret
    exact ⟨ret_bool (by rw [HB.out]; rfl), d0⟩
  go_wp2_with fail
  refine (within_any ep 0 x4 _).mono ?_
  rintro e w' ⟨rfl, rfl⟩
  generalize inB ep 0 x4 = c5 at *
  go_wp2_with fail
  go_ret
  exact ⟨ret_bool (by rw [HB.out]; rfl), d0⟩
end Go.Proofs.YtcefcglonooelaaGreatDoor

