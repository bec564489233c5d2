/-
  Contracts and plain laws, one chapter behind the other.
-/
import Derived.Deep.RegionHeld3
import Derived.Deep.DeepCutAuto
import Derived.Lib.AppendZerosOnto
import Derived.Test.YtcefcglonooelaaGreatDoorB01
import Derived.Test.YtcefcglonooelaaGreatDoorB06
import Derived.Test.YtcefcglonooelaaGreatDoorB24
import Derived.Test.YtcefcglonooelaaGreatDoorB26
import Derived.Test.YtcefcglonooelaaGreatDoorB30
import Derived.Test.YtcefcglonooelaaGreatDoorB33
import Derived.Test.YtcefcglonooelaaGreatDoorB35
namespace Go.Proofs.YtcefcglonooelaaGreatDoor
open Go.RowKit

set_option linter.unusedVariables false

set_option maxRecDepth 100000


set_option maxHeartbeats 3200000 in
theorem changedPlain_9 (xn : ByteArray) (xz : Int) (xm : Value) (xr : List Int) (xf : Bool) (xe : Int) (nm ot : ByteArray) (A : Nat) (va ep : Int) (w : World) (hA : A < xr.length) (r : ReadsR 1 intC w.heap.size w xm xr) :
    Calls Tryz.prog 81 #[.agg #[.string xn, .int .i64 xz, xm, .bool xf, .int .i64 xe], .agg #[.int .i64 9, .string nm, .string ot, .int .i64 (A : Int), .int .i64 va, .int .i64 ep]] w fun e w' => e = .returned (.tuple #[.agg #[.string xn, .int .i64 xz, xm, .bool xf, .int .i64 xe], .int .i64 (xr.getD A 0)]) ∧ Below w.heap.size w w' := by
  obtain ⟨om, cm, hmf, hm, hc, hcap⟩ := r
  obtain ⟨g, off, rfl, hg, hx⟩ := hc A xr[A] (List.getElem?_eq_getElem hA)
  subst hmf
  have hcell : w.cell? ⟨g, off + A, none⟩ = some (.int .i64 (xr.getD A 0)) := by
    have h := hx 0 _ rfl
    have e : xr.getD A 0 = xr[A] := by simp [List.getD_eq_getElem?_getD, hA]
    rw [e]
    simpa using h
  obtain ⟨W0, hW0, kP, kO, kR, d0, z0⟩ := box3 w #[.string xn, .int .i64 xz, .slice (some ⟨g, off, none⟩) xr.length cm, .bool xf, .int .i64 xe] #[.int .i64 9, .string nm, .string ot, .int .i64 (A : Int), .int .i64 va, .int .i64 ep] #[.string ⟨#[]⟩, .int .i64 0, .slice none 0 0, .bool false, .int .i64 0] 51 26 51
  have HW0 : Hid (W0 = _) := hW0
  have hcell0 := (d0.cell (p := ⟨g, off + A, none⟩) hg).trans hcell
  have i1 : (0 : Int) ≤ (A : Int) := by omega
  have i2 : (A : Int) < (xr.length : Int) := by omega
  generalize xr.getD A 0 = z at *
  clear hW0 hx hc hcell hcap hm
  go_enter Tryz.func81, Tryz.ntmps81
  go_upto_region 1 with fail
  rw [← HW0.out]
  clear HW0
  have q0 := at_cell kO 0
  go_upto_region 12 with fail
  clear q0
  have HS : Hid _ := five_end (W := W0) (v := .slice none 0 0) (n := 0) (xs := []) (by omega) kR d0 (World.ownsRow_nil _ _ _ _) (.string xn) (.int .i64 xz) (.slice (some ⟨g, off, none⟩) xr.length cm) (.bool xf) (.int .i64 xe)
  have HS2 : Hid _ := five_end (W := W0.drew) (v := .slice none 0 0) (n := 0) (xs := []) (by omega) kR (bw_drew d0) (World.ownsRow_nil _ _ _ _) (.string xn) (.int .i64 xz) (.slice (some ⟨g, off, none⟩) xr.length cm) (.bool xf) (.int .i64 xe)
  have a0 : W0.drew.cell? ⟨w.heap.size, 0, none⟩ = _ := at_cell kP 0
  have a0' : W0.cell? ⟨w.heap.size, 0, none⟩ = _ := at_cell kP 0
  have a1 : W0.drew.cell? ⟨w.heap.size, 1, none⟩ = _ := at_cell kP 1
  have a1' : W0.cell? ⟨w.heap.size, 1, none⟩ = _ := at_cell kP 1
  have a2 : W0.drew.cell? ⟨w.heap.size, 2, none⟩ = _ := at_cell kP 2
  have a2' : W0.cell? ⟨w.heap.size, 2, none⟩ = _ := at_cell kP 2
  have a3 : W0.drew.cell? ⟨w.heap.size, 3, none⟩ = _ := at_cell kP 3
  have a3' : W0.cell? ⟨w.heap.size, 3, none⟩ = _ := at_cell kP 3
  have a4 : W0.drew.cell? ⟨w.heap.size, 4, none⟩ = _ := at_cell kP 4
  have a4' : W0.cell? ⟨w.heap.size, 4, none⟩ = _ := at_cell kP 4
  have q3 : W0.drew.cell? ⟨w.heap.size + 1, 3, none⟩ = _ := at_cell kO 3
  have q3' : W0.cell? ⟨w.heap.size + 1, 3, none⟩ = _ := at_cell kO 3
  have v0 : W0.drew.cell? ⟨g, off + A, none⟩ = some (.int .i64 z) := hcell0
  have v0' : W0.cell? ⟨g, off + A, none⟩ = some (.int .i64 z) := hcell0
  have b0 : W0.drew.cell? ⟨w.heap.size + 1 + 1, 0, none⟩ = _ := at_cell kR 0
  have b0' : W0.cell? ⟨w.heap.size + 1 + 1, 0, none⟩ = _ := at_cell kR 0
  have b1 : W0.drew.cell? ⟨w.heap.size + 1 + 1, 1, none⟩ = _ := at_cell kR 1
  have b1' : W0.cell? ⟨w.heap.size + 1 + 1, 1, none⟩ = _ := at_cell kR 1
  have b2 : W0.drew.cell? ⟨w.heap.size + 1 + 1, 2, none⟩ = _ := at_cell kR 2
  have b2' : W0.cell? ⟨w.heap.size + 1 + 1, 2, none⟩ = _ := at_cell kR 2
  have b3 : W0.drew.cell? ⟨w.heap.size + 1 + 1, 3, none⟩ = _ := at_cell kR 3
  have b3' : W0.cell? ⟨w.heap.size + 1 + 1, 3, none⟩ = _ := at_cell kR 3
  have b4 : W0.drew.cell? ⟨w.heap.size + 1 + 1, 4, none⟩ = _ := at_cell kR 4
  have b4' : W0.cell? ⟨w.heap.size + 1 + 1, 4, none⟩ = _ := at_cell kR 4
  have c0 : W0.drew.frozen? ⟨w.heap.size + 1 + 1, 0, none⟩ = _ := at_open kR 0
  have c0' : W0.frozen? ⟨w.heap.size + 1 + 1, 0, none⟩ = _ := at_open kR 0
  have c1 : W0.drew.frozen? ⟨w.heap.size + 1 + 1, 1, none⟩ = _ := at_open kR 1
  have c1' : W0.frozen? ⟨w.heap.size + 1 + 1, 1, none⟩ = _ := at_open kR 1
  have c2 : W0.drew.frozen? ⟨w.heap.size + 1 + 1, 2, none⟩ = _ := at_open kR 2
  have c2' : W0.frozen? ⟨w.heap.size + 1 + 1, 2, none⟩ = _ := at_open kR 2
  have c3 : W0.drew.frozen? ⟨w.heap.size + 1 + 1, 3, none⟩ = _ := at_open kR 3
  have c3' : W0.frozen? ⟨w.heap.size + 1 + 1, 3, none⟩ = _ := at_open kR 3
  have c4 : W0.drew.frozen? ⟨w.heap.size + 1 + 1, 4, none⟩ = _ := at_open kR 4
  have c4' : W0.frozen? ⟨w.heap.size + 1 + 1, 4, none⟩ = _ := at_open kR 4
  have n1 : ¬ w.heap.size = w.heap.size + 1 + 1 := by omega
  have n2 : ¬ w.heap.size + 1 + 1 = w.heap.size := by omega
  have n3 : ¬ w.heap.size + 1 = w.heap.size + 1 + 1 := by omega
  have n4 : ¬ w.heap.size + 1 + 1 = w.heap.size + 1 := by omega
  have n5 : ¬ g = w.heap.size + 1 + 1 := by omega
  have n6 : ¬ w.heap.size + 1 + 1 = g := by omega
  have HKeep : ∀ X, Upto (w.heap.size + 1 + 1) W0 X → (X.cell? ⟨w.heap.size, 0, none⟩ = some (.string xn) ∧ X.cell? ⟨w.heap.size, 1, none⟩ = some (.int .i64 xz) ∧ X.cell? ⟨w.heap.size, 2, none⟩ = some (.slice (some ⟨g, off, none⟩) xr.length cm) ∧ X.cell? ⟨w.heap.size, 3, none⟩ = some (.bool xf) ∧ X.cell? ⟨w.heap.size, 4, none⟩ = some (.int .i64 xe) ∧ X.cell? ⟨w.heap.size + 1, 3, none⟩ = some (.int .i64 (A : Int)) ∧ X.cell? ⟨g, off + A, none⟩ = some (.int .i64 z)) := fun X u => by
    have x1 := (u.block _ (heap_lt kP) (by omega)).trans kP
    have x2 := (u.block _ (heap_lt kO) (by omega)).trans kO
    have x3 : X.cell? ⟨g, off + A, none⟩ = W0.cell? ⟨g, off + A, none⟩ := by
      have hgW : g < W0.heap.size := cell_lt hcell0
      simp only [World.cell?, u.block g hgW (by omega)]
    exact ⟨at_cell x1 0, at_cell x1 1, at_cell x1 2, at_cell x1 3, at_cell x1 4, at_cell x2 3, x3.trans hcell0⟩
  have UP : Upto (w.heap.size + 1 + 1) W0 (((((W0.setCell ⟨w.heap.size + 1 + 1, 0, none⟩ (.string xn)).setCell ⟨w.heap.size + 1 + 1, 1, none⟩ (.int .i64 xz)).setCell ⟨w.heap.size + 1 + 1, 2, none⟩ (.slice (some ⟨g, off, none⟩) xr.length cm)).setCell ⟨w.heap.size + 1 + 1, 3, none⟩ (.bool xf)).setCell ⟨w.heap.size + 1 + 1, 4, none⟩ (.int .i64 xe)) := ((((((Upto.refl _ _).setCell ⟨w.heap.size + 1 + 1, 0, none⟩ (.inl rfl) _).setCell ⟨w.heap.size + 1 + 1, 1, none⟩ (.inl rfl) _).setCell ⟨w.heap.size + 1 + 1, 2, none⟩ (.inl rfl) _).setCell ⟨w.heap.size + 1 + 1, 3, none⟩ (.inl rfl) _).setCell ⟨w.heap.size + 1 + 1, 4, none⟩ (.inl rfl) _)
  clear kP kR kO d0 hcell0 a0 a1 a2 a3 a4 a0' a1' a2' a3' a4' q3 q3' v0 v0'
  go_region_held3 (fun X => X.cell? ⟨w.heap.size, 0, none⟩ = some (.string xn) ∧ X.cell? ⟨w.heap.size, 1, none⟩ = some (.int .i64 xz) ∧ X.cell? ⟨w.heap.size, 2, none⟩ = some (.slice (some ⟨g, off, none⟩) xr.length cm) ∧ X.cell? ⟨w.heap.size, 3, none⟩ = some (.bool xf) ∧ X.cell? ⟨w.heap.size, 4, none⟩ = some (.int .i64 xe) ∧ X.cell? ⟨w.heap.size + 1, 3, none⟩ = some (.int .i64 (A : Int)) ∧ X.cell? ⟨g, off + A, none⟩ = some (.int .i64 z))
    ((first | exact HKeep _ (Upto.drew UP) | exact HKeep _ UP | (refine HKeep _ ?_; repeat (first | exact Upto.refl _ _ | refine Upto.drew ?_))))
    (fail)
  all_goals
    clear b0 b1 b2 b3 b4 c0 c1 c2 c3 c4 b0' b1' b2' b3' b4' c0' c1' c2' c3' c4'
    go_wp2_with fail
    exact bodyPost_ret (v := .tuple #[.agg #[.string xn, .int .i64 xz, .slice (some ⟨g, off, none⟩) xr.length cm, .bool xf, .int .i64 xe], .int .i64 z]) (by first | (simp [results, Tryz.results81, go_sem, at_cell HS.out.1]; done) | (simp [results, Tryz.results81, go_sem, at_cell HS2.out.1]; done)) rfl ⟨rfl, by first | exact bw_drew HS.out.2.2 | exact HS2.out.2.2 | exact HS.out.2.2⟩
end Go.Proofs.YtcefcglonooelaaGreatDoor

namespace Go.Proofs.YtcefcglonooelaaGreatDoor
open Go.RowKit

set_option linter.unusedVariables false

set_option maxRecDepth 100000


/-- p: the store (an index beyond the operations where there is none); sV: the slot of its value. -/
structure RZ (ops : Array Oper) (p sV : Nat) (G : Value → World → World) (R : Nat → Value → World → Prop) (a0 : Act) (W : World) (L : Array Bool) (a : Act) (x X : World) : Prop where
  df : a.defers = a0.defers
  sz : a.tmps.size = a0.tmps.size
  old : ∀ s, ops.toList.all (fun o => o.dst != some s) = true → a.tmps.getD s undef = a0.tmps.getD s undef
  rel : ∀ j s, L.getD j false = true → ((ops[j]?).bind (·.dst)) = some s → R j (a.tmps.getD s undef) X
  bel : Below W.heap.size W X
  pre : L.getD p false = false → x = X
  fin : L.getD p false = true → x = G (a.tmps.getD sV undef) X

def RZs (ops : Array Oper) (p sV : Nat) (G : Value → World → World) (R : Nat → Value → World → Prop) (a0 : Act) (W : World) (L : Array Bool) (a : Act) (x : World) : Prop := ∃ X, RZ ops p sV G R a0 W L a x X

theorem RZs.start (ops : Array Oper) (p sV : Nat) (G : Value → World → World) (R : Nat → Value → World → Prop) (a0 : Act) (W : World) : RZs ops p sV G R a0 W (Array.replicate ops.size false) a0 W.drew := by
  have hn : ∀ j, (Array.replicate ops.size false).getD j false = false := fun j => by
    rw [Array.getD_eq_getD_getElem?, Array.getElem?_replicate]
    split <;> rfl
  exact ⟨W.drew, rfl, rfl, fun _ _ => rfl, (fun j s h => by rw [hn] at h; cases h), bw_drew (Below.refl _ _), fun _ => rfl, (fun h => by rw [hn] at h; cases h)⟩

/-- An operation ahead of the store: it answers, and may make memory. -/
theorem RZ.val {ops : Array Oper} {p sV : Nat} {G : Value → World → World} {R : Nat → Value → World → Prop} {a0 : Act} {W : World} {L : Array Bool} {a : Act} {x X : World} (h : RZ ops p sV G R a0 W L a x X) (i s : Nat) (v : Value) (x' : World) (hp : i ≠ p) (hi : ((ops[i]?).bind (·.dst)) = some s) (hs : s < a0.tmps.size) (hd : (ops.toList.all (fun o => o.dst != some s)) = false) (hu : uniqB ops s i = true)
    (hn : L.getD p false = false) (hb : Below x.heap.size x x') (hv : R i v x') (hm : ∀ j u, R j u x → R j u x') : RZs ops p sV G R a0 W (L.setIfInBounds i true) (a.put (some s) v) x' := by
  obtain rfl := h.pre hn
  refine ⟨x', h.df, by show (a.tmps.setIfInBounds s v).size = _; rw [Array.size_setIfInBounds]; exact h.sz, fun r hr => ?_, fun j r hj hr => ?_, bw_call h.bel hb, fun _ => rfl, fun hl => by rw [getD_other hp, hn] at hl; cases hl⟩
  · have hne : s ≠ r := fun e => by subst e; rw [hd] at hr; cases hr
    exact (tmps_other v hne).trans (h.old r hr)
  · show R j ((a.tmps.setIfInBounds s v).getD r undef) x'
    by_cases e : i = j
    · subst e
      rw [hi] at hr
      cases hr
      rw [tmps_self v (by rw [h.sz]; exact hs)]
      exact hv
    · have hne : s ≠ r := fun e2 => by subst e2; exact e (uniq_of hu j hr).symm
      rw [tmps_other v hne]
      rw [getD_other e] at hj
      exact hm _ _ (h.rel j r hj hr)

/-- An operation that answers and makes nothing, ahead of the store or behind it. -/
theorem RZ.put {ops : Array Oper} {p sV : Nat} {G : Value → World → World} {R : Nat → Value → World → Prop} {a0 : Act} {W : World} {L : Array Bool} {a : Act} {x X : World} (h : RZ ops p sV G R a0 W L a x X) (i s : Nat) (v : Value) (hp : i ≠ p) (hi : ((ops[i]?).bind (·.dst)) = some s) (hs : s < a0.tmps.size) (hd : (ops.toList.all (fun o => o.dst != some s)) = false) (hu : uniqB ops s i = true)
    (hV : s ≠ sV) (hv : R i v X) : RZs ops p sV G R a0 W (L.setIfInBounds i true) (a.put (some s) v) x := by
  refine ⟨X, h.df, by show (a.tmps.setIfInBounds s v).size = _; rw [Array.size_setIfInBounds]; exact h.sz, fun r hr => ?_, fun j r hj hr => ?_, h.bel, fun hl => h.pre (by rwa [getD_other hp] at hl), fun hl => ?_⟩
  · have hne : s ≠ r := fun e => by subst e; rw [hd] at hr; cases hr
    exact (tmps_other v hne).trans (h.old r hr)
  · show R j ((a.tmps.setIfInBounds s v).getD r undef) X
    by_cases e : i = j
    · subst e
      rw [hi] at hr
      cases hr
      rw [tmps_self v (by rw [h.sz]; exact hs)]
      exact hv
    · have hne : s ≠ r := fun e2 => by subst e2; exact e (uniq_of hu j hr).symm
      rw [tmps_other v hne]
      rw [getD_other e] at hj
      exact h.rel j r hj hr
  · rw [getD_other hp] at hl
    show x = G ((a.tmps.setIfInBounds s v).getD sV undef) X
    rw [tmps_other v hV]
    exact h.fin hl

theorem RZ.store {ops : Array Oper} {p sV : Nat} {G : Value → World → World} {R : Nat → Value → World → Prop} {a0 : Act} {W : World} {L : Array Bool} {a : Act} {x X : World} (h : RZ ops p sV G R a0 W L a x X) (hp : p < L.size) (hn : L.getD p false = false) (hd : ((ops[p]?).bind (·.dst)) = none) {y : World} (hy : y = G (a.tmps.getD sV undef) x) : RZs ops p sV G R a0 W (L.setIfInBounds p true) a y := by
  obtain rfl := h.pre hn
  refine ⟨x, h.df, h.sz, h.old, fun j r hj hr => ?_, h.bel, fun hl => ?_, fun _ => hy⟩
  · by_cases e : p = j
    · subst e; rw [hd] at hr; cases hr
    · rw [getD_other e] at hj
      exact h.rel j r hj hr
  · rw [getD_self hp] at hl; cases hl

theorem RZ.frame {ops : Array Oper} {p sV : Nat} {G : Value → World → World} {R : Nat → Value → World → Prop} {a0 : Act} {W : World} {L : Array Bool} {a : Act} {x X : World} (h : RZ ops p sV G R a0 W L a x X) (S : List Nat) (hS : frameB ops S a0.tmps.size = true) : a = Act.puts a0 (fun s => a.tmps.getD s undef) S := by
  have hd : a.defers = (Act.puts a0 (fun s => a.tmps.getD s undef) S).defers := by rw [puts_defers]; exact h.df
  have ht : a.tmps = (Act.puts a0 (fun s => a.tmps.getD s undef) S).tmps := by
    refine arr_ext (by rw [puts_size]; exact h.sz) (fun r hr => ?_)
    rw [puts_at _ S a0 r (by rw [← h.sz]; exact hr)]
    by_cases hm : r ∈ S
    · rw [if_pos hm]
    · rw [if_neg hm]
      exact h.old r (frame_of hS r (by rw [← h.sz]; exact hr) hm)
  generalize Act.puts a0 (fun s => a.tmps.getD s undef) S = b at hd ht
  cases a
  cases b
  simp only at hd ht
  rw [hd, ht]
end Go.Proofs.YtcefcglonooelaaGreatDoor

namespace Go.Proofs.YtcefcglonooelaaGreatDoor
open Go.RowKit

set_option linter.unusedVariables false

set_option maxRecDepth 100000


/-- Why plain ones refuse an op: 0 where they don't. -/
def plCode (l : List Pv) (o : Oq) (told : Int) : Int := if refCode (l.map Pv.pb) o = 0 then (if o.k = 2 ∧ told = 9 then 9 else 0) else refCode (l.map Pv.pb) o

set_option maxHeartbeats 3200000 in
theorem refusedPlain_any (vb : Value) (bks : List Pk) (k : Int) (nm ot : ByteArray) (at_ va ep told : Int) (w : World) (ad : Nat → Addr) (hv : Vars w ad) (hn : nm.size ≤ maxLen) (hot : ot.size ≤ maxLen) (fk : I64 k) (fa : I64 at_) (fv : I64 va) (fe : I64 ep) (hl : bks.length ≤ 6) (hep : ∀ b ∈ bks, b.ep ≤ 1000) (r : ReadsK w.heap.size w vb bks) :
    Calls Tryz.prog 37 #[vb, .agg #[.int .i64 k, .string nm, .string ot, .int .i64 at_, .int .i64 va, .int .i64 ep], .int .i64 told] w fun e w' => e = .returned (refErr ad (plCode (bks.map Pk.pv) ⟨k, nm, ot, at_, va, ep⟩ told)) ∧ Below w.heap.size w w' := by
  obtain ⟨W0, hW0, kO, d0, z0⟩ := box1 w #[.int .i64 k, .string nm, .string ot, .int .i64 at_, .int .i64 va, .int .i64 ep] 26
  have HW0 : Hid (W0 = _) := hW0
  have r0 := (r.below d0).mono d0.size
  have hv0 := hv.below d0
  have hl' : (bks.map Pk.bk).length ≤ 6 := by rw [List.length_map]; exact hl
  have hep' : ∀ b ∈ bks.map Pk.bk, b.ep ≤ 1000 := fun b hb => by obtain ⟨x, hx, rfl⟩ := List.mem_map.1 hb; exact hep x hx
  have hms' : ∀ b ∈ bks.map Pk.bk, ∃ o k cap, b.m = .slice o k cap := fun b hb => by obtain ⟨x, hx, rfl⟩ := List.mem_map.1 hb; exact ⟨none, 0, 0, rfl⟩
  have hrf : ∀ (vb : Value) (w : World) (hv : Vars w ad) (r : ReadsR 5 bookC w.heap.size w vb (bks.map Pk.bk)), _ := fun vb w hv r => refusedBy_any k fk vb (bks.map Pk.bk) nm ot at_ va ep w ad hv hn hot fa fv fe hl' hep' hms' r
  obtain ⟨C, hC⟩ : ∃ C, refCode ((bks.map Pk.pv).map Pv.pb) ⟨k, nm, ot, at_, va, ep⟩ = C := ⟨_, rfl⟩
  simp only [bk_pb, hC] at hrf
  have HP : Hid (plCode (bks.map Pk.pv) ⟨k, nm, ot, at_, va, ep⟩ told = if C = 0 then (if k = 2 ∧ told = 9 then 9 else 0) else C) := by rw [Hid, plCode, hC]
  obtain ⟨P, hP⟩ : ∃ P, plCode (bks.map Pk.pv) ⟨k, nm, ot, at_, va, ep⟩ told = P := ⟨_, rfl⟩
  rw [hP] at HP ⊢
  clear hP hC
  have hwv : ∀ (w : World) (r : ReadsK w.heap.size w vb bks), _ := fun w r => withoutValues_any vb bks w hl r
  obtain ⟨ob, kb, hvb⟩ := r.row.form
  subst hvb
  have HRF : Hid _ := hrf
  have HWV : Hid _ := hwv
  have HR0 : Hid _ := r0
  have HV0 : Hid _ := hv0
  clear hW0 z0 r hv hrf hwv hl' hep' hms' hep r0 hv0
  go_enter Tryz.func37, Tryz.ntmps37
  go_wp2_with fail
  rw [← HW0.out]
  clear HW0
  go_cut [7] (fun v wx => v = refErr ad C ∧ Below W0.heap.size W0 wx)
  case first =>
    have HKeep : ∀ X, Below W0.heap.size W0 X → (Below W0.heap.size W0 X ∧ X.cell? ⟨w.heap.size, 0, none⟩ = some (.int .i64 k) ∧ X.cell? ⟨w.heap.size, 1, none⟩ = some (.string nm) ∧ X.cell? ⟨w.heap.size, 2, none⟩ = some (.string ot) ∧ X.cell? ⟨w.heap.size, 3, none⟩ = some (.int .i64 at_) ∧ X.cell? ⟨w.heap.size, 4, none⟩ = some (.int .i64 va) ∧ X.cell? ⟨w.heap.size, 5, none⟩ = some (.int .i64 ep)) := fun X hb => by
      have x2 := (hb.block _ (heap_lt kO)).trans kO
      exact ⟨hb, at_cell x2 0, at_cell x2 1, at_cell x2 2, at_cell x2 3, at_cell x2 4, at_cell x2 5⟩
    have A1 : Below W0.heap.size W0 W0.drew := bw_drew (Below.refl _ _)
    go_region_held3 (fun X => Below W0.heap.size W0 X ∧ X.cell? ⟨w.heap.size, 0, none⟩ = some (.int .i64 k) ∧ X.cell? ⟨w.heap.size, 1, none⟩ = some (.string nm) ∧ X.cell? ⟨w.heap.size, 2, none⟩ = some (.string ot) ∧ X.cell? ⟨w.heap.size, 3, none⟩ = some (.int .i64 at_) ∧ X.cell? ⟨w.heap.size, 4, none⟩ = some (.int .i64 va) ∧ X.cell? ⟨w.heap.size, 5, none⟩ = some (.int .i64 ep))
      ((refine HKeep _ ?_; repeat (first | exact Below.refl _ _ | exact A3 | exact A4 | refine bw_drew ?_)))
      ((first
        | (go_at_call 46; refine (HWV.out _ ((HR0.out.below A1).mono A1.size)).mono ?_; rintro e w5 ⟨u5, rfl, og, b5⟩; have A3 : Below W0.heap.size W0 w5 := bw_call A1 b5; skip)
        | (go_at_call 73; refine (HRF.out _ _ (HV0.out.below A3) (ReadsR.of_own bookC_len og)).mono ?_; rintro e w6 ⟨rfl, b6⟩; have A4 : Below W0.heap.size W0 w6 := bw_call A3 b6; skip)))
    all_goals
      go_wp2_with fail
      go_meet
      exact ⟨rfl, A4⟩
  case rest =>
    obtain ⟨rfl, bw⟩ := hcut
    have kO1 := (bw.block _ (heap_lt kO)).trans kO
    have hv1 := HV0.out.below bw
    have HD : Hid (Below w.heap.size w _) := bw_call d0 bw
    have q0 := at_cell kO1 0
    have g0 := hv1.cell 0 (by simp [errVars])
    clear HV0 HR0 HWV HRF kO kO1 hv1 bw d0
    by_cases h0 : C = 0
    · subst h0
      rw [show refErr ad 0 = .nilIface from rfl]
      by_cases hk : k = 2
      · subst hk
        by_cases ht : told = 9
        · subst ht
          have HE : Hid (refErr ad P = .iface 106 (.agg #[.int .i64 9, .iface 228 (.pointer (some (ad 0)))])) := by rw [Hid, HP.out]; rfl
          clear HP
          go_wp2_with fail
          go_ret
          exact ⟨by rw [HE.out]; rfl, HD.out⟩
        · have HE : Hid (refErr ad P = .nilIface) := by rw [Hid, HP.out, if_pos rfl, if_neg (fun h => ht h.2)]; rfl
          clear HP
          go_wp2_with fail
          go_ret
          exact ⟨by rw [HE.out]; rfl, HD.out⟩
      · have HE : Hid (refErr ad P = .nilIface) := by rw [Hid, HP.out, if_pos rfl, if_neg (fun h => hk h.1)]; rfl
        clear HP
        go_wp2_with fail
        go_ret
        exact ⟨by rw [HE.out]; rfl, HD.out⟩
    · have HE : Hid (refErr ad P = refErr ad C) := by rw [Hid, HP.out, if_neg h0]
      have HE2 : Hid (refErr ad C = .iface 106 (.agg #[.int .i64 C, .iface 228 (.pointer (some (ad (varOf C))))])) := by rw [Hid, refErr, if_neg h0]
      rw [HE2.out]
      clear HP h0
      go_wp2_with fail
      go_ret
      exact ⟨by rw [HE.out, HE2.out]; rfl, HD.out⟩
end Go.Proofs.YtcefcglonooelaaGreatDoor

namespace Go.Proofs.YtcefcglonooelaaGreatDoor
open Go.RowKit

set_option linter.unusedVariables false

set_option maxRecDepth 100000


theorem run_zeros_own {P : Program} (w : World) (base : Nat) (t tn e : TypeId) (i : TypeInfo) (z : Value) (size bytes : Nat) (kq kn : IntKind) (ht : P.underlying t = some (.slice e)) (htn : P.underlying tn = some (.int kn)) (hi : P.info? e = some i) (hz : i.zero = some z)
    (hsize : i.size = size) (hby : i.bytes = bytes) (hzs : z.cells.size = size) (hsz : 0 < size)
    (g n cap : Nat) (xs : List Value) (hown : w.ownsRow base e size (.slice (some ⟨g, 0, none⟩) n cap) n xs)
    (k : Nat) (h0 : 0 < k) (h1 : ∀ u ∈ (Builtin.zeroCells z.cells k).toList, u.oneCell' = true)
    (h63 : n + k ≤ maxLen) (hbytes : (n + k) * bytes ≤ 140737488355328) (hbase : base ≤ w.heap.size) :
    ∃ v' w', (∀ ty, (Builtin.append_ #[t, tn] ty #[.slice (some ⟨g, 0, none⟩) n cap, .int kq k]).run P w = .ok v' w') ∧ w'.ownsRow base e size v' (n + k) (xs ++ (Builtin.zeroCells z.cells k).toList) ∧ w.grownBy w' (some g) := by
  subst hsize
  subst hby
  have hsmall : n + k ≤ 9223372036854775807 := by simp only [maxLen] at h63; omega
  have hl : (Builtin.zeroCells z.cells k).toList.length = k * i.size := by rw [Array.length_toList, size_zeroCells, hzs]
  have hkb : k * i.bytes ≤ 281474976710656 := by
    have := Nat.mul_le_mul_right i.bytes (show k ≤ n + k by omega)
    omega
  have hlen : (xs ++ (Builtin.zeroCells z.cells k).toList).length = (n + k) * i.size := by rw [List.length_append, hown.1, hl, Nat.add_mul]
  rcases hown.2 with ⟨h, _⟩ | ⟨g', cap', cur, h, hbg, hg, hnc, hcm, hcs, htake⟩
  · simp at h
  · simp only [Value.slice.injEq, Option.some.injEq, Addr.mk.injEq, and_true, true_and] at h
    obtain ⟨rfl, rfl⟩ := h
    by_cases hroom : n + k ≤ cap
    · have hfit : n * i.size + (Builtin.zeroCells z.cells k).toList.length ≤ cur.size := by rw [hl, hcs, ← Nat.add_mul]; exact Nat.mul_le_mul_right _ hroom
      have hst := run_storeCells_at P g (n * i.size) e (Builtin.zeroCells z.cells k).toList 0 cur w hg (by simpa using hfit) h1
      simp only [Nat.add_zero] at hst
      have hk : k ≠ 0 := by omega
      have hw : IntKind.i64.wrap (k : Int) = k := by rw [IntKind.wrap_i64]; omega
      have h48i : ¬ (281474976710656 < (k : Int) * (i.bytes : Int)) := by
        rw [← Int.natCast_mul]
        omega
      have hneg : ¬ ((k : Int) < 0) := by omega
      have hns : ¬ (k * i.size = 0) := Nat.mul_ne_zero hk (by omega)
      refine ⟨.slice (some ⟨g, 0, none⟩) (n + k) cap, _, fun ty => ?_, ⟨hlen, .inr ⟨g, cap, _, rfl, hbg, setRow_heap w g cur (cur.toList.take (n * i.size) ++ (Builtin.zeroCells z.cells k).toList ++ cur.toList.drop (n * i.size + (Builtin.zeroCells z.cells k).toList.length)).toArray e _ hg, hroom, hcm, ?_, ?_⟩⟩, ⟨rfl, rfl, rfl, by simp, fun j _ hj => setRow_other w g j _ (fun e => hj (by rw [e]))⟩⟩
      · simp [Builtin.append_, run_underlying ht, run_underlying htn, sizeOf, typeInfo, zeroValue, hi, hz, asInt, asIntOf, hw, hneg, hns, h48i, hroom, Addr.add_lit, hst]
      · simp only [List.size_toArray, List.length_append, List.length_take, List.length_drop, Array.length_toList]
        simp only [Array.length_toList] at hfit
        omega
      · rw [htake, ← hlen]
        exact List.take_left
    · have holds : ∀ j u, xs[j]? = some u → w.drew.cell? ((⟨g, 0, none⟩ : Addr).add j) = some u := hown.cells (g := g) rfl
      have hold := run_firstCells_some (P := P) w.drew i.size n ⟨g, 0, none⟩ n cap xs hown.1 holds
      have hr := fun ty => Lib.run_append_grow_zeros (P := P) w t tn ty e i z kq kn ht htn hi hz (some ⟨g, 0, none⟩) n cap xs hold k h0 hsz (by omega) (by omega) hkb (growslice_fits (by omega) hbytes)
      have hge := grownCap_ge w (n + k) cap e
      have hcm2 : grownCap w (n + k) cap e ≤ maxLen := grownCap_le_maxLen w (n + k) cap e h63
      refine ⟨_, _, hr, ⟨hlen, .inr ⟨w.heap.size, _, _, rfl, hbase, heap_alloc_new w.drew _, hge, hcm2, ?_, ?_⟩⟩, ⟨rfl, rfl, rfl, by simp, fun k hk _ => Below.heap_alloc w.drew _ k hk⟩⟩
      · simp only [Array.size_append, List.size_toArray, size_zeroCells, hzs, hown.1, ← Nat.add_mul]
        congr 1
        omega
      · simp only [Array.toList_append, List.append_assoc]
        rw [← List.append_assoc, ← hlen]
        exact List.take_left

theorem zeros_i16 : (Builtin.zeroCells (Value.int .i64 0).cells 16).toList = (List.replicate 16 (0 : Int)).map (Value.int .i64) := by kernel_rfl
end Go.Proofs.YtcefcglonooelaaGreatDoor

