/-
  Contracts and plain laws, one chapter behind the other.
-/
import Derived.Deep.RegionHeld3
import Derived.Deep.RegionLaw
import Derived.Deep.DeepCutAuto
import Derived.Laws.Cover1
import Derived.Handy
import Derived.Laws.IdiomStrings
import Derived.Laws.OwnMore
import Derived.OwnWalk
import Derived.Test.YtcefcglonooelaaGreatDoorB01
import Derived.Test.YtcefcglonooelaaGreatDoorB02
import Derived.Test.YtcefcglonooelaaGreatDoorB05
import Derived.Test.YtcefcglonooelaaGreatDoorB06
import Derived.Test.YtcefcglonooelaaGreatDoorB07
import Derived.Test.YtcefcglonooelaaGreatDoorB08
namespace Go.Proofs.YtcefcglonooelaaGreatDoor
open Go.RowKit

set_option linter.unusedVariables false

set_option maxRecDepth 100000


/-- A pool whose two rows are the call's own and lie apart. -/
structure OwnP (base : Nat) (w : World) (v1 v2 : Value) (cs ps : List Int) : Prop where
  c : w.ownsRow base 2 1 v1 cs.length (cs.map (Value.int .i64))
  p : w.ownsRow base 2 1 v2 ps.length (ps.map (Value.int .i64))
  apart : ∀ g, v1.ownBlock = some g → v2.ownBlock ≠ some g

theorem OwnP.below {base : Nat} {w w' : World} {v1 v2 : Value} {cs ps : List Int} (h : OwnP base w v1 v2 cs ps) (b : Below w.heap.size w w') : OwnP base w' v1 v2 cs ps := ⟨owns_below h.c b, owns_below h.p b, h.apart⟩

theorem OwnP.mono {base base' : Nat} {w : World} {v1 v2 : Value} {cs ps : List Int} (h : OwnP base w v1 v2 cs ps) (b : base' ≤ base) : OwnP base' w v1 v2 cs ps := ⟨owns_mono h.c b, owns_mono h.p b, h.apart⟩

theorem OwnP.upto {base c : Nat} {w w' : World} {v1 v2 : Value} {cs ps : List Int} (h : OwnP base w v1 v2 cs ps) (u : Upto c w w') (hc : c < base) : OwnP base w' v1 v2 cs ps := ⟨ownsRow_upto h.c u hc, ownsRow_upto h.p u hc, h.apart⟩

theorem OwnP.r1 {base : Nat} {w : World} {v1 v2 : Value} {cs ps : List Int} (h : OwnP base w v1 v2 cs ps) : Reads w.heap.size w v1 (cs.map (Value.int .i64)) := Reads.of_own h.c

theorem OwnP.r2 {base : Nat} {w : World} {v1 v2 : Value} {cs ps : List Int} (h : OwnP base w v1 v2 cs ps) : Reads w.heap.size w v2 (ps.map (Value.int .i64)) := Reads.of_own h.p

theorem OwnP.nil (base : Nat) (w : World) : OwnP base w (.slice none 0 0) (.slice none 0 0) [] [] := ⟨owns_nil _ _ _ _, owns_nil _ _ _ _, fun g h => by cases h⟩

/-- The answer's box is written. -/
theorem pool_end (w W : World) (u1 u2 x y : Value) (b : Nat) (cs ps : List Int) (hb : w.heap.size ≤ b) (k : W.heap[b]? = some (.cells #[x, y] 39 (0, 0))) (own : OwnP (b + 1) W u1 u2 cs ps) (d : Below w.heap.size w W) :
    ((W.setCell ⟨b, 0, none⟩ u1).setCell ⟨b, 1, none⟩ u2).heap[b]? = some (.cells #[u1, u2] 39 (0, 0)) ∧ OwnP w.heap.size ((W.setCell ⟨b, 0, none⟩ u1).setCell ⟨b, 1, none⟩ u2) u1 u2 cs ps ∧ Below w.heap.size w ((W.setCell ⟨b, 0, none⟩ u1).setCell ⟨b, 1, none⟩ u2) := by
  obtain ⟨h1, h2⟩ := set_two k u1 u2
  exact ⟨h1, (own.upto h2 (by omega)).mono (by omega), d.trans (h2.toBelow d.size (by omega))⟩

theorem l1Copy_any (v : Value) (xs : List Int) (w : World) (hn : xs.length ≤ 1048576) (h : Reads w.heap.size w v (xs.map (Value.int .i64))) :
    Calls Tryz.prog 82 #[v] w fun e w' => ∃ v' : Value, e = .returned v' ∧ w'.ownsRow w.heap.size 2 1 v' xs.length (xs.map (Value.int .i64)) ∧ v' ≠ .slice none 0 0 ∧ Below w.heap.size w w' := by
  obtain ⟨i0, hi, hz0, hz1, hz2⟩ := info_parts Tryz.infoI64
  obtain ⟨o, cap, rfl, hm, hc, -⟩ := h
  have hl : (xs.map (Value.int .i64)).length = xs.length := by simp
  rw [hl] at hm ⊢
  have own0 : (w.alloc (.cells #[] 2)).ownsRow w.heap.size 2 1 (.slice (some ⟨w.heap.size, 0, none⟩) 0 0) 0 [] := World.ownsRow_lit w #[] 0 (Nat.le_refl _) (Nat.zero_le _) rfl
  have d0 : Below w.heap.size w (w.alloc (.cells #[] 2)) := bw_alloc (Below.refl _ _)
  have HC : Hid (∀ j u, (xs.map (Value.int .i64))[j]? = some u → ∃ g off, o = some ⟨g, off, none⟩ ∧ (w.alloc (.cells #[] 2)).cell? ⟨g, off + j, none⟩ = some u) := fun j u hj => by
    obtain ⟨g, off, e, hg, hx⟩ := hc j u hj
    exact ⟨g, off, e, (d0.cell (p := ⟨g, off + j, none⟩) hg).trans hx⟩
  clear hc hl
  go_enter Tryz.func82, Tryz.ntmps82
  go_wp2_with (at_builtin; refine wpList_append_reads rfl _ _ 37 rfl w.heap.size 2 i0 (.int .i64 0) 1 8 Tryz.underlying37 hi hz0 hz1 hz2 rfl (by decide) _ 0 [] rfl own0 o xs.length cap (xs.map (Value.int .i64)) rfl ?c0 HC.out ?c2 ?c3 ?c4 ?c5 ?_)
  case c0 => simp
  case c2 => intro u hu; simp at hu; obtain ⟨a, _, rfl⟩ := hu; rfl
  case c3 => unfold maxLen; omega
  case c4 => omega
  case c5 => simp
  intro v' w' hown hgrow hnil
  have hown2 : w'.ownsRow w.heap.size 2 1 v' xs.length (xs.map (Value.int .i64)) := by simpa using hown
  have hnn : v' ≠ .slice none 0 0 := hnil
  have hb : Below w.heap.size w w' := d0.grown hgrow (by simp) (fun q hq => (own0.lt q hq).1)
  clear hown hgrow hnil own0 d0 HC
  go_wp2_with fail
  go_ret
  exact ⟨v', rfl, hown2, hnn, hb⟩

/-- Two new rows of noughts, made in either order, and the answer's box written. -/
theorem new_end {w W0 : World} {M : Array Value} {m : Nat} {x y : Value} (k0 : W0.heap[w.heap.size]? = some (.cells #[x, y] 39 (0, 0))) (d0 : Below w.heap.size w W0) (z0 : W0.heap.size = w.heap.size + 1)
    (hown : ∀ (W : World) (base : Nat), base ≤ W.heap.size → (W.alloc (.cells M 2)).ownsRow base 2 1 (.slice (some ⟨W.heap.size, 0, none⟩) m m) m ((List.replicate m (0 : Int)).map (Value.int .i64)))
    (a b : Nat) (hab : (a = w.heap.size + 1 ∧ b = w.heap.size + 1 + 1) ∨ (a = w.heap.size + 1 + 1 ∧ b = w.heap.size + 1)) :
    (((((W0.setCell ⟨w.heap.size, 0, none⟩ (.slice (some ⟨a, 0, none⟩) m m)).setCell ⟨w.heap.size, 1, none⟩ (.slice (some ⟨b, 0, none⟩) m m)).alloc (.cells M 2)).alloc (.cells M 2)).drew).heap[w.heap.size]? = some (.cells #[.slice (some ⟨a, 0, none⟩) m m, .slice (some ⟨b, 0, none⟩) m m] 39 (0, 0)) ∧
    OwnP w.heap.size (((((W0.setCell ⟨w.heap.size, 0, none⟩ (.slice (some ⟨a, 0, none⟩) m m)).setCell ⟨w.heap.size, 1, none⟩ (.slice (some ⟨b, 0, none⟩) m m)).alloc (.cells M 2)).alloc (.cells M 2)).drew) (.slice (some ⟨a, 0, none⟩) m m) (.slice (some ⟨b, 0, none⟩) m m) (List.replicate m 0) (List.replicate m 0) ∧
    Below w.heap.size w (((((W0.setCell ⟨w.heap.size, 0, none⟩ (.slice (some ⟨a, 0, none⟩) m m)).setCell ⟨w.heap.size, 1, none⟩ (.slice (some ⟨b, 0, none⟩) m m)).alloc (.cells M 2)).alloc (.cells M 2)).drew) := by
  obtain ⟨h1, h2⟩ := set_two k0 (.slice (some ⟨a, 0, none⟩) m m) (.slice (some ⟨b, 0, none⟩) m m)
  generalize hW : (W0.setCell ⟨w.heap.size, 0, none⟩ (.slice (some ⟨a, 0, none⟩) m m)).setCell ⟨w.heap.size, 1, none⟩ (.slice (some ⟨b, 0, none⟩) m m) = W1 at h1 h2 ⊢
  have s1 : W1.heap.size = w.heap.size + 1 := by rw [← hW, World.size_setCell, World.size_setCell, z0]
  clear hW
  have s2 : (W1.alloc (.cells M 2)).heap.size = w.heap.size + 1 + 1 := by simp [s1]
  have o1 := hown W1 w.heap.size (by omega)
  have o2 := hown (W1.alloc (.cells M 2)) w.heap.size (by omega)
  rw [s1] at o1
  rw [s2] at o2
  have o3 := o1.alloc (.cells M 2)
  have e1 := (Below.heap_alloc (W1.alloc (.cells M 2)) (.cells M 2) w.heap.size (by omega)).trans ((Below.heap_alloc W1 (.cells M 2) w.heap.size (by omega)).trans h1)
  have hl : (List.replicate m (0 : Int)).length = m := by simp
  refine ⟨e1, ?_, bw_drew (bw_alloc (bw_alloc (d0.trans (h2.toBelow (by omega) (Nat.le_refl _)))))⟩
  rcases hab with ⟨rfl, rfl⟩ | ⟨rfl, rfl⟩
  · exact ⟨by rw [hl]; exact o3, by rw [hl]; exact o2, fun g q => by simp [Value.ownBlock] at q ⊢; omega⟩
  · exact ⟨by rw [hl]; exact o2, by rw [hl]; exact o3, fun g q => by simp [Value.ownBlock] at q ⊢; omega⟩

set_option maxHeartbeats 800000 in
theorem specNewPool_any (n : Int) (w : World) :
    Calls Tryz.prog 138 #[.int .i64 n] w fun e w' => ∃ u1 u2 : Value, e = .returned (.tuple #[.agg #[u1, u2], .bool (newPool n).2]) ∧ OwnP w.heap.size w' u1 u2 (newPool n).1.1 (newPool n).1.2 ∧ Below w.heap.size w w' := by
  obtain ⟨W0, hW0, k0, d0, z0⟩ := pool_box w (.slice none 0 0) (.slice none 0 0) 39
  have HW0 : Hid (W0 = _) := hW0
  have p0 := at_cell k0 0
  have p1 := at_cell k0 1
  have f0 := at_open k0 0
  have f1 := at_open k0 1
  clear hW0
  cases hn : (decide ((1 : Int) ≤ n) && decide (n ≤ 24))
  · have hv : newPool n = (([], []), false) := by
      unfold newPool
      rw [if_neg]
      rintro ⟨h1, h2⟩
      simp [h1, h2] at hn
    rw [hv]
    have HS : Hid _ := pool_end w W0 (.slice none 0 0) (.slice none 0 0) _ _ w.heap.size [] [] (Nat.le_refl _) k0 (OwnP.nil _ _) d0
    clear hv k0
    go_enter Tryz.func138, Tryz.ntmps138
    go_wp2_with fail
    rw [← HW0.out]
    refine (l1In_any _ _ _ _).mono ?_
    rintro e w' ⟨rfl, rfl⟩
    rw [hn]
    go_wp2_with fail
    exact bodyPost_ret (v := .tuple #[.agg #[.slice none 0 0, .slice none 0 0], .bool false]) (by simp [results, Tryz.results138, go_sem, at_cell HS.out.1]) rfl ⟨_, _, rfl, HS.out.2⟩
  · have hb : 1 ≤ n ∧ n ≤ 24 := by simpa using hn
    obtain ⟨m, rfl⟩ := Int.eq_ofNat_of_zero_le (show 0 ≤ n by omega)
    have hv : newPool (m : Int) = ((List.replicate m 0, List.replicate m 0), true) := by
      unfold newPool
      rw [if_pos hb, Int.toNat_natCast]
    rw [hv]
    obtain ⟨M, hM, hmk, hown⟩ := made_ints m (by omega)
    clear hv
    go_enter Tryz.func138, Tryz.ntmps138
    go_wp2_with fail
    rw [← HW0.out]
    refine (l1In_any _ _ _ _).mono ?_
    rintro e w' ⟨rfl, rfl⟩
    rw [hn]
    go_wp2_with fail
    go_region
    · have HS : Hid _ := new_end k0 d0 z0 hown (w.heap.size + 1) (w.heap.size + 1 + 1) (.inl ⟨rfl, rfl⟩)
      clear k0 d0 hown hmk HW0
      go_wp2_with fail
      exact bodyPost_ret (v := .tuple #[.agg #[.slice (some ⟨w.heap.size + 1, 0, none⟩) m m, .slice (some ⟨w.heap.size + 1 + 1, 0, none⟩) m m], .bool true]) (by simp [results, Tryz.results138, go_sem, at_cell HS.out.1]) rfl ⟨_, _, rfl, HS.out.2⟩
    · have HS : Hid _ := new_end k0 d0 z0 hown (w.heap.size + 1 + 1) (w.heap.size + 1) (.inr ⟨rfl, rfl⟩)
      clear k0 d0 hown hmk HW0
      go_wp2_with fail
      exact bodyPost_ret (v := .tuple #[.agg #[.slice (some ⟨w.heap.size + 1 + 1, 0, none⟩) m m, .slice (some ⟨w.heap.size + 1, 0, none⟩) m m], .bool true]) (by simp [results, Tryz.results138, go_sem, at_cell HS.out.1]) rfl ⟨_, _, rfl, HS.out.2⟩
end Go.Proofs.YtcefcglonooelaaGreatDoor

namespace Go.Proofs.YtcefcglonooelaaGreatDoor
open Go.RowKit

set_option linter.unusedVariables false

set_option maxRecDepth 100000

theorem pagesOf_few (rs : List (Int × Int × Int)) : (pagesOf rs).length ≤ 16 := by
  unfold pagesOf
  split
  · have := List.length_filter_le (fun p => decide (0 ≤ p)) (pages rs)
    rw [pages_length] at this
    exact this
  · simp

set_option maxHeartbeats 1600000 in
theorem specNewShelf_any (n : Int) (w : World) :
    Calls Tryz.prog 110 #[.int .i64 n] w fun e w' => ∃ u1 u2 : Value, e = .returned (.tuple #[.agg #[u1, u2, .slice none 0 0], .bool (newPool n).2]) ∧ OwnP w.heap.size w' u1 u2 (newPool n).1.1 (newPool n).1.2 ∧ Below w.heap.size w w' := by
  obtain ⟨W0, hW0, k0, d0, z0⟩ := box1 w #[.slice none 0 0, .slice none 0 0, .slice none 0 0] 42
  have HW0 : Hid (W0 = _) := hW0
  have l0 := heap_lt k0
  clear hW0 z0
  go_enter Tryz.func110, Tryz.ntmps110
  go_wp2_with fail
  rw [← HW0.out]
  clear HW0
  refine (specNewPool_any n _).mono ?_
  rintro e w1 ⟨u1, u2, rfl, own, b1⟩
  replace k0 := (b1.block _ l0).trans k0
  replace d0 := bw_call d0 b1
  obtain ⟨⟨⟨zc, zp⟩, made⟩, hz⟩ : ∃ x, newPool n = x := ⟨_, rfl⟩
  have HZ : Hid (newPool n = ((zc, zp), made)) := hz
  rw [hz] at own ⊢
  simp only at own ⊢
  clear hz
  obtain ⟨o1, c1, e1⟩ := own_slice own.c
  obtain ⟨o2, c2, e2⟩ := own_slice own.p
  subst e1 e2
  have hlt : w.heap.size < w1.heap.size := Nat.lt_of_lt_of_le l0 b1.size
  have u : Upto w.heap.size w1 (((w1.setCell ⟨w.heap.size, 0, none⟩ (.slice o1 zc.length c1)).setCell ⟨w.heap.size, 1, none⟩ (.slice o2 zp.length c2)).setCell ⟨w.heap.size, 2, none⟩ (.slice none 0 0)) := (((Upto.refl _ _).setCell ⟨w.heap.size, 0, none⟩ (.inl rfl) _).setCell ⟨w.heap.size, 1, none⟩ (.inl rfl) _).setCell ⟨w.heap.size, 2, none⟩ (.inl rfl) _
  have k3 := set_at (set_at (set_at k0 0 (.slice o1 zc.length c1)) 1 (.slice o2 zp.length c2)) 2 (.slice none 0 0)
  have own3 := own.upto u l0
  have d3 := d0.trans (u.toBelow (by omega) (Nat.le_refl _))
  have bP : Below (((w1.setCell ⟨w.heap.size, 0, none⟩ (.slice o1 zc.length c1)).setCell ⟨w.heap.size, 1, none⟩ (.slice o2 zp.length c2)).setCell ⟨w.heap.size, 2, none⟩ (.slice none 0 0)).heap.size (((w1.setCell ⟨w.heap.size, 0, none⟩ (.slice o1 zc.length c1)).setCell ⟨w.heap.size, 1, none⟩ (.slice o2 zp.length c2)).setCell ⟨w.heap.size, 2, none⟩ (.slice none 0 0)) ((((w1.setCell ⟨w.heap.size, 0, none⟩ (.slice o1 zc.length c1)).setCell ⟨w.heap.size, 1, none⟩ (.slice o2 zp.length c2)).setCell ⟨w.heap.size, 2, none⟩ (.slice none 0 0)).alloc (.cells #[.slice o1 zc.length c1, .slice o2 zp.length c2] 39)) := bw_alloc (Below.refl _ _)
  have HS : Hid _ := And.intro ((bP.block _ (heap_lt k3)).trans k3) (And.intro ((own3.below bP).mono (Nat.le_of_lt l0)) (bw_call d3 bP))
  have q0 := at_cell k0 0
  have q1 := at_cell k0 1
  have q2 := at_cell k0 2
  have f0 := at_open k0 0
  have f1 := at_open k0 1
  have f2 := at_open k0 2
  clear bP d3 own3 k3 u own d0 k0 b1
  go_wp2_with fail
  exact bodyPost_ret (v := .tuple #[.agg #[.slice o1 zc.length c1, .slice o2 zp.length c2, .slice none 0 0], .bool made]) (by simp [results, Tryz.results110, go_sem, at_cell HS.out.1]) rfl ⟨.slice o1 zc.length c1, .slice o2 zp.length c2, by rw [HZ.out], by rw [HZ.out]; exact HS.out.2.1, HS.out.2.2⟩
end Go.Proofs.YtcefcglonooelaaGreatDoor

namespace Go.Proofs.YtcefcglonooelaaGreatDoor
open Go.RowKit

set_option linter.unusedVariables false

set_option maxRecDepth 100000


theorem map_setI (cs : List Int) (k : Nat) (x : Int) : (cs.map (Value.int .i64)).set k (.int .i64 x) = (cs.set k x).map (Value.int .i64) := by rw [List.map_set]

/-- One cell of each row is written. -/
theorem OwnP.set1 {base : Nat} {w : World} {g1 c1 : Nat} {v2 : Value} {cs ps : List Int} (h : OwnP base w (.slice (some ⟨g1, 0, none⟩) cs.length c1) v2 cs ps) (k : Nat) (x : Int) :
    OwnP base (w.setCell ⟨g1, k, none⟩ (.int .i64 x)) (.slice (some ⟨g1, 0, none⟩) cs.length c1) v2 (cs.set k x) ps := by
  refine ⟨?_, own_only (S := fun b => b = g1) h.p ((Only.refl (fun b => b = g1) _).setCell ⟨g1, k, none⟩ rfl _) (fun g hg e => h.apart g1 rfl (by rw [hg, e])), h.apart⟩
  have := (h.c.stored k (.int .i64 x)).1
  rw [map_setI] at this
  rwa [List.length_set]

theorem OwnP.set2 {base : Nat} {w : World} {g2 c2 : Nat} {v1 : Value} {cs ps : List Int} (h : OwnP base w v1 (.slice (some ⟨g2, 0, none⟩) ps.length c2) cs ps) (k : Nat) (x : Int) :
    OwnP base (w.setCell ⟨g2, k, none⟩ (.int .i64 x)) v1 (.slice (some ⟨g2, 0, none⟩) ps.length c2) cs (ps.set k x) := by
  refine ⟨own_only (S := fun b => b = g2) h.c ((Only.refl (fun b => b = g2) _).setCell ⟨g2, k, none⟩ rfl _) (fun g hg e => h.apart g hg (by rw [e]; rfl)), ?_, h.apart⟩
  have := (h.p.stored k (.int .i64 x)).1
  rw [map_setI] at this
  rwa [List.length_set]

theorem own_form2 {w : World} {base : Nat} {v1 v2 : Value} {cs ps : List Int} (h : OwnP base w v1 v2 cs ps) (hc : 1 ≤ cs.length) (hp : ps.length = cs.length) :
    ∃ g1 c1 g2 c2, v1 = .slice (some ⟨g1, 0, none⟩) cs.length c1 ∧ v2 = .slice (some ⟨g2, 0, none⟩) ps.length c2 ∧ g1 ≠ g2 := by
  rcases h.c.2 with ⟨_, hn⟩ | ⟨g1, c1, cur, rfl, _⟩
  · omega
  rcases h.p.2 with ⟨_, hn⟩ | ⟨g2, c2, cur2, rfl, _⟩
  · omega
  exact ⟨g1, c1, g2, c2, rfl, rfl, fun e => h.apart g1 rfl (by rw [e]; rfl)⟩
end Go.Proofs.YtcefcglonooelaaGreatDoor

namespace Go.Proofs.YtcefcglonooelaaGreatDoor
open Go.RowKit

set_option linter.unusedVariables false

set_option maxRecDepth 100000


set_option maxHeartbeats 1600000 in
theorem l4Take_at (b base : Nat) (cells : Array Value) (T : TypeId) (v1 v2 : Value) (cs ps : List Int) (v : Int) (w : World) (k : w.heap[b]? = some (.cells cells T (0, 0))) (hT : T ≠ 2) (e0 : cells[0]? = some v1) (e1 : cells[1]? = some v2) (own : OwnP base w v1 v2 cs ps) (hc : 1 ≤ cs.length) (hc2 : cs.length ≤ 1048576) (hp : ps.length = cs.length) :
    Calls Tryz.prog 106 #[.pointer (some ⟨b, 0, none⟩), .int .i64 v] w fun e w' => e = .returned (.int .i64 (tookAt cs)) ∧ OwnP base w' v1 v2 (tookC cs) (tookP cs ps v) ∧ Only (fun i => v1.ownBlock = some i ∨ v2.ownBlock = some i) w w' := by
  obtain ⟨g1, c1, g2, c2, rfl, rfl, hne⟩ := own_form2 own hc hp
  have n1 := own_not_box own.c k hT
  have n2 := own_not_box own.p k hT
  have hn1 : ¬ b = g1 := fun e => n1 (by rw [e]; rfl)
  have hn2 : ¬ b = g2 := fun e => n2 (by rw [e]; rfl)
  have hn3 : ¬ g1 = b := fun e => hn1 e.symm
  have hn4 : ¬ g2 = b := fun e => hn2 e.symm
  have hne' : ¬ g2 = g1 := fun e => hne e.symm
  have p0 := (at_cell k 0).trans e0
  have p1 := (at_cell k 1).trans e1
  have hlc := own.c.cellAt
  have hlp := own.p.cellAt
  have hfc := own.c.frozenAt
  have hfp := own.p.frozenAt
  have HP : Hid (ps.length = cs.length) := hp
  have hp1 : cs.length ≤ ps.length := by omega
  have HLC : Hid (∀ j, j < cs.length * 1 → w.cell? ⟨g1, j, none⟩ = (cs.map (Value.int .i64))[j]?) := hlc
  have HLP : Hid (∀ j, j < ps.length * 1 → w.cell? ⟨g2, j, none⟩ = (ps.map (Value.int .i64))[j]?) := hlp
  clear hlc hlp hp n1 n2 e0 e1
  go_enter Tryz.func106, Tryz.ntmps106
  go_wp2_with fail
  go_loopw [5] (fun i wr => ∃ k : Nat, k ≤ cs.length ∧ i = .int .i64 k ∧ (∀ j, j < k → cs.getD j 0 ≠ 0) ∧ wr = w) (fun i _ => cs.length - (intOf i).toNat)
  case atStart => exact ⟨0, Nat.zero_le _, rfl, fun j hj => by omega, rfl⟩
  case round =>
    obtain ⟨q, hq, rfl, hall, rfl⟩ := hrel
    have HA : Hid (∀ j, j < q → cs.getD j 0 ≠ 0) := hall
    clear hall
    by_cases hlt : q < cs.length
    · have cc1 := (HLC.out q (by omega)).trans (getD_some cs q hlt)
      have cc2 := (HLP.out q (by omega)).trans (getD_some ps q (by omega))
      have hq2 : (q : Int) < (ps.length : Int) := by omega
      have HN : Hid (cs.getD q 0 ≠ 0 → ∀ j, j < q + 1 → cs.getD j 0 ≠ 0) := fun h j hj => by
        rcases Nat.lt_or_ge j q with r | r
        · exact HA.out j r
        · obtain rfl : j = q := by omega
          exact h
      have HF : Hid (cs.getD q 0 = 0 → firstFree cs = q) := fun h => firstFree_eq cs q hlt h HA.out
      by_cases hz : cs.getD q 0 = 0
      · have hf := HF.out hz
        have HR : Hid (tookAt cs = q ∧ tookC cs = cs.set q 1 ∧ tookP cs ps v = ps.set q v) := by
          rw [Hid, tookAt, tookC, tookP, hf, if_pos hlt, if_pos hlt, if_pos hlt]; exact ⟨rfl, rfl, rfl⟩
        have own1 := own.set1 q 1
        have own2 := own1.set2 q v
        have HO : Hid _ := own2
        rw [hz] at cc1
        clear HN HF HA own1 own2 own hf hz HLC HLP
        generalize ps.getD q 0 = y at cc2
        go_wp2_with fail
        go_ret
        refine ⟨ret_int HR.out.1.symm, ?_, ((Only.refl _ _).setCell _ (.inl rfl) _).setCell _ (.inr rfl) _⟩
        rw [HR.out.2.1, HR.out.2.2]
        exact HO.out
      · have HNN : Hid _ := HN.out hz
        have hz1 : (cs.getD q 0 == 0) = false := by simpa using hz
        clear HN HF HA HLC HLP cc2
        generalize cs.getD q 0 = x at cc1 hz1 hz
        go_wp2_with fail
        go_roundw
        case rel => exact ⟨q + 1, by omega, by go_num, HNN.out, by trivial⟩
        case measure => simp [intOf]; omega
    · have hf := firstFree_none cs (fun j hj => HA.out j (by omega))
      have HR : Hid (tookAt cs = -1 ∧ tookC cs = cs ∧ tookP cs ps v = ps) := by
        rw [Hid, tookAt, tookC, tookP, hf, if_neg (by omega), if_neg (by omega), if_neg (by omega)]; exact ⟨rfl, rfl, rfl⟩
      have HO : Hid _ := own
      clear own hf HA HLC HLP
      go_wp2_with fail
      go_ret
      refine ⟨ret_int HR.out.1.symm, ?_, Only.refl _ _⟩
      rw [HR.out.2.1, HR.out.2.2]
      exact HO.out

set_option maxHeartbeats 1600000 in
theorem l4Drop_at (b base k : Nat) (cells : Array Value) (T : TypeId) (v1 v2 : Value) (cs ps : List Int) (w : World) (hk : w.heap[b]? = some (.cells cells T (0, 0))) (hT : T ≠ 2) (e0 : cells[0]? = some v1) (e1 : cells[1]? = some v2) (own : OwnP base w v1 v2 cs ps) (hc : k < cs.length) (hc2 : cs.length ≤ 1048576) (hp : ps.length = cs.length) (hr : 1 ≤ cs.getD k 0 ∧ cs.getD k 0 ≤ 400) :
    Calls Tryz.prog 104 #[.pointer (some ⟨b, 0, none⟩), .int .i64 k] w fun e w' => e = .returned (.tuple #[]) ∧ OwnP base w' v1 v2 (cs.set k (cs.getD k 0 - 1)) (if cs.getD k 0 = 1 then ps.set k 0 else ps) ∧ Only (fun i => v1.ownBlock = some i ∨ v2.ownBlock = some i) w w' := by
  obtain ⟨g1, c1, g2, c2, rfl, rfl, hne⟩ := own_form2 own (by omega) hp
  have n1 := own_not_box own.c hk hT
  have n2 := own_not_box own.p hk hT
  have hn1 : ¬ b = g1 := fun e => n1 (by rw [e]; rfl)
  have hn2 : ¬ b = g2 := fun e => n2 (by rw [e]; rfl)
  have hn3 : ¬ g1 = b := fun e => hn1 e.symm
  have hn4 : ¬ g2 = b := fun e => hn2 e.symm
  have hne' : ¬ g2 = g1 := fun e => hne e.symm
  have p0 := (at_cell hk 0).trans e0
  have p1 := (at_cell hk 1).trans e1
  have cc1 := (own.c.cellAt k (by omega)).trans (getD_some cs k hc)
  have cc2 := (own.p.cellAt k (by omega)).trans (getD_some ps k (by omega))
  have fc := own.c.frozenAt k
  have fp := own.p.frozenAt k
  have own1 := own.set1 k (cs.getD k 0 - 1)
  have HO : Hid _ := And.intro own1 (own1.set2 k 0)
  have i0 : (0 : Int) ≤ (k : Int) := by omega
  have i1 : (k : Int) < (cs.length : Int) := by omega
  have i2 : (k : Int) < (ps.length : Int) := by omega
  clear own own1 n1 n2 hk hp e0 e1
  generalize cs.getD k 0 = c at *
  generalize ps.getD k 0 = y at cc2
  by_cases hc1 : c = 1
  · subst hc1
    rw [if_pos rfl]
    go_enter Tryz.func104, Tryz.ntmps104
    go_wp2_with fail
    go_region
    go_wp2_with fail
    exact bodyPost_end (results_none rfl _ _ _) rfl ⟨rfl, HO.out.2.below ((Below.refl _ _).drew), (((Only.refl _ _).setCell _ (.inl rfl) _).setCell _ (.inr rfl) _).below ((Below.refl _ _).drew)⟩
  · rw [if_neg hc1]
    have hz : (c - 1 == 0) = false := by simp; omega
    go_enter Tryz.func104, Tryz.ntmps104
    go_wp2_with fail
    go_region
    go_wp2_with fail
    exact bodyPost_end (results_none rfl _ _ _) rfl ⟨rfl, HO.out.1.below ((Below.refl _ _).drew), ((Only.refl _ _).setCell _ (.inl rfl) _).below ((Below.refl _ _).drew)⟩
end Go.Proofs.YtcefcglonooelaaGreatDoor

namespace Go.Proofs.YtcefcglonooelaaGreatDoor
open Go.RowKit

set_option linter.unusedVariables false

set_option maxRecDepth 100000

theorem pick_cell {w w1 : World} {c : Nat} {cs : Array Value} {t : TypeId} (u : Upto c (w.alloc (.cells cs t)) w1) (hc : c < w.heap.size) (j : Nat) : w1.cell? ⟨w.heap.size, j, none⟩ = cs[j]? := by
  rw [u.cell (p := ⟨w.heap.size, j, none⟩) (by simp [go_sem]) (by simp; omega)]
  exact World.cell?_alloc_mark w cs t (0, 0) j

theorem name_any (c : Nat) (x : Option Addr) (len cap : Nat) (w : World) (hc : Cur w c x len cap) :
    Calls Tryz.prog 69 #[.pointer (some ⟨c, 0, none⟩)] w fun e w' => ∃ s : ByteArray, e = .returned (.string s) ∧ s.size ≤ 5 ∧ Upto c w w' ∧ Cur w' c x len cap := by
  have hlt := hc.lt
  go_enter Tryz.func69, Tryz.ntmps69
  go_wp2_with fail
  refine (below_any c x len cap 7 _ (by omega) (hc.alloc _)).mono ?_
  rintro e w1 ⟨m0, rfl, hm0, u1, k1⟩
  obtain ⟨m, rfl⟩ := Int.eq_ofNat_of_zero_le hm0.1
  have hm1 : (m : Int) < 7 := hm0.2.1 (by omega)
  have u0 : Upto c w w1 := ((Upto.refl c w).alloc _).trans u1
  obtain ⟨s, hs, hsz⟩ : ∃ s : ByteArray, w1.cell? ⟨w.heap.size, m, none⟩ = some (.string s) ∧ s.size ≤ 5 := by
    rw [pick_cell u1 hlt m]
    have hm : m = 0 ∨ m = 1 ∨ m = 2 ∨ m = 3 ∨ m = 4 ∨ m = 5 ∨ m = 6 := by omega
    rcases hm with rfl | rfl | rfl | rfl | rfl | rfl | rfl <;> exact ⟨_, rfl, by decide⟩
  clear u1 hm0
  go_wp2_with fail
  go_ret
  exact ⟨s, rfl, hsz, u0, k1⟩

theorem big_any (x : Option Addr) (len cap : Nat) (w : World) (h : len ≤ maxLen) :
    Calls Tryz.prog 7 #[.slice x len cap] w fun e w' => e = .returned (.bool (decide (4096 < (len : Int)))) ∧ w' = w := by
  unfold maxLen at h
  go_enter Tryz.func7, Tryz.ntmps7
  go_wp2
  go_ret
  exact ⟨rfl, rfl⟩
end Go.Proofs.YtcefcglonooelaaGreatDoor

namespace Go.Proofs.YtcefcglonooelaaGreatDoor
open Go.RowKit

set_option linter.unusedVariables false

set_option maxRecDepth 100000


theorem step_append {P : Program} {w : World} {ops : Array Oper} {o : Oper} {a : Act} {K : Act → World → Prop} {Q : Exit → Act → World → Prop} {E : Prop} (hgd : o.guard = none) (s x : Operand) (t : TypeId)
    (ho : o.op = .call { callee := .builtin .append, args := #[s, x], argTypes := #[t, t] })
    (base : Nat) (e : TypeId) (i : TypeInfo) (z : Value) (size bytes : Nat) (ht : P.underlying t = some (.slice e)) (hi : P.info? e = some i) (hz : i.zero = some z)
    (hsize : i.size = size) (hby : i.bytes = bytes) (hzs : z.cells.size = size) (hsz : 0 < size)
    (v : Value) (n : Nat) (xs : List Value) (hs : a.eval s = v) (hown : w.ownsRow base e size v n xs)
    (ad : Addr) (m c : Nat) (news : List Value) (hx : a.eval x = .slice (some ad) m c) (hl : news.length = m * size) (hnews : ∀ j u, news[j]? = some u → w.cell? (ad.add j) = some u) (h1 : ∀ u ∈ news, u.oneCell' = true)
    (h63 : n + m ≤ maxLen) (hbytes : (n + m) * bytes ≤ 140737488355328) (hbase : base ≤ w.heap.size)
    (h : ∀ v' w', w'.ownsRow base e size v' (n + m) (xs ++ news) → w.grownBy w' v.ownBlock → (v' = .slice none 0 0 ↔ v = .slice none 0 0 ∧ m = 0) → K (a.put o.dst v') w') :
    if Region.wanted o (yielded ops a.tmps) = true then Oper.wp P o a w K Q else E := by
  have hw : Region.wanted o (yielded ops a.tmps) = true := by simp [Region.wanted, hgd]
  rw [if_pos hw]
  exact wp_append_own w s x t ho base e i z size bytes ht hi hz hsize hby hzs hsz v n xs hs hown ad m c news hx hl hnews h1 h63 hbytes hbase h
end Go.Proofs.YtcefcglonooelaaGreatDoor

namespace Go.Proofs.YtcefcglonooelaaGreatDoor
open Go.RowKit

set_option linter.unusedVariables false


theorem upto_undrew {c : Nat} {w w' : World} (u : Upto c w.drew w') : Upto c w w' := ⟨u.os, u.tape, u.output, u.size, u.block⟩

/-- How memory lies when a map was drawn. -/
structure MapSt (c : Nat) (x : Option Addr) (len cap : Nat) (w W : World) (g cp : Nat) (rs : List (Int × Int × Int)) : Prop where
  own : W.ownsRow w.heap.size 129 3 (.slice (some ⟨g, 0, none⟩) rs.length cp) rs.length (rs.flatMap runC)
  few : rs.length ≤ 17
  fit : FitRuns rs
  kc : Cur W c x len cap
  u : Upto c w W
  lt : c < w.heap.size

theorem MapSt.step {c g cp : Nat} {x : Option Addr} {len cap : Nat} {w W W' : World} {rs : List (Int × Int × Int)} (h : MapSt c x len cap w W g cp rs) (u : Upto c W W') (kc : Cur W' c x len cap) : MapSt c x len cap w W' g cp rs :=
  ⟨ownsRow_upto h.own u h.lt, h.few, h.fit, kc, h.u.trans u, h.lt⟩

theorem MapSt.alloc {c g cp : Nat} {x : Option Addr} {len cap : Nat} {w W : World} {rs : List (Int × Int × Int)} (h : MapSt c x len cap w W g cp rs) (o : Obj) : MapSt c x len cap w (W.alloc o) g cp rs :=
  h.step ((Upto.refl c W).alloc o) (h.kc.alloc o)

theorem MapSt.lo {c g cp : Nat} {x : Option Addr} {len cap : Nat} {w W : World} {rs : List (Int × Int × Int)} (h : MapSt c x len cap w W g cp rs) : w.heap.size ≤ g ∧ g < W.heap.size := h.own.lt g rfl

/-- Pages that may be drawn. -/
def PagesIn (l : List Int) : Prop := l.length = 16 ∧ ∀ j, j < 16 → -1 ≤ l.getD j 0 ∧ l.getD j 0 ≤ 23

theorem PagesIn.set {l : List Int} (h : PagesIn l) (k : Nat) (hk : k < 16) (p : Int) (hp : -1 ≤ p ∧ p ≤ 23) : PagesIn (l.set k p) := by
  refine ⟨by rw [List.length_set]; exact h.1, fun j hj => ?_⟩
  rw [getD_set16 _ _ _ _ (by rw [h.1]; exact hk)]
  by_cases e : k = j
  · rw [if_pos e]; exact hp
  · rw [if_neg e]; exact h.2 j hj

theorem PagesIn.none : PagesIn none16 := ⟨rfl, fun j hj => by rw [none16_at j hj]; omega⟩
end Go.Proofs.YtcefcglonooelaaGreatDoor

namespace Go.Proofs.YtcefcglonooelaaGreatDoor
open Go.RowKit

set_option linter.unusedVariables false


/-- A book that was drawn: its map is a row of its own, its numbers are small. -/
structure BookSt (c : Nat) (x : Option Addr) (len cap : Nat) (w W : World) (b : Bk) : Prop where
  own : W.ownsRow w.heap.size 129 3 b.m b.rs.length (b.rs.flatMap runC)
  kc : Cur W c x len cap
  u : Upto c w W
  lt : c < w.heap.size
  few : b.rs.length ≤ 17
  fit : FitRuns b.rs
  nm : b.nm.size ≤ 5
  sz : -1 ≤ b.sz ∧ b.sz ≤ 17
  ep : -1 ≤ b.ep ∧ b.ep ≤ 1001

theorem BookSt.step {c : Nat} {x : Option Addr} {len cap : Nat} {w W W' : World} {b : Bk} (h : BookSt c x len cap w W b) (u : Upto c W W') (kc : Cur W' c x len cap) : BookSt c x len cap w W' b :=
  ⟨ownsRow_upto h.own u h.lt, kc, h.u.trans u, h.lt, h.few, h.fit, h.nm, h.sz, h.ep⟩

theorem BookSt.below {c : Nat} {x : Option Addr} {len cap : Nat} {w W W' : World} {b : Bk} (h : BookSt c x len cap w W b) (k : Below W.heap.size W W') : BookSt c x len cap w W' b :=
  h.step (Upto.ofBelow k) (h.kc.below k)

theorem BookSt.form {c : Nat} {x : Option Addr} {len cap : Nat} {w W : World} {b : Bk} (h : BookSt c x len cap w W b) : ∃ o cp, b.m = .slice o b.rs.length cp := own_slice h.own

theorem BookSt.reads {c : Nat} {x : Option Addr} {len cap : Nat} {w W : World} {b : Bk} (h : BookSt c x len cap w W b) : ReadsR 3 runC W.heap.size W b.m b.rs := ReadsR.of_own runC_len h.own

/-- A block of another type that lies behind the start is written. -/
theorem BookSt.put {c : Nat} {x : Option Addr} {len cap : Nat} {w W : World} {b : Bk} {g i : Nat} {cs : Array Value} (h : BookSt c x len cap w W b) (k : W.heap[g]? = some (.cells cs 87 (0, 0))) (hg : w.heap.size ≤ g) (v : Value) : BookSt c x len cap w (W.setCell ⟨g, i, none⟩ v) b := by
  have hne := own_not_box h.own k (by decide)
  have hlt := h.lt
  have hb : ∀ q, q < W.heap.size → q ≠ g → (W.setCell ⟨g, i, none⟩ v).heap[q]? = W.heap[q]? := fun q hq hqg => ((Upto.refl g W).setCell ⟨g, i, none⟩ (.inl rfl) v).block q hq hqg
  refine ⟨own_rng_not h.own (fun q hq hv => hb q hq (fun e => hne (by rw [← e]; exact hv))), h.kc.same (((Upto.refl g W).setCell ⟨g, i, none⟩ (.inl rfl) _).toBelow h.kc.lt (by omega)), h.u.setCell ⟨g, i, none⟩ (.inr hg) _, h.lt, h.few, h.fit, h.nm, h.sz, h.ep⟩

/-- While it is drawn: the book's box at nB, the answer's at the start's end. -/
structure BkSt (c : Nat) (x : Option Addr) (len cap nB : Nat) (w W : World) (b : Bk) : Prop where
  st : BookSt c x len cap w W b
  kB : W.heap[nB]? = some (.cells #[.string b.nm, .int .i64 b.sz, b.m, .bool b.fx, .int .i64 b.ep] 87 (0, 0))
  kR : W.heap[w.heap.size]? = some (.cells #[.string ⟨#[]⟩, .int .i64 0, .slice none 0 0, .bool false, .int .i64 0] 87 (0, 0))
  nb : w.heap.size < nB

theorem BkSt.step {c nB : Nat} {x : Option Addr} {len cap : Nat} {w W W' : World} {b : Bk} (h : BkSt c x len cap nB w W b) (u : Upto c W W') (kc : Cur W' c x len cap) : BkSt c x len cap nB w W' b := by
  have hlt := h.st.lt
  have hnb := h.nb
  exact ⟨h.st.step u kc, (u.block _ (heap_lt h.kB) (by omega)).trans h.kB, (u.block _ (heap_lt h.kR) (by omega)).trans h.kR, h.nb⟩

theorem BkSt.below {c nB : Nat} {x : Option Addr} {len cap : Nat} {w W W' : World} {b : Bk} (h : BkSt c x len cap nB w W b) (k : Below W.heap.size W W') : BkSt c x len cap nB w W' b :=
  h.step (Upto.ofBelow k) (h.st.kc.below k)

theorem BkSt.alloc {c nB : Nat} {x : Option Addr} {len cap : Nat} {w W : World} {b : Bk} (h : BkSt c x len cap nB w W b) (o : Obj) : BkSt c x len cap nB w (W.alloc o) b :=
  h.below (bw_alloc (Below.refl _ _))

theorem BkSt.other {c nB : Nat} {x : Option Addr} {len cap : Nat} {w W : World} {b : Bk} (h : BkSt c x len cap nB w W b) (i : Nat) (v : Value) : (W.setCell ⟨nB, i, none⟩ v).heap[w.heap.size]? = some (.cells #[.string ⟨#[]⟩, .int .i64 0, .slice none 0 0, .bool false, .int .i64 0] 87 (0, 0)) :=
  (((Upto.refl nB W).setCell ⟨nB, i, none⟩ (.inl rfl) v).block _ (heap_lt h.kR) (Nat.ne_of_lt h.nb)).trans h.kR

theorem BkSt.name {c nB : Nat} {x : Option Addr} {len cap : Nat} {w W : World} {b : Bk} (h : BkSt c x len cap nB w W b) (s : ByteArray) (hs : s.size ≤ 5) : BkSt c x len cap nB w (W.setCell ⟨nB, 0, none⟩ (.string s)) ⟨s, b.sz, b.m, b.rs, b.fx, b.ep⟩ := by
  have p := h.st.put (i := 0) h.kB (Nat.le_of_lt h.nb) (.string s)
  exact ⟨⟨p.own, p.kc, p.u, p.lt, p.few, p.fit, hs, p.sz, p.ep⟩, set_at h.kB 0 _, h.other 0 _, h.nb⟩

theorem BkSt.size {c nB : Nat} {x : Option Addr} {len cap : Nat} {w W : World} {b : Bk} (h : BkSt c x len cap nB w W b) (z : Int) (hz : -1 ≤ z ∧ z ≤ 17) : BkSt c x len cap nB w (W.setCell ⟨nB, 1, none⟩ (.int .i64 z)) ⟨b.nm, z, b.m, b.rs, b.fx, b.ep⟩ := by
  have p := h.st.put (i := 1) h.kB (Nat.le_of_lt h.nb) (.int .i64 z)
  exact ⟨⟨p.own, p.kc, p.u, p.lt, p.few, p.fit, p.nm, hz, p.ep⟩, set_at h.kB 1 _, h.other 1 _, h.nb⟩

theorem BkSt.epoch {c nB : Nat} {x : Option Addr} {len cap : Nat} {w W : World} {b : Bk} (h : BkSt c x len cap nB w W b) (z : Int) (hz : -1 ≤ z ∧ z ≤ 1001) : BkSt c x len cap nB w (W.setCell ⟨nB, 4, none⟩ (.int .i64 z)) ⟨b.nm, b.sz, b.m, b.rs, b.fx, z⟩ := by
  have p := h.st.put (i := 4) h.kB (Nat.le_of_lt h.nb) (.int .i64 z)
  exact ⟨⟨p.own, p.kc, p.u, p.lt, p.few, p.fit, p.nm, p.sz, hz⟩, set_at h.kB 4 _, h.other 4 _, h.nb⟩

theorem BkSt.map {c nB base : Nat} {x : Option Addr} {len cap : Nat} {w W : World} {b : Bk} (h : BkSt c x len cap nB w W b) (m : Value) (rs : List (Int × Int × Int)) (hl : rs.length ≤ 17) (hf : FitRuns rs) (hb : w.heap.size ≤ base) (own : W.ownsRow base 129 3 m rs.length (rs.flatMap runC)) : BkSt c x len cap nB w (W.setCell ⟨nB, 2, none⟩ m) ⟨b.nm, b.sz, m, rs, b.fx, b.ep⟩ := by
  have p : BookSt c x len cap w (W.setCell ⟨nB, 2, none⟩ m) ⟨b.nm, b.sz, m, rs, b.fx, b.ep⟩ := BookSt.put (b := ⟨b.nm, b.sz, m, rs, b.fx, b.ep⟩) (i := 2) ⟨owns_mono own hb, h.st.kc, h.st.u, h.st.lt, hl, hf, h.st.nm, h.st.sz, h.st.ep⟩ h.kB (Nat.le_of_lt h.nb) m
  exact ⟨p, set_at h.kB 2 _, h.other 2 _, h.nb⟩
end Go.Proofs.YtcefcglonooelaaGreatDoor

