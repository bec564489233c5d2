/-
  Contracts and plain laws, one chapter behind the other.
-/
import Derived.Deep.RegionHeld3
import Derived.Deep.RegionLaw
import Derived.Test.YtibhepekmihagaaGreatDoorM07
import Derived.Test.YtibhepekmihagaaGreatDoorM10
import Derived.Test.YtibhepekmihagaaGreatDoorM12
import Derived.Test.YtibhepekmihagaaGreatDoorM13
namespace Go.Proofs.YtibhepekmihagaaGreatDoor
open Go.RowKit

set_option linter.unusedVariables false

set_option maxRecDepth 100000


/-- A pool whose two rows are the call's own and lie apart. -/
structure OwnP (base : Nat) (w : World) (v1 v2 : Value) (cs ps : List Int) : Prop where
  c : w.ownsRow base 2 1 v1 cs.length (cs.map (Value.int .i64))
  p : w.ownsRow base 2 1 v2 ps.length (ps.map (Value.int .i64))
  apart : ∀ g, v1.ownBlock = some g → v2.ownBlock ≠ some g

theorem OwnP.below {base : Nat} {w w' : World} {v1 v2 : Value} {cs ps : List Int} (h : OwnP base w v1 v2 cs ps) (b : Below w.heap.size w w') : OwnP base w' v1 v2 cs ps := ⟨owns_below h.c b, owns_below h.p b, h.apart⟩

theorem OwnP.mono {base base' : Nat} {w : World} {v1 v2 : Value} {cs ps : List Int} (h : OwnP base w v1 v2 cs ps) (b : base' ≤ base) : OwnP base' w v1 v2 cs ps := ⟨owns_mono h.c b, owns_mono h.p b, h.apart⟩

theorem OwnP.upto {base c : Nat} {w w' : World} {v1 v2 : Value} {cs ps : List Int} (h : OwnP base w v1 v2 cs ps) (u : Upto c w w') (hc : c < base) : OwnP base w' v1 v2 cs ps := ⟨ownsRow_upto h.c u hc, ownsRow_upto h.p u hc, h.apart⟩

theorem OwnP.r1 {base : Nat} {w : World} {v1 v2 : Value} {cs ps : List Int} (h : OwnP base w v1 v2 cs ps) : Reads w.heap.size w v1 (cs.map (Value.int .i64)) := Reads.of_own h.c

theorem OwnP.r2 {base : Nat} {w : World} {v1 v2 : Value} {cs ps : List Int} (h : OwnP base w v1 v2 cs ps) : Reads w.heap.size w v2 (ps.map (Value.int .i64)) := Reads.of_own h.p

theorem OwnP.nil (base : Nat) (w : World) : OwnP base w (.slice none 0 0) (.slice none 0 0) [] [] := ⟨owns_nil _ _ _ _, owns_nil _ _ _ _, fun g h => by cases h⟩

/-- The memory that a call begins with which takes a pool and answers one: the pool's box, and the answer's. -/
theorem pool_start (w : World) (v1 v2 : Value) : ∃ W0, W0 = (w.alloc (.cells #[v1, v2] 25)).alloc (.cells #[.slice none 0 0, .slice none 0 0] 25) ∧
    W0.heap[w.heap.size]? = some (.cells #[v1, v2] 25 (0, 0)) ∧ W0.heap[w.heap.size + 1]? = some (.cells #[.slice none 0 0, .slice none 0 0] 25 (0, 0)) ∧ Below w.heap.size w W0 ∧ W0.heap.size = w.heap.size + 1 + 1 := by
  have s1 : (w.alloc (.cells #[v1, v2] 25)).heap.size = w.heap.size + 1 := by simp
  have a1 := heap_alloc_new w (.cells #[v1, v2] 25)
  have a2 := heap_alloc_new (w.alloc (.cells #[v1, v2] 25)) (.cells #[.slice none 0 0, .slice none 0 0] 25)
  rw [s1] at a2
  exact ⟨_, rfl, (Below.heap_alloc _ _ _ (by rw [s1]; omega)).trans a1, a2, bw_alloc (bw_alloc (Below.refl _ _)), by simp⟩

/-- The answer's box is written. -/
theorem pool_end (w W : World) (u1 u2 x y : Value) (b : Nat) (cs ps : List Int) (hb : w.heap.size ≤ b) (k : W.heap[b]? = some (.cells #[x, y] 25 (0, 0))) (own : OwnP (b + 1) W u1 u2 cs ps) (d : Below w.heap.size w W) :
    ((W.setCell ⟨b, 0, none⟩ u1).setCell ⟨b, 1, none⟩ u2).heap[b]? = some (.cells #[u1, u2] 25 (0, 0)) ∧ OwnP w.heap.size ((W.setCell ⟨b, 0, none⟩ u1).setCell ⟨b, 1, none⟩ u2) u1 u2 cs ps ∧ Below w.heap.size w ((W.setCell ⟨b, 0, none⟩ u1).setCell ⟨b, 1, none⟩ u2) := by
  obtain ⟨h1, h2⟩ := set_two k u1 u2
  exact ⟨h1, (own.upto h2 (by omega)).mono (by omega), d.trans (h2.toBelow d.size (by omega))⟩

/-- Two rows made one behind the other, and the answer's box written. -/
theorem pair_end {w W0 w5 w6 : World} {v5 v6 : Value} {cs ps : List Int} (d0 : Below w.heap.size w W0) (z0 : W0.heap.size = w.heap.size + 1 + 1) (own5 : w5.ownsRow W0.drew.heap.size 2 1 v5 cs.length (cs.map (Value.int .i64))) (b5 : Below W0.drew.heap.size W0.drew w5)
    (own6 : w6.ownsRow w5.heap.size 2 1 v6 ps.length (ps.map (Value.int .i64))) (b6 : Below w5.heap.size w5 w6) {x y : Value} (k : w6.heap[w.heap.size + 1]? = some (.cells #[x, y] 25 (0, 0))) :
    ((w6.setCell ⟨w.heap.size + 1, 0, none⟩ v5).setCell ⟨w.heap.size + 1, 1, none⟩ v6).heap[w.heap.size + 1]? = some (.cells #[v5, v6] 25 (0, 0)) ∧ OwnP w.heap.size ((w6.setCell ⟨w.heap.size + 1, 0, none⟩ v5).setCell ⟨w.heap.size + 1, 1, none⟩ v6) v5 v6 cs ps ∧ Below w.heap.size w ((w6.setCell ⟨w.heap.size + 1, 0, none⟩ v5).setCell ⟨w.heap.size + 1, 1, none⟩ v6) := by
  have hz : W0.drew.heap.size = w.heap.size + 1 + 1 := z0
  have h5 := b5.size
  refine pool_end w w6 v5 v6 x y (w.heap.size + 1) cs ps (by omega) k ⟨owns_mono (owns_below own5 b6) (by omega), owns_mono own6 (by omega), fun g h1 h2 => ?_⟩ (bw_call (bw_call (bw_drew d0) b5) b6)
  have := (own5.lt g h1).2
  have := (own6.lt g h2).1
  omega

theorem l1Copy_any (v : Value) (xs : List Int) (w : World) (hn : xs.length ≤ 1048576) (h : Reads w.heap.size w v (xs.map (Value.int .i64))) :
    Calls Tryz.prog 149 #[v] w fun e w' => ∃ v' : Value, e = .returned v' ∧ w'.ownsRow w.heap.size 2 1 v' xs.length (xs.map (Value.int .i64)) ∧ v' ≠ .slice none 0 0 ∧ Below w.heap.size w w' := by
  obtain ⟨i0, hi, hz0, hz1, hz2⟩ := info_parts Tryz.infoI64
  obtain ⟨o, cap, rfl, hm, hc, -⟩ := h
  have hl : (xs.map (Value.int .i64)).length = xs.length := by simp
  rw [hl] at hm ⊢
  have own0 : (w.alloc (.cells #[] 2)).ownsRow w.heap.size 2 1 (.slice (some ⟨w.heap.size, 0, none⟩) 0 0) 0 [] := World.ownsRow_lit w #[] 0 (Nat.le_refl _) (Nat.zero_le _) rfl
  have d0 : Below w.heap.size w (w.alloc (.cells #[] 2)) := bw_alloc (Below.refl _ _)
  have HC : Hid (∀ j u, (xs.map (Value.int .i64))[j]? = some u → ∃ g off, o = some ⟨g, off, none⟩ ∧ (w.alloc (.cells #[] 2)).cell? ⟨g, off + j, none⟩ = some u) := fun j u hj => by
    obtain ⟨g, off, e, hg, hx⟩ := hc j u hj
    exact ⟨g, off, e, (d0.cell (p := ⟨g, off + j, none⟩) hg).trans hx⟩
  clear hc hl
  go_enter Tryz.func149, Tryz.ntmps149
  go_wp2_with (at_builtin; refine wpList_append_reads rfl _ _ 23 rfl w.heap.size 2 i0 (.int .i64 0) 1 8 Tryz.underlying23 hi hz0 hz1 hz2 rfl (by decide) _ 0 [] rfl own0 o xs.length cap (xs.map (Value.int .i64)) rfl ?c0 HC.out ?c2 ?c3 ?c4 ?c5 ?_)
  case c0 => simp
  case c2 => intro u hu; simp at hu; obtain ⟨a, _, rfl⟩ := hu; rfl
  case c3 => unfold maxLen; omega
  case c4 => omega
  case c5 => simp
  intro v' w' hown hgrow hnil
  have hown2 : w'.ownsRow w.heap.size 2 1 v' xs.length (xs.map (Value.int .i64)) := by simpa using hown
  have hnn : v' ≠ .slice none 0 0 := hnil
  have hb : Below w.heap.size w w' := d0.grown hgrow (by simp) (fun q hq => (own0.lt q hq).1)
  clear hown hgrow hnil own0 d0 HC
  go_wp2_with fail
  go_ret
  exact ⟨v', rfl, hown2, hnn, hb⟩

set_option maxHeartbeats 1600000 in
theorem l4Copy_any (v1 v2 : Value) (cs ps : List Int) (w : World) (hc : cs.length ≤ 1048576) (hp : ps.length ≤ 1048576) (h1 : Reads w.heap.size w v1 (cs.map (Value.int .i64))) (h2 : Reads w.heap.size w v2 (ps.map (Value.int .i64))) :
    Calls Tryz.prog 147 #[.agg #[v1, v2]] w fun e w' => ∃ u1 u2 : Value, e = .returned (.agg #[u1, u2]) ∧ OwnP w.heap.size w' u1 u2 cs ps ∧ Below w.heap.size w w' := by
  obtain ⟨W0, hW0, k0, k1, d0, z0⟩ := pool_start w v1 v2
  have r1 : Reads W0.drew.heap.size W0.drew v1 (cs.map (Value.int .i64)) := ((h1.below d0).mono d0.size).below ((Below.refl _ _).drew)
  have r2 : Reads W0.drew.heap.size W0.drew v2 (ps.map (Value.int .i64)) := ((h2.below d0).mono d0.size).below ((Below.refl _ _).drew)
  have S0 : W0.drew.cell? ⟨w.heap.size, 0, none⟩ = some v1 ∧ W0.drew.cell? ⟨w.heap.size, 1, none⟩ = some v2 := ⟨at_cell k0 0, at_cell k0 1⟩
  have HW0 : Hid (W0 = _) := hW0
  clear hW0 h1 h2
  go_enter Tryz.func147, Tryz.ntmps147
  go_wp2_with fail
  rw [← HW0.out]
  clear HW0
  obtain ⟨S00, S01⟩ := S0
  go_region_law (go_simp; go_at_call 149; first
      | (have q25 := r25; clear q25; refine (l1Copy_any v2 ps _ hp r25).mono ?_; rintro e w6 ⟨v6, rfl, own6, hn6, b6⟩; obtain ⟨o6, c6, rfl⟩ := own_slice own6; have k60 := (b6.block _ (heap_lt k50)).trans k50; have k61 := (b6.block _ (heap_lt k51)).trans k51; have S60 := at_cell k60 0; have S61 := at_cell k60 1; have q0 := at_cell k61 0; have q1 := at_cell k61 1; have f0 := at_open k61 0; have f1 := at_open k61 1; dsimp only)
      | (refine (l1Copy_any v1 cs _ hc r1).mono ?_; rintro e w5 ⟨v5, rfl, own5, hn5, b5⟩; obtain ⟨o5, c5, rfl⟩ := own_slice own5; have k50 := (b5.block _ (show w.heap.size < W0.heap.size by omega)).trans k0; have k51 := (b5.block _ (show w.heap.size + 1 < W0.heap.size by omega)).trans k1; have S50 := at_cell k50 0; have S51 := at_cell k50 1; have r25 := (r2.below b5).mono b5.size; dsimp only))
  all_goals
    have HS : Hid _ := pair_end d0 z0 own5 b5 own6 b6 k61
    clear own5 own6 b5 b6 k50 k51 k60 k61 S50 S51 S60 S61 q0 q1 f0 f1 r25 r1 r2 S00 S01 k0 k1 hn5 hn6
    go_wp2_with fail
    exact bodyPost_ret (v := .agg #[.slice o5 cs.length c5, .slice o6 ps.length c6]) (by simp [results, Tryz.results147, go_sem, at_cell HS.out.1]) rfl ⟨_, _, rfl, HS.out.2⟩

/-- Two new rows of noughts, made in either order, and the answer's box written. -/
theorem new_end {w W0 : World} {M : Array Value} {m : Nat} {x y : Value} (k0 : W0.heap[w.heap.size]? = some (.cells #[x, y] 25 (0, 0))) (d0 : Below w.heap.size w W0) (z0 : W0.heap.size = w.heap.size + 1)
    (hown : ∀ (W : World) (base : Nat), base ≤ W.heap.size → (W.alloc (.cells M 2)).ownsRow base 2 1 (.slice (some ⟨W.heap.size, 0, none⟩) m m) m ((List.replicate m (0 : Int)).map (Value.int .i64)))
    (a b : Nat) (hab : (a = w.heap.size + 1 ∧ b = w.heap.size + 1 + 1) ∨ (a = w.heap.size + 1 + 1 ∧ b = w.heap.size + 1)) :
    (((((W0.setCell ⟨w.heap.size, 0, none⟩ (.slice (some ⟨a, 0, none⟩) m m)).setCell ⟨w.heap.size, 1, none⟩ (.slice (some ⟨b, 0, none⟩) m m)).alloc (.cells M 2)).alloc (.cells M 2)).drew).heap[w.heap.size]? = some (.cells #[.slice (some ⟨a, 0, none⟩) m m, .slice (some ⟨b, 0, none⟩) m m] 25 (0, 0)) ∧
    OwnP w.heap.size (((((W0.setCell ⟨w.heap.size, 0, none⟩ (.slice (some ⟨a, 0, none⟩) m m)).setCell ⟨w.heap.size, 1, none⟩ (.slice (some ⟨b, 0, none⟩) m m)).alloc (.cells M 2)).alloc (.cells M 2)).drew) (.slice (some ⟨a, 0, none⟩) m m) (.slice (some ⟨b, 0, none⟩) m m) (List.replicate m 0) (List.replicate m 0) ∧
    Below w.heap.size w (((((W0.setCell ⟨w.heap.size, 0, none⟩ (.slice (some ⟨a, 0, none⟩) m m)).setCell ⟨w.heap.size, 1, none⟩ (.slice (some ⟨b, 0, none⟩) m m)).alloc (.cells M 2)).alloc (.cells M 2)).drew) := by
  obtain ⟨h1, h2⟩ := set_two k0 (.slice (some ⟨a, 0, none⟩) m m) (.slice (some ⟨b, 0, none⟩) m m)
  generalize hW : (W0.setCell ⟨w.heap.size, 0, none⟩ (.slice (some ⟨a, 0, none⟩) m m)).setCell ⟨w.heap.size, 1, none⟩ (.slice (some ⟨b, 0, none⟩) m m) = W1 at h1 h2 ⊢
  have s1 : W1.heap.size = w.heap.size + 1 := by rw [← hW, World.size_setCell, World.size_setCell, z0]
  clear hW
  have s2 : (W1.alloc (.cells M 2)).heap.size = w.heap.size + 1 + 1 := by simp [s1]
  have o1 := hown W1 w.heap.size (by omega)
  have o2 := hown (W1.alloc (.cells M 2)) w.heap.size (by omega)
  rw [s1] at o1
  rw [s2] at o2
  have o3 := o1.alloc (.cells M 2)
  have e1 := (Below.heap_alloc (W1.alloc (.cells M 2)) (.cells M 2) w.heap.size (by omega)).trans ((Below.heap_alloc W1 (.cells M 2) w.heap.size (by omega)).trans h1)
  have hl : (List.replicate m (0 : Int)).length = m := by simp
  refine ⟨e1, ?_, bw_drew (bw_alloc (bw_alloc (d0.trans (h2.toBelow (by omega) (Nat.le_refl _)))))⟩
  rcases hab with ⟨rfl, rfl⟩ | ⟨rfl, rfl⟩
  · exact ⟨by rw [hl]; exact o3, by rw [hl]; exact o2, fun g q => by simp [Value.ownBlock] at q ⊢; omega⟩
  · exact ⟨by rw [hl]; exact o2, by rw [hl]; exact o3, fun g q => by simp [Value.ownBlock] at q ⊢; omega⟩

set_option maxHeartbeats 800000 in
theorem specNewPool_any (n : Int) (w : World) :
    Calls Tryz.prog 126 #[.int .i64 n] w fun e w' => ∃ u1 u2 : Value, e = .returned (.tuple #[.agg #[u1, u2], .bool (newPool n).2]) ∧ OwnP w.heap.size w' u1 u2 (newPool n).1.1 (newPool n).1.2 ∧ Below w.heap.size w w' := by
  obtain ⟨W0, hW0, k0, d0, z0⟩ := pool_box w (.slice none 0 0) (.slice none 0 0) 25
  have HW0 : Hid (W0 = _) := hW0
  have p0 := at_cell k0 0
  have p1 := at_cell k0 1
  have f0 := at_open k0 0
  have f1 := at_open k0 1
  clear hW0
  cases hn : (decide ((1 : Int) ≤ n) && decide (n ≤ 24))
  · have hv : newPool n = (([], []), false) := by
      unfold newPool
      rw [if_neg]
      rintro ⟨h1, h2⟩
      simp [h1, h2] at hn
    rw [hv]
    have HS : Hid _ := pool_end w W0 (.slice none 0 0) (.slice none 0 0) _ _ w.heap.size [] [] (Nat.le_refl _) k0 (OwnP.nil _ _) d0
    clear hv k0
    go_enter Tryz.func126, Tryz.ntmps126
    go_wp2_with fail
    rw [← HW0.out]
    refine (l1In_any _ _ _ _).mono ?_
    rintro e w' ⟨rfl, rfl⟩
    rw [hn]
    go_wp2_with fail
    exact bodyPost_ret (v := .tuple #[.agg #[.slice none 0 0, .slice none 0 0], .bool false]) (by simp [results, Tryz.results126, go_sem, at_cell HS.out.1]) rfl ⟨_, _, rfl, HS.out.2⟩
  · have hb : 1 ≤ n ∧ n ≤ 24 := by simpa using hn
    obtain ⟨m, rfl⟩ := Int.eq_ofNat_of_zero_le (show 0 ≤ n by omega)
    have hv : newPool (m : Int) = ((List.replicate m 0, List.replicate m 0), true) := by
      unfold newPool
      rw [if_pos hb, Int.toNat_natCast]
    rw [hv]
    obtain ⟨M, hM, hmk, hown⟩ := made_ints m (by omega)
    clear hv
    go_enter Tryz.func126, Tryz.ntmps126
    go_wp2_with fail
    rw [← HW0.out]
    refine (l1In_any _ _ _ _).mono ?_
    rintro e w' ⟨rfl, rfl⟩
    rw [hn]
    go_wp2_with fail
    go_region
    · have HS : Hid _ := new_end k0 d0 z0 hown (w.heap.size + 1) (w.heap.size + 1 + 1) (.inl ⟨rfl, rfl⟩)
      clear k0 d0 hown hmk HW0
      go_wp2_with fail
      exact bodyPost_ret (v := .tuple #[.agg #[.slice (some ⟨w.heap.size + 1, 0, none⟩) m m, .slice (some ⟨w.heap.size + 1 + 1, 0, none⟩) m m], .bool true]) (by simp [results, Tryz.results126, go_sem, at_cell HS.out.1]) rfl ⟨_, _, rfl, HS.out.2⟩
    · have HS : Hid _ := new_end k0 d0 z0 hown (w.heap.size + 1 + 1) (w.heap.size + 1) (.inr ⟨rfl, rfl⟩)
      clear k0 d0 hown hmk HW0
      go_wp2_with fail
      exact bodyPost_ret (v := .tuple #[.agg #[.slice (some ⟨w.heap.size + 1 + 1, 0, none⟩) m m, .slice (some ⟨w.heap.size + 1, 0, none⟩) m m], .bool true]) (by simp [results, Tryz.results126, go_sem, at_cell HS.out.1]) rfl ⟨_, _, rfl, HS.out.2⟩
end Go.Proofs.YtibhepekmihagaaGreatDoor

namespace Go.Proofs.YtibhepekmihagaaGreatDoor
open Go.RowKit

set_option linter.unusedVariables false

set_option maxRecDepth 100000


/-- A pool that is read: its rows. -/
structure RP (B : Nat) (w : World) (v1 v2 : Value) (cs ps : List Int) : Prop where
  c : Reads B w v1 (cs.map (Value.int .i64))
  p : Reads B w v2 (ps.map (Value.int .i64))

theorem RP.below {B : Nat} {w w' : World} {v1 v2 : Value} {cs ps : List Int} (h : RP B w v1 v2 cs ps) (k : Below B w w') : RP B w' v1 v2 cs ps := ⟨h.c.below k, h.p.below k⟩

theorem RP.mono {B B' : Nat} {w : World} {v1 v2 : Value} {cs ps : List Int} (h : RP B w v1 v2 cs ps) (k : B ≤ B') : RP B' w v1 v2 cs ps := ⟨h.c.mono k, h.p.mono k⟩

theorem RP.of {B : Nat} {W : World} {v1 v2 : Value} {cs ps : List Int} (h : RP B W v1 v2 cs ps) (y : B ≤ W.heap.size) (p : BelowOf W) : RP p.w'.heap.size p.w' v1 v2 cs ps := ((h.mono y).below p.h).mono p.h.size

theorem RP.forms {B : Nat} {w : World} {v1 v2 : Value} {cs ps : List Int} (h : RP B w v1 v2 cs ps) : ∃ o1 k1 o2 k2, v1 = .slice o1 cs.length k1 ∧ v2 = .slice o2 ps.length k2 := by
  obtain ⟨⟨o, k, e, -⟩, ⟨o', k', e', -⟩⟩ := h
  exact ⟨o, k, o', k', by rw [e, List.length_map], by rw [e', List.length_map]⟩

theorem OwnP.reads {base : Nat} {w : World} {v1 v2 : Value} {cs ps : List Int} (h : OwnP base w v1 v2 cs ps) : RP w.heap.size w v1 v2 cs ps := ⟨h.r1, h.r2⟩

theorem OwnP.rng {lo hi base : Nat} {w w' : World} {v1 v2 : Value} {cs ps : List Int} (h : OwnP base w v1 v2 cs ps) (k : Rng lo hi w w') (hb : hi ≤ base) : OwnP base w' v1 v2 cs ps := ⟨own_rng h.c k hb, own_rng h.p k hb, h.apart⟩

/-- The blocks of a pool of one's own lie from base on, below the end of memory. -/
theorem OwnP.span {base : Nat} {w : World} {v1 v2 : Value} {cs ps : List Int} (h : OwnP base w v1 v2 cs ps) : ∀ g, (v1.ownBlock = some g ∨ v2.ownBlock = some g) → base ≤ g ∧ g < w.heap.size := by
  rintro g (h1 | h1)
  · exact h.c.lt g h1
  · exact h.p.lt g h1

theorem OwnP.forms {base : Nat} {w : World} {v1 v2 : Value} {cs ps : List Int} (h : OwnP base w v1 v2 cs ps) : ∃ o1 c1 o2 c2, v1 = .slice o1 cs.length c1 ∧ v2 = .slice o2 ps.length c2 := by
  obtain ⟨o1, c1, h1⟩ := own_slice h.c
  obtain ⟨o2, c2, h2⟩ := own_slice h.p
  exact ⟨o1, c1, o2, c2, h1, h2⟩

set_option maxHeartbeats 800000 in
theorem eqPool_any (a1 a2 b1 b2 : Value) (cs ps cs' ps' : List Int) (w : World) (r : RP w.heap.size w a1 a2 cs ps) (r' : RP w.heap.size w b1 b2 cs' ps') :
    Calls Tryz.prog 43 #[.agg #[a1, a2], .agg #[b1, b2]] w fun e w' => e = .returned (.bool (decide (cs = cs') && decide (ps = ps'))) ∧ Below w.heap.size w w' := by
  obtain ⟨W0, hW0, k0, k1, d0, z0⟩ := box2 w #[a1, a2] #[b1, b2] 25 25
  have r0 := (r.below d0).mono d0.size
  have r1 := (r'.below d0).mono d0.size
  have HW0 : Hid (W0 = _) := hW0
  clear hW0 r r'
  go_enter Tryz.func43, Tryz.ntmps43
  go_wp2_with fail
  rw [← HW0.out]
  clear HW0
  refine (eqInts_any a1 b1 cs cs' _ r0.c r1.c).mono ?_
  rintro e w1 ⟨rfl, b⟩
  replace k0 := (b.block _ (by omega)).trans k0
  replace k1 := (b.block _ (by omega)).trans k1
  replace d0 := bw_call d0 b
  replace r0 := (r0.below b).mono b.size
  replace r1 := (r1.below b).mono b.size
  have p0 := at_cell k0 1
  have p1 := at_cell k1 1
  by_cases hc : cs = cs'
  · rw [decide_eq_true hc]
    go_wp2_with fail
    refine (eqInts_any a2 b2 ps ps' _ r0.p r1.p).mono ?_
    rintro e w2 ⟨rfl, b2'⟩
    replace d0 := bw_call d0 b2'
    by_cases hp : ps = ps'
    · rw [decide_eq_true hp]
      have HC : Hid (cs = cs') := hc
      have HP : Hid (ps = ps') := hp
      clear hc hp
      go_wp2_with fail
      go_ret
      exact ⟨ret_bool (by simp [HC.out, HP.out]), d0⟩
    · rw [decide_eq_false hp]
      have HP : Hid (¬ ps = ps') := hp
      clear hc hp
      go_wp2_with fail
      go_ret
      exact ⟨ret_bool (by rw [decide_eq_false HP.out, Bool.and_false]), d0⟩
  · rw [decide_eq_false hc]
    have HP : Hid (¬ cs = cs') := hc
    clear hc
    go_wp2_with fail
    go_ret
    exact ⟨ret_bool (by rw [decide_eq_false HP.out, Bool.false_and]), d0⟩

set_option maxHeartbeats 800000 in
theorem heldPool_any (v1 v2 : Value) (n m : Nat) (k : Int) (w : World) (hk : 0 ≤ k) (hk2 : k ≤ 1073741824) (hn : n ≤ 1048576) (hm : m ≤ 1048576) (r : RP w.heap.size w v1 v2 (marksI k n) (marksI (k + n) m)) :
    Calls Tryz.prog 53 #[.agg #[v1, v2], .int .i64 k] w fun e w' => e = .returned (.int .i64 (k + n + m)) ∧ Below w.heap.size w w' := by
  obtain ⟨W0, hW0, k0, d0, z0⟩ := box1 w #[v1, v2] 25
  have r0 := (r.below d0).mono d0.size
  have HW0 : Hid (W0 = _) := hW0
  clear hW0 r
  go_enter Tryz.func53, Tryz.ntmps53
  go_wp2_with fail
  rw [← HW0.out]
  clear HW0
  refine (heldI_any v1 n k _ hk (by omega) r0.c).mono ?_
  rintro e w1 ⟨rfl, b⟩
  replace k0 := (b.block _ (by omega)).trans k0
  replace d0 := bw_call d0 b
  replace r0 := (r0.below b).mono b.size
  have p1 := at_cell k0 1
  have h1 : 0 ≤ k + (n : Int) := by omega
  go_wp2_with fail
  refine (heldI_any v2 m (k + n) _ h1 (by omega) r0.p).mono ?_
  rintro e w2 ⟨rfl, b'⟩
  replace d0 := bw_call d0 b'
  have h2 : 0 ≤ k + (n : Int) + (m : Int) := by omega
  go_wp2_with fail
  go_ret
  exact ⟨rfl, d0⟩
end Go.Proofs.YtibhepekmihagaaGreatDoor

namespace Go.Proofs.YtibhepekmihagaaGreatDoor
open Go.RowKit

set_option linter.unusedVariables false

set_option maxRecDepth 100000


/-- A shelf that is read. -/
structure RS (B : Nat) (w : World) (v1 v2 vb : Value) (cs ps : List Int) (bks : List Bk) : Prop where
  p : RP B w v1 v2 cs ps
  b : ReadsB B w vb bks

theorem RS.below {B : Nat} {w w' : World} {v1 v2 vb : Value} {cs ps : List Int} {bks : List Bk} (h : RS B w v1 v2 vb cs ps bks) (k : Below B w w') : RS B w' v1 v2 vb cs ps bks := ⟨h.p.below k, h.b.below k⟩

theorem RS.mono {B B' : Nat} {w : World} {v1 v2 vb : Value} {cs ps : List Int} {bks : List Bk} (h : RS B w v1 v2 vb cs ps bks) (k : B ≤ B') : RS B' w v1 v2 vb cs ps bks := ⟨h.p.mono k, h.b.mono k⟩

theorem RS.forms {B : Nat} {w : World} {v1 v2 vb : Value} {cs ps : List Int} {bks : List Bk} (h : RS B w v1 v2 vb cs ps bks) : ∃ o1 k1 o2 k2 ob kb, v1 = .slice o1 cs.length k1 ∧ v2 = .slice o2 ps.length k2 ∧ vb = .slice ob bks.length kb := by
  obtain ⟨o1, k1, o2, k2, e1, e2⟩ := h.p.forms
  obtain ⟨ob, kb, e3, -⟩ := h.b.row
  exact ⟨o1, k1, o2, k2, ob, kb, e1, e2, e3⟩

/-- A shelf of one's own. -/
structure OwnS (base : Nat) (w : World) (v1 v2 vb : Value) (cs ps : List Int) (bks : List Bk) : Prop where
  p : OwnP base w v1 v2 cs ps
  b : OwnB base w vb bks
  a : ApartM bks

theorem OwnS.below {base : Nat} {w w' : World} {v1 v2 vb : Value} {cs ps : List Int} {bks : List Bk} (h : OwnS base w v1 v2 vb cs ps bks) (k : Below w.heap.size w w') : OwnS base w' v1 v2 vb cs ps bks := ⟨h.p.below k, h.b.below k, h.a⟩

theorem OwnS.mono {base base' : Nat} {w : World} {v1 v2 vb : Value} {cs ps : List Int} {bks : List Bk} (h : OwnS base w v1 v2 vb cs ps bks) (k : base' ≤ base) : OwnS base' w v1 v2 vb cs ps bks := ⟨h.p.mono k, h.b.mono k, h.a⟩

theorem OwnS.reads {base : Nat} {w : World} {v1 v2 vb : Value} {cs ps : List Int} {bks : List Bk} (h : OwnS base w v1 v2 vb cs ps bks) : RS w.heap.size w v1 v2 vb cs ps bks := ⟨h.p.reads, h.b.reads⟩

theorem OwnB.upto {base c : Nat} {w w' : World} {v : Value} {bs : List Bk} (h : OwnB base w v bs) (u : Upto c w w') (hc : c < base) : OwnB base w' v bs := ⟨ownsRow_upto h.row u hc, fun b hb => ownsRow_upto (h.maps b hb) u hc⟩

theorem OwnS.upto {base c : Nat} {w w' : World} {v1 v2 vb : Value} {cs ps : List Int} {bks : List Bk} (h : OwnS base w v1 v2 vb cs ps bks) (u : Upto c w w') (hc : c < base) : OwnS base w' v1 v2 vb cs ps bks := ⟨h.p.upto u hc, h.b.upto u hc, h.a⟩

theorem OwnS.forms {base : Nat} {w : World} {v1 v2 vb : Value} {cs ps : List Int} {bks : List Bk} (h : OwnS base w v1 v2 vb cs ps bks) : ∃ o1 k1 o2 k2 ob kb, v1 = .slice o1 cs.length k1 ∧ v2 = .slice o2 ps.length k2 ∧ vb = .slice ob bks.length kb := h.reads.forms

set_option maxHeartbeats 1600000 in
theorem eqShelf_same (v1 v2 vb x1 x2 xb : Value) (cs ps : List Int) (bks ms : List Bk) (w : World) (hp : ms.map plainB = bks.map plainB) (r : RS w.heap.size w v1 v2 vb cs ps bks) (r' : RS w.heap.size w x1 x2 xb cs ps ms) :
    Calls Tryz.prog 16 #[.agg #[v1, v2, vb], .agg #[x1, x2, xb]] w fun e w' => e = .returned (.bool true) ∧ Below w.heap.size w w' := by
  obtain ⟨o1, k1, o2, k2, ob, kb, rfl, rfl, rfl⟩ := r.forms
  obtain ⟨o3, k3, o4, k4, oc, kc, rfl, rfl, rfl⟩ := r'.forms
  obtain ⟨W0, hW0, kA, kB, d0, z0⟩ := box2 w #[.slice o1 cs.length k1, .slice o2 ps.length k2, .slice ob bks.length kb] #[.slice o3 cs.length k3, .slice o4 ps.length k4, .slice oc ms.length kc] 28 28
  have HW0 : Hid (W0 = _) := hW0
  have HP : Hid _ := hp
  have r0 := (r.below d0).mono d0.size
  have r1 := (r'.below d0).mono d0.size
  clear hW0 z0 r r' hp
  go_enter Tryz.func16, Tryz.ntmps16
  go_wp2_with fail
  rw [← HW0.out]
  clear HW0
  refine (eqPool_any _ _ _ _ cs ps cs ps _ r0.p r1.p).mono ?_
  rintro e w1 ⟨rfl, b1⟩
  replace kA := (b1.block _ (heap_lt kA)).trans kA
  replace kB := (b1.block _ (heap_lt kB)).trans kB
  replace d0 := bw_call d0 b1
  replace r0 := (r0.below b1).mono b1.size
  replace r1 := (r1.below b1).mono b1.size
  clear b1
  have e1 : (decide (cs = cs) && decide (ps = ps)) = true := by simp
  have pA := at_cell kA 2
  have pB := at_cell kB 2
  go_wp2_with fail
  clear pA pB
  refine (eqBooks_same _ _ bks ms _ HP.out r0.b r1.b).mono ?_
  rintro e w2 ⟨rfl, b2⟩
  replace d0 := bw_call d0 b2
  clear b2 kA kB r0 r1
  go_wp2_with fail
  go_ret
  exact ⟨rfl, d0⟩
end Go.Proofs.YtibhepekmihagaaGreatDoor

