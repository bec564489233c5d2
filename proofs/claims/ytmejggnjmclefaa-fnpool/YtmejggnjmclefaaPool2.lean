/-
  Chapter 4: the specification's copies of rows and pools, NewPool, Spare, l4Has, at every argument.
-/
import Derived.Test.YtmejggnjmclefaaPool
import Derived.Deep.RegionHeld3
import Derived.Deep.RegionLaw
namespace Go.Proofs.Ytmejggnjmclefaa
open Go.RowKit
set_option linter.unusedVariables false

/-- A pool whose two rows are the call's own and lie apart. -/
structure OwnP (base : Nat) (w : World) (v1 v2 : Value) (cs ps : List Int) : Prop where
  c : w.ownsRow base 2 1 v1 cs.length (cs.map (Value.int .i64))
  p : w.ownsRow base 2 1 v2 ps.length (ps.map (Value.int .i64))
  apart : ∀ g, v1.ownBlock = some g → v2.ownBlock ≠ some g
theorem OwnP.below {base : Nat} {w w' : World} {v1 v2 : Value} {cs ps : List Int} (h : OwnP base w v1 v2 cs ps) (b : Below w.heap.size w w') : OwnP base w' v1 v2 cs ps := ⟨owns_below h.c b, owns_below h.p b, h.apart⟩
theorem OwnP.mono {base base' : Nat} {w : World} {v1 v2 : Value} {cs ps : List Int} (h : OwnP base w v1 v2 cs ps) (b : base' ≤ base) : OwnP base' w v1 v2 cs ps := ⟨owns_mono h.c b, owns_mono h.p b, h.apart⟩
theorem OwnP.upto {base c : Nat} {w w' : World} {v1 v2 : Value} {cs ps : List Int} (h : OwnP base w v1 v2 cs ps) (u : Upto c w w') (hc : c < base) : OwnP base w' v1 v2 cs ps := ⟨ownsRow_upto h.c u hc, ownsRow_upto h.p u hc, h.apart⟩
theorem OwnP.r1 {base : Nat} {w : World} {v1 v2 : Value} {cs ps : List Int} (h : OwnP base w v1 v2 cs ps) : Reads w.heap.size w v1 (cs.map (Value.int .i64)) := Reads.of_own h.c
theorem OwnP.r2 {base : Nat} {w : World} {v1 v2 : Value} {cs ps : List Int} (h : OwnP base w v1 v2 cs ps) : Reads w.heap.size w v2 (ps.map (Value.int .i64)) := Reads.of_own h.p
theorem OwnP.nil (base : Nat) (w : World) : OwnP base w (.slice none 0 0) (.slice none 0 0) [] [] := ⟨owns_nil _ _ _ _, owns_nil _ _ _ _, fun g h => by cases h⟩

/-- The memory that a call begins with which takes a pool and answers one: the pool's box, and the answer's. -/
theorem pool_start (w : World) (v1 v2 : Value) : ∃ W0, W0 = (w.alloc (.cells #[v1, v2] 55)).alloc (.cells #[.slice none 0 0, .slice none 0 0] 55) ∧
    W0.heap[w.heap.size]? = some (.cells #[v1, v2] 55 (0, 0)) ∧ W0.heap[w.heap.size + 1]? = some (.cells #[.slice none 0 0, .slice none 0 0] 55 (0, 0)) ∧ Below w.heap.size w W0 ∧ W0.heap.size = w.heap.size + 1 + 1 := by
  have s1 : (w.alloc (.cells #[v1, v2] 55)).heap.size = w.heap.size + 1 := by simp
  have a1 := heap_alloc_new w (.cells #[v1, v2] 55)
  have a2 := heap_alloc_new (w.alloc (.cells #[v1, v2] 55)) (.cells #[.slice none 0 0, .slice none 0 0] 55)
  rw [s1] at a2
  exact ⟨_, rfl, (Below.heap_alloc _ _ _ (by rw [s1]; omega)).trans a1, a2, bw_alloc (bw_alloc (Below.refl _ _)), by simp⟩

/-- The answer's box is written. -/
theorem pool_end (w W : World) (u1 u2 x y : Value) (b : Nat) (cs ps : List Int) (hb : w.heap.size ≤ b) (k : W.heap[b]? = some (.cells #[x, y] 55 (0, 0))) (own : OwnP (b + 1) W u1 u2 cs ps) (d : Below w.heap.size w W) :
    ((W.setCell ⟨b, 0, none⟩ u1).setCell ⟨b, 1, none⟩ u2).heap[b]? = some (.cells #[u1, u2] 55 (0, 0)) ∧ OwnP w.heap.size ((W.setCell ⟨b, 0, none⟩ u1).setCell ⟨b, 1, none⟩ u2) u1 u2 cs ps ∧ Below w.heap.size w ((W.setCell ⟨b, 0, none⟩ u1).setCell ⟨b, 1, none⟩ u2) := by
  obtain ⟨h1, h2⟩ := set_two k u1 u2
  exact ⟨h1, (own.upto h2 (by omega)).mono (by omega), d.trans (h2.toBelow d.size (by omega))⟩

/-- Two rows made one behind the other, and the answer's box written. -/
theorem pair_end {w W0 w5 w6 : World} {v5 v6 : Value} {cs ps : List Int} (d0 : Below w.heap.size w W0) (z0 : W0.heap.size = w.heap.size + 1 + 1) (own5 : w5.ownsRow W0.drew.heap.size 2 1 v5 cs.length (cs.map (Value.int .i64))) (b5 : Below W0.drew.heap.size W0.drew w5)
    (own6 : w6.ownsRow w5.heap.size 2 1 v6 ps.length (ps.map (Value.int .i64))) (b6 : Below w5.heap.size w5 w6) {x y : Value} (k : w6.heap[w.heap.size + 1]? = some (.cells #[x, y] 55 (0, 0))) :
    ((w6.setCell ⟨w.heap.size + 1, 0, none⟩ v5).setCell ⟨w.heap.size + 1, 1, none⟩ v6).heap[w.heap.size + 1]? = some (.cells #[v5, v6] 55 (0, 0)) ∧ OwnP w.heap.size ((w6.setCell ⟨w.heap.size + 1, 0, none⟩ v5).setCell ⟨w.heap.size + 1, 1, none⟩ v6) v5 v6 cs ps ∧ Below w.heap.size w ((w6.setCell ⟨w.heap.size + 1, 0, none⟩ v5).setCell ⟨w.heap.size + 1, 1, none⟩ v6) := by
  have hz : W0.drew.heap.size = w.heap.size + 1 + 1 := z0
  have h5 := b5.size
  refine pool_end w w6 v5 v6 x y (w.heap.size + 1) cs ps (by omega) k ⟨owns_mono (owns_below own5 b6) (by omega), owns_mono own6 (by omega), fun g h1 h2 => ?_⟩ (bw_call (bw_call (bw_drew d0) b5) b6)
  have := (own5.lt g h1).2
  have := (own6.lt g h2).1
  omega

theorem l1Copy_any (v : Value) (xs : List Int) (w : World) (hn : xs.length ≤ 1048576) (h : Reads w.heap.size w v (xs.map (Value.int .i64))) :
    Calls Try.prog 93 #[v] w fun e w' => ∃ v' : Value, e = .returned v' ∧ w'.ownsRow w.heap.size 2 1 v' xs.length (xs.map (Value.int .i64)) ∧ v' ≠ .slice none 0 0 ∧ Below w.heap.size w w' := by
  obtain ⟨i0, hi, hz0, hz1, hz2⟩ := info_parts Try.infoI64
  obtain ⟨o, cap, rfl, hm, hc, -⟩ := h
  have hl : (xs.map (Value.int .i64)).length = xs.length := by simp
  rw [hl] at hm ⊢
  have own0 : (w.alloc (.cells #[] 2)).ownsRow w.heap.size 2 1 (.slice (some ⟨w.heap.size, 0, none⟩) 0 0) 0 [] := World.ownsRow_lit w #[] 0 (Nat.le_refl _) (Nat.zero_le _) rfl
  have d0 : Below w.heap.size w (w.alloc (.cells #[] 2)) := bw_alloc (Below.refl _ _)
  have HC : Hid (∀ j u, (xs.map (Value.int .i64))[j]? = some u → ∃ g off, o = some ⟨g, off, none⟩ ∧ (w.alloc (.cells #[] 2)).cell? ⟨g, off + j, none⟩ = some u) := fun j u hj => by
    obtain ⟨g, off, e, hg, hx⟩ := hc j u hj
    exact ⟨g, off, e, (d0.cell (p := ⟨g, off + j, none⟩) hg).trans hx⟩
  clear hc hl
  go_enter Try.func93, Try.ntmps93
  go_wp2_with (at_builtin; refine wpList_append_reads rfl _ _ 53 rfl w.heap.size 2 i0 (.int .i64 0) 1 8 Try.underlying53 hi hz0 hz1 hz2 rfl (by decide) _ 0 [] rfl own0 o xs.length cap (xs.map (Value.int .i64)) rfl ?c0 HC.out ?c2 ?c3 ?c4 ?c5 ?_)
  case c0 => simp
  case c2 => intro u hu; simp at hu; obtain ⟨a, _, rfl⟩ := hu; rfl
  case c3 => unfold maxLen; omega
  case c4 => omega
  case c5 => simp
  intro v' w' hown hgrow hnil
  have hown2 : w'.ownsRow w.heap.size 2 1 v' xs.length (xs.map (Value.int .i64)) := by simpa using hown
  have hnn : v' ≠ .slice none 0 0 := hnil
  have hb : Below w.heap.size w w' := d0.grown hgrow (by simp) (fun q hq => (own0.lt q hq).1)
  clear hown hgrow hnil own0 d0 HC
  go_wp2_with fail
  go_ret
  exact ⟨v', rfl, hown2, hnn, hb⟩

set_option maxHeartbeats 1600000 in
theorem l4Copy_any (v1 v2 : Value) (cs ps : List Int) (w : World) (hc : cs.length ≤ 1048576) (hp : ps.length ≤ 1048576) (h1 : Reads w.heap.size w v1 (cs.map (Value.int .i64))) (h2 : Reads w.heap.size w v2 (ps.map (Value.int .i64))) :
    Calls Try.prog 81 #[.agg #[v1, v2]] w fun e w' => ∃ u1 u2 : Value, e = .returned (.agg #[u1, u2]) ∧ OwnP w.heap.size w' u1 u2 cs ps ∧ Below w.heap.size w w' := by
  obtain ⟨W0, hW0, k0, k1, d0, z0⟩ := pool_start w v1 v2
  have r1 : Reads W0.drew.heap.size W0.drew v1 (cs.map (Value.int .i64)) := ((h1.below d0).mono d0.size).below ((Below.refl _ _).drew)
  have r2 : Reads W0.drew.heap.size W0.drew v2 (ps.map (Value.int .i64)) := ((h2.below d0).mono d0.size).below ((Below.refl _ _).drew)
  have S0 : W0.drew.cell? ⟨w.heap.size, 0, none⟩ = some v1 ∧ W0.drew.cell? ⟨w.heap.size, 1, none⟩ = some v2 := ⟨at_cell k0 0, at_cell k0 1⟩
  have HW0 : Hid (W0 = _) := hW0
  clear hW0 h1 h2
  go_enter Try.func81, Try.ntmps81
  go_wp2_with fail
  rw [← HW0.out]
  clear HW0
  obtain ⟨S00, S01⟩ := S0
  go_region_law (go_simp; go_at_call 93; first
      | (have q25 := r25; clear q25; refine (l1Copy_any v2 ps _ hp r25).mono ?_; rintro e w6 ⟨v6, rfl, own6, hn6, b6⟩; obtain ⟨o6, c6, rfl⟩ := own_slice own6; have k60 := (b6.block _ (heap_lt k50)).trans k50; have k61 := (b6.block _ (heap_lt k51)).trans k51; have S60 := at_cell k60 0; have S61 := at_cell k60 1; have q0 := at_cell k61 0; have q1 := at_cell k61 1; have f0 := at_open k61 0; have f1 := at_open k61 1; dsimp only)
      | (refine (l1Copy_any v1 cs _ hc r1).mono ?_; rintro e w5 ⟨v5, rfl, own5, hn5, b5⟩; obtain ⟨o5, c5, rfl⟩ := own_slice own5; have k50 := (b5.block _ (show w.heap.size < W0.heap.size by omega)).trans k0; have k51 := (b5.block _ (show w.heap.size + 1 < W0.heap.size by omega)).trans k1; have S50 := at_cell k50 0; have S51 := at_cell k50 1; have r25 := (r2.below b5).mono b5.size; dsimp only))
  all_goals
    have HS : Hid _ := pair_end d0 z0 own5 b5 own6 b6 k61
    clear own5 own6 b5 b6 k50 k51 k60 k61 S50 S51 S60 S61 q0 q1 f0 f1 r25 r1 r2 S00 S01 k0 k1 hn5 hn6
    go_wp2_with fail
    exact bodyPost_ret (v := .agg #[.slice o5 cs.length c5, .slice o6 ps.length c6]) (by simp [results, Try.results81, go_sem, at_cell HS.out.1]) rfl ⟨_, _, rfl, HS.out.2⟩

theorem zeros_step (cs : List Int) (k : Nat) (h : k < cs.length) : zeros (cs.take (k + 1)) = zeros (cs.take k) + (if cs.getD k 0 = 0 then 1 else 0) := by
  rw [zeros, zeros, List.take_succ_eq_append_getElem h, List.countP_append, getD_of cs k h]
  by_cases e : cs[k] = 0 <;> simp [e]
theorem zeros_le (cs : List Int) (k : Nat) : zeros (cs.take k) ≤ k := by
  have h1 : zeros (cs.take k) ≤ (cs.take k).length := List.countP_le_length
  rw [List.length_take] at h1
  omega

set_option maxHeartbeats 800000 in
theorem specSpare_any (v1 v2 : Value) (cs ps : List Int) (w : World) (h1 : Reads w.heap.size w v1 (cs.map (Value.int .i64))) (h2 : Reads w.heap.size w v2 (ps.map (Value.int .i64))) :
    Calls Try.prog 49 #[.agg #[v1, v2]] w fun e w' => e = .returned (.int .i64 (spare cs ps)) ∧ Below w.heap.size w w' := by
  obtain ⟨W0, hW0, k0, d0, z0⟩ := pool_box w v1 v2 55
  have r1 := (h1.below d0).mono d0.size
  have r2 := (h2.below d0).mono d0.size
  have p0 := at_cell k0 0
  have p1 := at_cell k0 1
  have HW0 : Hid (W0 = _) := hW0
  clear hW0 h1 h2
  go_enter Try.func49, Try.ntmps49
  go_wp2_with fail
  rw [← HW0.out]
  clear HW0
  refine (specPoolOk_any v1 v2 cs ps _ r1 r2).mono ?_
  rintro e w1 ⟨rfl, b1⟩
  replace k0 := (b1.block _ (by omega)).trans k0
  have r3 := (r1.below b1)
  replace d0 := bw_call d0 b1
  clear p0 p1 r1 r2
  cases hok : poolOk cs ps
  · have HV : Hid (spare cs ps = -1) := by simp [Hid, spare, hok]
    go_wp2_with fail
    go_ret
    exact ⟨ret_int HV.out.symm, d0⟩
  · have hv : spare cs ps = zeros cs := by simp [spare, hok]
    have HV : Hid (spare cs ps = zeros cs) := hv
    have hb : cs.length ≤ 24 := ((poolOk_iff cs ps).1 hok).2.1
    obtain ⟨o1, cap1, rfl, m1, c1, -⟩ := r3
    have hl : (cs.map (Value.int .i64)).length = cs.length := by simp
    rw [hl] at k0 ⊢
    have C1 : Hid (∀ j u, (cs.map (Value.int .i64))[j]? = some u → ∃ g off, o1 = some ⟨g, off, none⟩ ∧ g < W0.heap.size ∧ w1.cell? ⟨g, off + j, none⟩ = some u) := c1
    have p0 := at_cell k0 0
    clear c1 hl m1 hv hok
    go_wp2_with fail
    go_loopw [3, 4] (fun n i wr => ∃ k : Nat, k ≤ cs.length ∧ i = .int .i64 k ∧ n = .int .i64 (zeros (cs.take k)) ∧ wr = w1) (fun _ i _ => cs.length - (intOf i).toNat)
    case atStart => exact ⟨0, Nat.zero_le _, rfl, rfl, rfl⟩
    case round =>
      obtain ⟨k, hk, rfl, rfl, rfl⟩ := hrel
      by_cases hlt : k < cs.length
      · obtain ⟨g1, of1, rfl, q1, cc1⟩ := C1.out k _ (getD_some cs k hlt)
        have HZ := zeros_step cs k hlt
        have hzl := zeros_le cs k
        generalize cs.getD k 0 = c at cc1 HZ
        generalize zeros (cs.take k) = z at HZ hzl ⊢
        by_cases hc : c = 0
        · rw [if_pos hc] at HZ
          have HZ2 : Hid _ := HZ
          subst hc
          clear HZ C1
          go_wp2_with fail
          go_roundw
          case rel => exact ⟨k + 1, by omega, by go_num, by rw [HZ2.out]; go_num, by trivial⟩
          case measure => simp [intOf]; omega
        · rw [if_neg hc] at HZ
          have HZ2 : Hid _ := HZ
          have hc1 : (c == 0) = false := by simpa using hc
          clear HZ C1
          go_wp2_with fail
          go_roundw
          case rel => exact ⟨k + 1, by omega, by go_num, by rw [HZ2.out]; go_num, by trivial⟩
          case measure => simp [intOf]; omega
      · have hfin : cs.take k = cs := List.take_of_length_le (by omega)
        rw [hfin]
        go_wp2_with fail
        go_ret
        exact ⟨ret_int HV.out.symm, d0⟩

/-- Two new rows of noughts, made in either order, and the answer's box written. -/
theorem new_end {w W0 : World} {M : Array Value} {m : Nat} {x y : Value} (k0 : W0.heap[w.heap.size]? = some (.cells #[x, y] 55 (0, 0))) (d0 : Below w.heap.size w W0) (z0 : W0.heap.size = w.heap.size + 1)
    (hown : ∀ (W : World) (base : Nat), base ≤ W.heap.size → (W.alloc (.cells M 2)).ownsRow base 2 1 (.slice (some ⟨W.heap.size, 0, none⟩) m m) m ((List.replicate m (0 : Int)).map (Value.int .i64)))
    (a b : Nat) (hab : (a = w.heap.size + 1 ∧ b = w.heap.size + 1 + 1) ∨ (a = w.heap.size + 1 + 1 ∧ b = w.heap.size + 1)) :
    (((((W0.setCell ⟨w.heap.size, 0, none⟩ (.slice (some ⟨a, 0, none⟩) m m)).setCell ⟨w.heap.size, 1, none⟩ (.slice (some ⟨b, 0, none⟩) m m)).alloc (.cells M 2)).alloc (.cells M 2)).drew).heap[w.heap.size]? = some (.cells #[.slice (some ⟨a, 0, none⟩) m m, .slice (some ⟨b, 0, none⟩) m m] 55 (0, 0)) ∧
    OwnP w.heap.size (((((W0.setCell ⟨w.heap.size, 0, none⟩ (.slice (some ⟨a, 0, none⟩) m m)).setCell ⟨w.heap.size, 1, none⟩ (.slice (some ⟨b, 0, none⟩) m m)).alloc (.cells M 2)).alloc (.cells M 2)).drew) (.slice (some ⟨a, 0, none⟩) m m) (.slice (some ⟨b, 0, none⟩) m m) (List.replicate m 0) (List.replicate m 0) ∧
    Below w.heap.size w (((((W0.setCell ⟨w.heap.size, 0, none⟩ (.slice (some ⟨a, 0, none⟩) m m)).setCell ⟨w.heap.size, 1, none⟩ (.slice (some ⟨b, 0, none⟩) m m)).alloc (.cells M 2)).alloc (.cells M 2)).drew) := by
  obtain ⟨h1, h2⟩ := set_two k0 (.slice (some ⟨a, 0, none⟩) m m) (.slice (some ⟨b, 0, none⟩) m m)
  generalize hW : (W0.setCell ⟨w.heap.size, 0, none⟩ (.slice (some ⟨a, 0, none⟩) m m)).setCell ⟨w.heap.size, 1, none⟩ (.slice (some ⟨b, 0, none⟩) m m) = W1 at h1 h2 ⊢
  have s1 : W1.heap.size = w.heap.size + 1 := by rw [← hW, World.size_setCell, World.size_setCell, z0]
  clear hW
  have s2 : (W1.alloc (.cells M 2)).heap.size = w.heap.size + 1 + 1 := by simp [s1]
  have o1 := hown W1 w.heap.size (by omega)
  have o2 := hown (W1.alloc (.cells M 2)) w.heap.size (by omega)
  rw [s1] at o1
  rw [s2] at o2
  have o3 := o1.alloc (.cells M 2)
  have e1 := (Below.heap_alloc (W1.alloc (.cells M 2)) (.cells M 2) w.heap.size (by omega)).trans ((Below.heap_alloc W1 (.cells M 2) w.heap.size (by omega)).trans h1)
  have hl : (List.replicate m (0 : Int)).length = m := by simp
  refine ⟨e1, ?_, bw_drew (bw_alloc (bw_alloc (d0.trans (h2.toBelow (by omega) (Nat.le_refl _)))))⟩
  rcases hab with ⟨rfl, rfl⟩ | ⟨rfl, rfl⟩
  · exact ⟨by rw [hl]; exact o3, by rw [hl]; exact o2, fun g q => by simp [Value.ownBlock] at q ⊢; omega⟩
  · exact ⟨by rw [hl]; exact o2, by rw [hl]; exact o3, fun g q => by simp [Value.ownBlock] at q ⊢; omega⟩

set_option maxHeartbeats 800000 in
theorem specNewPool_any (n : Int) (w : World) :
    Calls Try.prog 50 #[.int .i64 n] w fun e w' => ∃ u1 u2 : Value, e = .returned (.tuple #[.agg #[u1, u2], .bool (newPool n).2]) ∧ OwnP w.heap.size w' u1 u2 (newPool n).1.1 (newPool n).1.2 ∧ Below w.heap.size w w' := by
  obtain ⟨W0, hW0, k0, d0, z0⟩ := pool_box w (.slice none 0 0) (.slice none 0 0) 55
  have HW0 : Hid (W0 = _) := hW0
  have p0 := at_cell k0 0
  have p1 := at_cell k0 1
  have f0 := at_open k0 0
  have f1 := at_open k0 1
  clear hW0
  cases hn : (decide ((1 : Int) ≤ n) && decide (n ≤ 24))
  · have hv : newPool n = (([], []), false) := by
      unfold newPool
      rw [if_neg]
      rintro ⟨h1, h2⟩
      simp [h1, h2] at hn
    rw [hv]
    have HS : Hid _ := pool_end w W0 (.slice none 0 0) (.slice none 0 0) _ _ w.heap.size [] [] (Nat.le_refl _) k0 (OwnP.nil _ _) d0
    clear hv k0
    go_enter Try.func50, Try.ntmps50
    go_wp2_with fail
    rw [← HW0.out]
    refine (l1In_any _ _ _ _).mono ?_
    rintro e w' ⟨rfl, rfl⟩
    rw [hn]
    go_wp2_with fail
    exact bodyPost_ret (v := .tuple #[.agg #[.slice none 0 0, .slice none 0 0], .bool false]) (by simp [results, Try.results50, go_sem, at_cell HS.out.1]) rfl ⟨_, _, rfl, HS.out.2⟩
  · have hb : 1 ≤ n ∧ n ≤ 24 := by simpa using hn
    obtain ⟨m, rfl⟩ := Int.eq_ofNat_of_zero_le (show 0 ≤ n by omega)
    have hv : newPool (m : Int) = ((List.replicate m 0, List.replicate m 0), true) := by
      unfold newPool
      rw [if_pos hb, Int.toNat_natCast]
    rw [hv]
    obtain ⟨M, hM, hmk, hown⟩ := made_ints m (by omega)
    clear hv
    go_enter Try.func50, Try.ntmps50
    go_wp2_with fail
    rw [← HW0.out]
    refine (l1In_any _ _ _ _).mono ?_
    rintro e w' ⟨rfl, rfl⟩
    rw [hn]
    go_wp2_with fail
    go_region
    · have HS : Hid _ := new_end k0 d0 z0 hown (w.heap.size + 1) (w.heap.size + 1 + 1) (.inl ⟨rfl, rfl⟩)
      clear k0 d0 hown hmk HW0
      go_wp2_with fail
      exact bodyPost_ret (v := .tuple #[.agg #[.slice (some ⟨w.heap.size + 1, 0, none⟩) m m, .slice (some ⟨w.heap.size + 1 + 1, 0, none⟩) m m], .bool true]) (by simp [results, Try.results50, go_sem, at_cell HS.out.1]) rfl ⟨_, _, rfl, HS.out.2⟩
    · have HS : Hid _ := new_end k0 d0 z0 hown (w.heap.size + 1 + 1) (w.heap.size + 1) (.inr ⟨rfl, rfl⟩)
      clear k0 d0 hown hmk HW0
      go_wp2_with fail
      exact bodyPost_ret (v := .tuple #[.agg #[.slice (some ⟨w.heap.size + 1 + 1, 0, none⟩) m m, .slice (some ⟨w.heap.size + 1, 0, none⟩) m m], .bool true]) (by simp [results, Try.results50, go_sem, at_cell HS.out.1]) rfl ⟨_, _, rfl, HS.out.2⟩

end Go.Proofs.Ytmejggnjmclefaa
