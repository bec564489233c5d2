/-
  Contracts and plain laws, one chapter behind the other.
-/
import Derived.Test.YtibhepekmihagaaGreatDoorM10
import Derived.Test.YtibhepekmihagaaGreatDoorM14
import Derived.Test.YtibhepekmihagaaGreatDoorM26
namespace Go.Proofs.YtibhepekmihagaaGreatDoor
open Go.RowKit

set_option linter.unusedVariables false

set_option maxRecDepth 100000


theorem own_nobooks (w : World) : (w.alloc (.cells #[] 133)).ownsRow w.heap.size 133 5 (.slice (some ⟨w.heap.size, 0, none⟩) 0 0) 0 [] := World.ownsRow_lit w #[] 0 (Nat.le_refl _) (Nat.zero_le _) rfl

set_option maxHeartbeats 3200000 in
theorem l6Copy_any (v : Value) (bks : List Bk) (w : World) (hn : bks.length ≤ 6) (hr : ∀ b ∈ bks, b.rs.length ≤ 1048576) (r : ReadsB w.heap.size w v bks) :
    Calls Tryz.prog 148 #[v] w fun e w' => ∃ (v' : Value) (ms : List Bk), e = .returned v' ∧ ms.map Bk.pb = bks.map Bk.pb ∧ OwnB w.heap.size w' v' ms ∧ v' ≠ .slice none 0 0 ∧ Below w.heap.size w w' := by
  obtain ⟨i0, hi, hz0, hz1, hz2⟩ := info_parts Tryz.infoBook
  obtain ⟨j0, ji, jz0, jz1, jz2⟩ := info_parts Tryz.infoRun
  have RM : Hid _ := r.maps
  have RL : Hid _ := hr
  obtain ⟨o, cap, rfl, hm, hc, -⟩ := r.row
  have HC : Hid _ := five_cells hc
  have own0 := own_nobooks w
  have bd0 : Below w.heap.size w (w.alloc (.cells #[] 133)) := bw_alloc (Below.refl _ _)
  clear hc hm r hr
  go_enter Tryz.func148, Tryz.ntmps148
  go_wp2_with fail
  generalize w.alloc (.cells #[] 133) = W0 at own0 bd0 ⊢
  go_loopw [3, 4] (fun q i wr => ∃ (j g cp : Nat) (ms : List Bk), j ≤ bks.length ∧ i = .int .i64 j ∧ q = .slice (some ⟨g, 0, none⟩) ms.length cp ∧ ms.map Bk.pb = (bks.take j).map Bk.pb ∧ OwnB w.heap.size wr (.slice (some ⟨g, 0, none⟩) ms.length cp) ms ∧ Below w.heap.size w wr) (fun _ i _ => bks.length - (intOf i).toNat)
  case atStart => exact ⟨0, _, _, [], Nat.zero_le _, rfl, rfl, rfl, ⟨own0, fun b hb => by simp at hb⟩, bd0⟩
  case round =>
    clear own0 bd0
    obtain ⟨j, g, cp, ms, hj, rfl, rfl, hpl, own, hb⟩ := hrel
    have HML : Hid (ms.length = j) := by have := congrArg List.length hpl; simp at this; rw [Hid]; omega
    by_cases hlt : j < bks.length
    · obtain ⟨g0, off, rfl, hg, a0, a1, a2, a3, a4⟩ := HC.out j hlt
      have rm := ((RM.out bks[j] (List.getElem_mem hlt)).below hb).mono hb.size
      have rl := RL.out bks[j] (List.getElem_mem hlt)
      have hpt : (bks.take (j + 1)).map Bk.pb = (bks.take j).map Bk.pb ++ [bks[j].pb] := by rw [List.take_succ_eq_append_getElem hlt, List.map_append]; rfl
      obtain ⟨x, hx⟩ : ∃ x, bks[j] = x := ⟨_, rfl⟩
      rw [hx] at a0 a1 a2 a3 a4 rm rl hpt
      clear hx HC RM RL
      obtain ⟨nm, sz, m, rs, fx, ep⟩ := x
      simp only at a0 a1 a2 a3 a4 rm rl
      obtain ⟨o', cap', rfl⟩ := rm.form
      replace a0 := (hb.cell (p := ⟨g0, off + j * 5, none⟩) hg).trans a0
      replace a1 := (hb.cell (p := ⟨g0, off + j * 5 + 1, none⟩) hg).trans a1
      replace a2 := (hb.cell (p := ⟨g0, off + j * 5 + 2, none⟩) hg).trans a2
      replace a3 := (hb.cell (p := ⟨g0, off + j * 5 + 3, none⟩) hg).trans a3
      replace a4 := (hb.cell (p := ⟨g0, off + j * 5 + 4, none⟩) hg).trans a4
      have HP : Hid _ := And.intro hpl hpt
      obtain ⟨W1, hW1, k1, kr, d1, z1⟩ := box2 wr #[.string nm, .int .i64 sz, .slice o' rs.length cap', .bool fx, .int .i64 ep] #[] 133 185
      have rm1 := (rm.below d1).mono d1.size
      have HSRC : Hid _ := flat_src runC_len (by decide) rm1
      have HON : Hid (W1.ownsRow w.heap.size 185 3 (.slice (some ⟨wr.heap.size + 1, 0, none⟩) 0 0) 0 []) := by
        have h := own_none (wr.alloc (.cells #[.string nm, .int .i64 sz, .slice o' rs.length cap', .bool fx, .int .i64 ep] 133))
        rw [← hW1] at h
        have e : (wr.alloc (.cells #[.string nm, .int .i64 sz, .slice o' rs.length cap', .bool fx, .int .i64 ep] 133)).heap.size = wr.heap.size + 1 := by simp
        rw [e] at h
        exact owns_mono h (Nat.le_succ_of_le hb.size)
      have HLEN : Hid ((rs.flatMap runC).length = rs.length * 3) := flat_length runC_len rs
      have HM : Hid (0 + rs.length ≤ maxLen) := by rw [Hid]; unfold maxLen; omega
      have HB : Hid ((0 + rs.length) * 24 ≤ 140737488355328) := by rw [Hid]; omega
      have HS : Hid (w.heap.size ≤ W1.heap.size) := Nat.le_trans hb.size d1.size
      have K1 : Hid _ := And.intro k1 (And.intro d1 (And.intro own hb))
      have HW1 : Hid (W1 = _) := hW1
      clear hpl hpt rm rm1 k1 kr d1 own hb
      subst hW1
      clear HW1
      go_wp2_with (at_builtin; refine wpList_append_reads rfl _ _ 131 rfl w.heap.size 185 j0 (.agg #[.int .i64 0, .int .i64 0, .int .i64 0]) 3 24 Tryz.underlying131 ji jz0 jz1 jz2 rfl (by decide) (.slice (some ⟨wr.heap.size + 1, 0, none⟩) 0 0) 0 [] rfl HON.out o' rs.length cap' (rs.flatMap runC) rfl HLEN.out HSRC.out (runs_one rs) HM.out HB.out HS.out ?_)
      intro v' w3 hown hgrow hnil
      obtain ⟨k1, d1, own, hb⟩ := K1.out
      have hown3 : w3.ownsRow w.heap.size 185 3 v' rs.length (rs.flatMap runC) := by simpa using hown
      obtain ⟨o3, cp3, hv3⟩ := own_slice hown3
      have d3 : Below wr.heap.size wr w3 := d1.grown hgrow (by simp; omega) (fun q hq => by simp [Value.ownBlock] at hq; omega)
      have u3 : Upto (wr.heap.size + 1) _ w3 := (Upto.refl (wr.heap.size + 1) _).grown hgrow (fun q hq => by simp [Value.ownBlock] at hq; exact .inr hq.symm)
      have k3 := (u3.block wr.heap.size (by simp; omega) (by omega)).trans k1
      have k4 := set_at k3 2 v'
      have own4 := own_box hown3 k3 (by decide) 2 v'
      have d4 : Below wr.heap.size wr (w3.setCell ⟨wr.heap.size, 2, none⟩ v') := bw_set d3 (p := ⟨wr.heap.size, 2, none⟩) (Nat.le_refl _) v'
      have q0 := at_cell k3 0
      have q1 := at_cell k3 1
      have q2 := at_cell k3 2
      have q3 := at_cell k3 3
      have q4 := at_cell k3 4
      have f2 := at_open k3 2
      have ownB := own.below d4
      have hb4 := bw_call hb d4
      have HX : Hid _ := And.intro own4 (And.intro ownB hb4)
      subst hv3
      clear hown hown3 hgrow hnil k1 d1 own hb d3 u3 k3 k4 own4 d4 ownB hb4 HSRC HON HLEN HM HB HS K1 a0 a1 a2 a3 a4
      have hown4 : (w3.setCell ⟨wr.heap.size, 2, none⟩ (.slice o3 rs.length cp3)).ownsRow w.heap.size 133 5 (.slice (some ⟨g, 0, none⟩) ms.length cp) ms.length (ms.flatMap bookC) := HX.out.2.1.row
      have HN6 : Hid (ms.length + 1 ≤ 6) := by have := HML.out; rw [Hid]; omega
      go_wp2_with (at_builtin; refine wpList_append_own _ rfl _ _ 26 rfl w.heap.size 133 i0 (.agg #[.string ByteArray.empty, .int .i64 0, .slice none 0 0, .bool false, .int .i64 0]) 5 64 Tryz.underlying26 hi hz0 hz1 hz2 rfl (by decide) _ _ _ rfl (hown4.alloc _) ⟨w3.heap.size, 0, none⟩ 1 1 (bookC ⟨nm, sz, .slice o3 rs.length cp3, rs, fx, ep⟩) rfl rfl ?c1 ?c2 ?c3 ?c4 ?c5 ?_)
      case c1 =>
        have h := new_five (w3.setCell ⟨wr.heap.size, 2, none⟩ (.slice o3 rs.length cp3)) ⟨nm, sz, .slice o3 rs.length cp3, rs, fx, ep⟩ 133
        rw [show (w3.setCell ⟨wr.heap.size, 2, none⟩ (.slice o3 rs.length cp3)).heap.size = w3.heap.size by simp] at h
        exact h
      case c2 => exact one_book _ ⟨_, _, _, rfl⟩
      case c3 => have := HN6.out; unfold maxLen; omega
      case c4 => have := HN6.out; omega
      case c5 => have := HX.out.2.2.size; simp at this ⊢; omega
      intro v'' w5 hown' hgrow' hnil'
      have own5 : w5.ownsRow w.heap.size 133 5 v'' (ms ++ [(⟨nm, sz, .slice o3 rs.length cp3, rs, fx, ep⟩ : Bk)]).length ((ms ++ [(⟨nm, sz, .slice o3 rs.length cp3, rs, fx, ep⟩ : Bk)]).flatMap bookC) := by simpa using hown'
      obtain ⟨g', cp', hv'⟩ : ∃ g' cp', v'' = .slice (some ⟨g', 0, none⟩) (ms ++ [(⟨nm, sz, .slice o3 rs.length cp3, rs, fx, ep⟩ : Bk)]).length cp' := by
        rcases own5.2 with ⟨e, _⟩ | ⟨g', cp', _, e, _⟩
        · exact absurd e hnil'
        · exact ⟨g', cp', e⟩
      have hgl := (hown4.lt g rfl).1
      have row5 := hown4.alloc (.cells #[.string nm, .int .i64 sz, .slice o3 rs.length cp3, .bool fx, .int .i64 ep] 133)
      have mp5 : ∀ b ∈ ms ++ [(⟨nm, sz, .slice o3 rs.length cp3, rs, fx, ep⟩ : Bk)], w5.ownsRow w.heap.size 185 3 b.m b.rs.length (b.rs.flatMap runC) := fun b hbm => by
        rcases List.mem_append.1 hbm with y | y
        · exact own_grown ((HX.out.2.1.maps b y).alloc _) row5 (by decide) hgrow'
        · simp only [List.mem_singleton] at y
          subst y
          have h4 : (w3.setCell ⟨wr.heap.size, 2, none⟩ (.slice o3 rs.length cp3)).ownsRow w.heap.size 185 3 (.slice o3 rs.length cp3) rs.length (rs.flatMap runC) := HX.out.1
          exact own_grown (h4.alloc _) row5 (by decide) hgrow'
      have hb5 : Below w.heap.size w w5 := (bw_alloc HX.out.2.2).grown hgrow' (by have := HX.out.2.2.size; simp at this ⊢; omega) (fun q hq => by cases hq; exact hgl)
      have hpl5 : (ms ++ [(⟨nm, sz, .slice o3 rs.length cp3, rs, fx, ep⟩ : Bk)]).map Bk.pb = (bks.take (j + 1)).map Bk.pb := by rw [HP.out.2, ← HP.out.1, List.map_append]; rfl
      subst hv'
      have HO : Hid _ := And.intro hpl5 (And.intro (OwnB.mk own5 mp5) hb5)
      clear hown' hgrow' hnil' own5 mp5 hb5 hpl5 row5 hown4 HX HP q0 q1 q2 q3 q4 f2
      go_wp2_with fail
      go_roundw
      case rel => exact ⟨j + 1, g', cp', _, by omega, by go_num, rfl, HO.out⟩
      case measure => simp [intOf]; omega
    · have htk : bks.take j = bks := List.take_of_length_le (by omega)
      rw [htk] at hpl
      have HO : Hid _ := And.intro hpl (And.intro own hb)
      clear hpl own hb HC RM RL
      go_wp2_with fail
      go_ret
      exact ⟨_, ms, rfl, HO.out.1, HO.out.2.1, by simp, HO.out.2.2⟩

/-- How the copy of a shelf ends: its two parts are laid into the box. -/
theorem shelf_end {w W0 w5 w6 : World} {x0 x1 x2 u1 u2 ub : Value} {cs ps : List Int} {ms : List Bk} {T : TypeId} (d0 : Below w.heap.size w W0) (z0 : W0.heap.size = w.heap.size + 1 + 1) (own5 : OwnP W0.heap.size w5 u1 u2 cs ps) (b5 : Below W0.heap.size W0 w5) (own6 : OwnB w5.heap.size w6 ub ms) (b6 : Below w5.heap.size w5 w6) (k61 : w6.heap[w.heap.size + 1]? = some (.cells #[x0, x1, x2] T (0, 0))) :
    (((w6.setCell ⟨w.heap.size + 1, 0, none⟩ u1).setCell ⟨w.heap.size + 1, 1, none⟩ u2).setCell ⟨w.heap.size + 1, 2, none⟩ ub).heap[w.heap.size + 1]? = some (.cells #[u1, u2, ub] T (0, 0)) ∧
    OwnP w.heap.size (((w6.setCell ⟨w.heap.size + 1, 0, none⟩ u1).setCell ⟨w.heap.size + 1, 1, none⟩ u2).setCell ⟨w.heap.size + 1, 2, none⟩ ub) u1 u2 cs ps ∧
    OwnB w.heap.size (((w6.setCell ⟨w.heap.size + 1, 0, none⟩ u1).setCell ⟨w.heap.size + 1, 1, none⟩ u2).setCell ⟨w.heap.size + 1, 2, none⟩ ub) ub ms ∧
    Below w.heap.size w (((w6.setCell ⟨w.heap.size + 1, 0, none⟩ u1).setCell ⟨w.heap.size + 1, 1, none⟩ u2).setCell ⟨w.heap.size + 1, 2, none⟩ ub) := by
  have u : Upto (w.heap.size + 1) w6 (((w6.setCell ⟨w.heap.size + 1, 0, none⟩ u1).setCell ⟨w.heap.size + 1, 1, none⟩ u2).setCell ⟨w.heap.size + 1, 2, none⟩ ub) := (((Upto.refl _ _).setCell ⟨w.heap.size + 1, 0, none⟩ (.inl rfl) _).setCell ⟨w.heap.size + 1, 1, none⟩ (.inl rfl) _).setCell ⟨w.heap.size + 1, 2, none⟩ (.inl rfl) _
  have s5 := b5.size
  have s6 := b6.size
  exact ⟨set_at (set_at (set_at k61 0 u1) 1 u2) 2 ub, ((own5.below b6).upto u (by omega)).mono (by omega), (own6.upto u (by omega)).mono (by omega), (bw_call (bw_call d0 b5) b6).trans (u.toBelow (by omega) (by omega))⟩

set_option maxHeartbeats 1600000 in
theorem l8Copy_any (v1 v2 vb : Value) (cs ps : List Int) (bks : List Bk) (w : World) (hc : cs.length ≤ 1048576) (hp : ps.length ≤ 1048576) (hn : bks.length ≤ 6) (hr : ∀ b ∈ bks, b.rs.length ≤ 1048576) (h1 : Reads w.heap.size w v1 (cs.map (Value.int .i64))) (h2 : Reads w.heap.size w v2 (ps.map (Value.int .i64))) (rb : ReadsB w.heap.size w vb bks) :
    Calls Tryz.prog 114 #[.agg #[v1, v2, vb]] w fun e w' => ∃ (u1 u2 ub : Value) (ms : List Bk), e = .returned (.agg #[u1, u2, ub]) ∧ OwnP w.heap.size w' u1 u2 cs ps ∧ OwnB w.heap.size w' ub ms ∧ ms.map Bk.pb = bks.map Bk.pb ∧ Below w.heap.size w w' := by
  obtain ⟨W0, hW0, k0, k1, d0, z0⟩ := box2 w #[v1, v2, vb] #[.slice none 0 0, .slice none 0 0, .slice none 0 0] 28 28
  have r1 : Reads W0.drew.heap.size W0.drew v1 (cs.map (Value.int .i64)) := ((h1.below d0).mono d0.size).below ((Below.refl _ _).drew)
  have r2 : Reads W0.drew.heap.size W0.drew v2 (ps.map (Value.int .i64)) := ((h2.below d0).mono d0.size).below ((Below.refl _ _).drew)
  have rb0 : ReadsB W0.drew.heap.size W0.drew vb bks := ((rb.below d0).mono d0.size).below ((Below.refl _ _).drew)
  have S00 : W0.drew.cell? ⟨w.heap.size, 0, none⟩ = some v1 := at_cell k0 0
  have S01 : W0.drew.cell? ⟨w.heap.size, 1, none⟩ = some v2 := at_cell k0 1
  have S02 : W0.drew.cell? ⟨w.heap.size, 2, none⟩ = some vb := at_cell k0 2
  have HW0 : Hid (W0 = _) := hW0
  clear hW0 h1 h2 rb
  go_enter Tryz.func114, Tryz.ntmps114
  go_wp2_with fail
  rw [← HW0.out]
  clear HW0
  go_region_law (first
      | (go_simp; go_at_call 148; refine (l6Copy_any vb bks _ hn hr rb5).mono ?_; rintro e w6 ⟨v6, ms, rfl, hpl, own6, hn6, b6⟩; obtain ⟨o6, c6, hv6⟩ := own_slice own6.row; have HPL : Hid _ := hpl; clear hpl; subst hv6; have k60 := (b6.block _ (heap_lt k50)).trans k50; have k61 := (b6.block _ (heap_lt k51)).trans k51; have S60 := at_cell k60 0; have S61 := at_cell k60 1; have S62 := at_cell k60 2; have q0 := at_cell k61 0; have q1 := at_cell k61 1; have q2 := at_cell k61 2; have f0 := at_open k61 0; have f1 := at_open k61 1; have f2 := at_open k61 2; dsimp only)
      | (go_simp; go_at_call 147; refine (l4Copy_any v1 v2 cs ps _ hc hp r1 r2).mono ?_; rintro e w5 ⟨u1, u2, rfl, own5, b5⟩; obtain ⟨o51, c51, hv51⟩ := own_slice own5.c; obtain ⟨o52, c52, hv52⟩ := own_slice own5.p; subst hv51 hv52; have k50 := (b5.block _ (show w.heap.size < W0.heap.size by omega)).trans k0; have k51 := (b5.block _ (show w.heap.size + 1 < W0.heap.size by omega)).trans k1; have S50 := at_cell k50 0; have S51 := at_cell k50 1; have S52 := at_cell k50 2; have rb5 := (rb0.below b5).mono b5.size; dsimp only))
  all_goals
    have HS : Hid _ := shelf_end (W0 := W0.drew) (bw_drew d0) z0 own5 b5 own6 b6 k61
    clear own5 own6 b5 b6 k50 k51 k60 k61 S50 S51 S52 S60 S61 S62 q0 q1 q2 f0 f1 f2 rb5 r1 r2 rb0 S00 S01 S02 k0 k1 hn6
    go_wp2_with fail
    exact bodyPost_ret (v := .agg #[.slice o51 cs.length c51, .slice o52 ps.length c52, .slice o6 ms.length c6]) (by simp [results, Tryz.results114, go_sem, at_cell HS.out.1]) rfl ⟨_, _, _, ms, rfl, HS.out.2.1, HS.out.2.2.1, HPL.out, HS.out.2.2.2⟩
end Go.Proofs.YtibhepekmihagaaGreatDoor

