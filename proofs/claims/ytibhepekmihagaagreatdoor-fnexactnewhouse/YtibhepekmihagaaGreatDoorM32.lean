/-
  Contracts and plain laws, one chapter behind the other.
-/
import Derived.Laws.Cover1
import Derived.Deep.CutBlock
import Derived.Deep.DeepCutAuto
import Derived.Deep.RegionHeld3
import Derived.Test.YtibhepekmihagaaGreatDoorM02
import Derived.Test.YtibhepekmihagaaGreatDoorM07
import Derived.Test.YtibhepekmihagaaGreatDoorM10
import Derived.Test.YtibhepekmihagaaGreatDoorM12
import Derived.Test.YtibhepekmihagaaGreatDoorM14
import Derived.Test.YtibhepekmihagaaGreatDoorM17
import Derived.Test.YtibhepekmihagaaGreatDoorM18
import Derived.Test.YtibhepekmihagaaGreatDoorM19
import Derived.Test.YtibhepekmihagaaGreatDoorM25
import Derived.Test.YtibhepekmihagaaGreatDoorM27
import Derived.Test.YtibhepekmihagaaGreatDoorM29
import Derived.Test.YtibhepekmihagaaGreatDoorM31
namespace Go.Proofs.YtibhepekmihagaaGreatDoor
open Go.RowKit

set_option linter.unusedVariables false

theorem notNil_rep (g off n cap : Nat) (W : World) : (binOp BinOp.eql 29 (.slice (some ⟨g, off, none⟩) n cap) (.slice none 0 0)).run Tryz.prog W = .ok (.bool false) W := by kernel_rfl

theorem cloneReps_any (g off cap : Nat) (rs : List (Int × Int)) (w : World) (hn : rs.length ≤ 1048576) (h : ReadsR 2 repC w.heap.size w (.slice (some ⟨g, off, none⟩) rs.length cap) rs) :
    Calls Tryz.prog 152 #[.slice (some ⟨g, off, none⟩) rs.length cap] w fun e w' => ∃ v' : Value, e = .returned v' ∧ w'.ownsRow w.heap.size 126 2 v' rs.length (rs.flatMap repC) ∧ v' ≠ .slice none 0 0 ∧ Below w.heap.size w w' := by
  obtain ⟨j0, ji, jz0, jz1, jz2⟩ := info_parts Tryz.infoRep
  have own0 : (w.alloc (.cells #[] 126)).ownsRow w.heap.size 126 2 (.slice (some ⟨w.heap.size, 0, none⟩) 0 0) 0 [] := World.ownsRow_lit w #[] 0 (Nat.le_refl _) (Nat.zero_le _) rfl
  have d0 : Below w.heap.size w (w.alloc (.cells #[] 126)) := bw_alloc (Below.refl _ _)
  have HC : Hid (∀ j u, (rs.flatMap repC)[j]? = some u → ∃ g' off', some (⟨g, off, none⟩ : Addr) = some ⟨g', off', none⟩ ∧ (w.alloc (.cells #[] 126)).cell? ⟨g', off' + j, none⟩ = some u) := fun j u hj => by
    have q := flat_srcM repC_len (by decide) (h.below d0) j u hj
    rw [add_offM] at q
    exact ⟨g, off, rfl, q⟩
  have hnl : ∀ W : World, (binOp BinOp.eql 29 (.slice (some ⟨g, off, none⟩) rs.length cap) (.slice none 0 0)).run Tryz.prog W = .ok (.bool false) W := fun W => notNil_rep g off rs.length cap W
  clear h
  go_enter Tryz.func152, Tryz.ntmps152
  go_wp2_with (at_builtin; refine wpList_append_reads rfl _ _ 29 rfl w.heap.size 126 j0 (.agg #[.int .i64 0, .int .i64 0]) 2 16 Tryz.underlying29 ji jz0 jz1 jz2 rfl (by decide) _ 0 [] rfl own0 (some ⟨g, off, none⟩) rs.length cap (rs.flatMap repC) rfl ?c0 HC.out ?c2 ?c3 ?c4 ?c5 ?_)
  case c0 => exact flat_length repC_len rs
  case c2 => exact reps_one rs
  case c3 => unfold maxLen; omega
  case c4 => omega
  case c5 => simp
  intro v' w' hown hgrow hnil
  have hown2 : w'.ownsRow w.heap.size 126 2 v' rs.length (rs.flatMap repC) := by simpa using hown
  have hnn : v' ≠ .slice none 0 0 := hnil
  have hb : Below w.heap.size w w' := d0.grown hgrow (by simp) (fun q hq => (own0.lt q hq).1)
  clear hown hgrow hnil own0 d0 HC
  go_wp2_with fail
  go_ret
  exact ⟨v', rfl, hown2, hnn, hb⟩

set_option maxRecDepth 100000 in
set_option maxHeartbeats 3200000 in
theorem memo_any (a b c d a0 a1 b0 b1 c0 c1 e0 e1 : Int) (w : World) :
    Calls Tryz.prog 121 #[.agg #[.int .i64 a, .int .i64 b, .int .i64 c, .int .i64 d, .int .i64 a0, .int .i64 a1, .int .i64 b0, .int .i64 b1, .int .i64 c0, .int .i64 c1, .int .i64 e0, .int .i64 e1]] w fun e w' => ∃ u1 u2 : Value, e = .returned (.agg #[u1, u2]) ∧ OwnM w.heap.size w' u1 u2 [a, b, c, d] [(a0, a1), (b0, b1), (c0, c1), (e0, e1)] ∧ Below w.heap.size w w' := by
  obtain ⟨W0, hW0, k0, k1, d0, z0⟩ := box2 w #[.int .i64 a, .int .i64 b, .int .i64 c, .int .i64 d, .int .i64 a0, .int .i64 a1, .int .i64 b0, .int .i64 b1, .int .i64 c0, .int .i64 c1, .int .i64 e0, .int .i64 e1] #[.slice none 0 0, .slice none 0 0] 165 31
  have HW0 : Hid (W0 = _) := hW0
  have s0 := heap_lt k0
  have s1 := heap_lt k1
  have RT : Hid (∀ X, Below W0.heap.size W0 X → Reads X.heap.size X (.slice (some ⟨w.heap.size, 0, none⟩) 4 4) ([a, b, c, d].map (Value.int .i64))) := fun X b => by
    have k := (b.block _ s0).trans k0
    refine ⟨some ⟨w.heap.size, 0, none⟩, 4, rfl, by unfold maxLen; simp, fun j u hj => ⟨w.heap.size, 0, rfl, Nat.lt_of_lt_of_le s0 b.size, ?_⟩, by simp⟩
    rw [at_cell k]
    match j, hj with
    | 0, hj | 1, hj | 2, hj | 3, hj => simpa using hj
  have RR : Hid (∀ X, Below W0.heap.size W0 X → ReadsR 2 repC X.heap.size X (.slice (some ⟨w.heap.size, 4, none⟩) 4 4) [(a0, a1), (b0, b1), (c0, c1), (e0, e1)]) := fun X b => by
    have k := (b.block _ s0).trans k0
    refine ⟨some ⟨w.heap.size, 4, none⟩, 4, rfl, by unfold maxLen; simp, fun i x hx => ⟨w.heap.size, 4, rfl, Nat.lt_of_lt_of_le s0 b.size, fun j u hj => ?_⟩, by simp⟩
    rw [at_cell k]
    match i, hx with
    | 0, hx | 1, hx | 2, hx | 3, hx =>
      simp at hx
      subst hx
      match j, hj with
      | 0, hj | 1, hj => simpa [repC] using hj
  have HK1 : Hid _ := k1
  clear hW0 k0 z0
  go_enter Tryz.func121, Tryz.ntmps121
  go_upto_region 1 with fail
  rw [← HW0.out]
  clear HW0 k1
  go_region_law (first
    | (go_simp; go_at_call 151; refine (sameNumbers_any _ [a, b, c, d] _ (by simp) (RT.out W0.drew (bw_drew (Below.refl _ _)))).mono ?_; rintro e w5 ⟨v5, rfl, own5, hn5, b5⟩; obtain ⟨o5, c5, rfl⟩ := own_slice own5; have B5 : Below W0.heap.size W0 w5 := bw_call (bw_drew (Below.refl _ _)) b5; dsimp only)
    | (go_simp; go_at_call 152; refine (cloneReps_any w.heap.size 4 4 [(a0, a1), (b0, b1), (c0, c1), (e0, e1)] _ (by simp) (RR.out w5 B5)).mono ?_; rintro e w6 ⟨v6, rfl, own6, hn6, b6⟩; obtain ⟨o6, c6, rfl⟩ := own_slice own6; have B6 : Below W0.heap.size W0 w6 := bw_call B5 b6; have k6 := (B6.block _ s1).trans HK1.out; have q0 := at_cell k6 0; have q1 := at_cell k6 1; have f0 := at_open k6 0; have f1 := at_open k6 1; dsimp only))
  all_goals
    have ow : OwnM w.heap.size w6 (.slice o5 4 c5) (.slice o6 4 c6) [a, b, c, d] [(a0, a1), (b0, b1), (c0, c1), (e0, e1)] := ⟨owns_mono (owns_below own5 b6) d0.size, owns_mono own6 (Nat.le_trans d0.size B5.size)⟩
    have HS : Hid _ := mem_end w w6 _ _ _ _ (w.heap.size + 1) [a, b, c, d] [(a0, a1), (b0, b1), (c0, c1), (e0, e1)] (by omega) k6 ow (bw_call d0 B6)
    clear ow own5 own6 b5 b6 B5 B6 k6 q0 q1 f0 f1 RT RR HK1 hn5 hn6
    go_wp2_with fail
    exact bodyPost_ret (v := .agg #[.slice o5 4 c5, .slice o6 4 c6]) (by simp [results, Tryz.results121, go_sem, at_cell HS.out.1]) rfl ⟨_, _, rfl, HS.out.2⟩
end Go.Proofs.YtibhepekmihagaaGreatDoor

namespace Go.Proofs.YtibhepekmihagaaGreatDoor
open Go.RowKit

set_option linter.unusedVariables false

set_option maxRecDepth 100000 in
set_option maxHeartbeats 3200000 in
theorem implNewMemo_any (w : World) :
    Calls Tryz.prog 88 #[] w fun e w' => ∃ u1 u2 : Value, e = .returned (.agg #[u1, u2]) ∧ OwnM w.heap.size w' u1 u2 [0, 0, 0, 0] [(0, 0), (0, 0), (0, 0), (0, 0)] ∧ Below w.heap.size w w' := by
  obtain ⟨W0, hW0, k0, d0, z0⟩ := box1 w #[.slice none 0 0, .slice none 0 0] 31
  have HW0 : Hid (W0 = _) := hW0
  clear hW0 z0
  go_enter Tryz.func88, Tryz.ntmps88
  go_upto_region 1 with fail
  rw [← HW0.out]
  clear HW0
  go_wp2_with fail
  refine (memo_any 0 0 0 0 0 0 0 0 0 0 0 0 _).mono ?_
  rintro e w1 ⟨u1, u2, rfl, own, b1⟩
  replace k0 := (b1.block _ (heap_lt k0)).trans k0
  obtain ⟨o1, c1, hu1⟩ := own_slice own.t
  obtain ⟨o2, c2, hu2⟩ := own_slice own.r
  have hu1' : u1 = .slice o1 4 c1 := hu1
  have hu2' : u2 = .slice o2 4 c2 := hu2
  subst hu1' hu2'
  clear hu1 hu2
  have HS : Hid _ := mem_end w w1 _ _ _ _ w.heap.size _ _ (Nat.le_refl _) k0 (own.mono d0.size) (bw_call d0 b1)
  have q0 := at_cell k0 0
  have q1 := at_cell k0 1
  have f0 := at_open k0 0
  have f1 := at_open k0 1
  clear own k0 b1 d0
  go_wp2_with fail
  exact bodyPost_ret (v := .agg #[.slice o1 4 c1, .slice o2 4 c2]) (by simp [results, Tryz.results88, go_sem, at_cell HS.out.1]) rfl ⟨_, _, rfl, HS.out.2⟩
end Go.Proofs.YtibhepekmihagaaGreatDoor

namespace Go.Proofs.YtibhepekmihagaaGreatDoor
open Go.RowKit

set_option linter.unusedVariables false

set_option maxRecDepth 100000


def newM : List Int × List (Int × Int) := ([0, 0, 0, 0], [(0, 0), (0, 0), (0, 0), (0, 0)])

theorem specNewMemoM_any (w : World) :
    Calls Tryz.prog 93 #[] w fun e w' => ∃ u1 u2 : Value, e = .returned (.agg #[u1, u2]) ∧ OwnM w.heap.size w' u1 u2 newM.1 newM.2 ∧ Below w.heap.size w w' := specNewMemo_any w
end Go.Proofs.YtibhepekmihagaaGreatDoor

namespace Go.Proofs.YtibhepekmihagaaGreatDoor
open Go.RowKit

set_option linter.unusedVariables false

set_option maxRecDepth 100000


/-- A shelf that is read. -/
structure ReadsS (w : World) (v1 v2 vb : Value) (s : Sf) : Prop where
  c : Reads w.heap.size w v1 (s.cs.map (Value.int .i64))
  p : Reads w.heap.size w v2 (s.ps.map (Value.int .i64))
  b : ∃ bks : List Bk, ReadsB w.heap.size w vb bks ∧ bks.map Bk.pb = s.bs

theorem ReadsS.below {w w' : World} {v1 v2 vb : Value} {s : Sf} (h : ReadsS w v1 v2 vb s) (k : Below w.heap.size w w') : ReadsS w' v1 v2 vb s := by
  obtain ⟨bks, h1, h2⟩ := h.b
  exact ⟨(h.c.below k).mono k.size, (h.p.below k).mono k.size, bks, (h1.below k).mono k.size, h2⟩

/-- A shelf of one's own, its books somewhere. -/
structure OwnD (base : Nat) (w : World) (v1 v2 vb : Value) (s : Sf) : Prop where
  p : OwnP base w v1 v2 s.cs s.ps
  b : ∃ bks : List Bk, OwnB base w vb bks ∧ bks.map Bk.pb = s.bs

theorem OwnD.below {base : Nat} {w w' : World} {v1 v2 vb : Value} {s : Sf} (h : OwnD base w v1 v2 vb s) (k : Below w.heap.size w w') : OwnD base w' v1 v2 vb s := by
  obtain ⟨bks, h1, h2⟩ := h.b
  exact ⟨h.p.below k, bks, h1.below k, h2⟩

theorem OwnD.upto {base c : Nat} {w w' : World} {v1 v2 vb : Value} {s : Sf} (h : OwnD base w v1 v2 vb s) (u : Upto c w w') (hc : c < base) : OwnD base w' v1 v2 vb s := by
  obtain ⟨bks, h1, h2⟩ := h.b
  exact ⟨h.p.upto u hc, bks, h1.upto u hc, h2⟩

theorem OwnD.mono {base base' : Nat} {w : World} {v1 v2 vb : Value} {s : Sf} (h : OwnD base w v1 v2 vb s) (k : base' ≤ base) : OwnD base' w v1 v2 vb s := by
  obtain ⟨bks, h1, h2⟩ := h.b
  exact ⟨h.p.mono k, bks, h1.mono k, h2⟩

theorem OwnD.reads {base : Nat} {w : World} {v1 v2 vb : Value} {s : Sf} (h : OwnD base w v1 v2 vb s) : ReadsS w v1 v2 vb s := by
  obtain ⟨bks, h1, h2⟩ := h.b
  exact ⟨Reads.of_own h.p.c, Reads.of_own h.p.p, bks, h1.reads, h2⟩

theorem OwnD.nil (base : Nat) (w : World) : OwnD base w (.slice none 0 0) (.slice none 0 0) (.slice none 0 0) ⟨[], [], []⟩ := ⟨OwnP.nil _ _, [], ⟨World.ownsRow_nil _ _ _ _, fun b hb => by cases hb⟩, rfl⟩
end Go.Proofs.YtibhepekmihagaaGreatDoor

namespace Go.Proofs.YtibhepekmihagaaGreatDoor
open Go.RowKit Nums

set_option linter.unusedVariables false

set_option maxRecDepth 100000


/-- How memory lies while a log is replayed: the shelf's box and rows, behind them the memo's rows and box, ahead of both the answers' boxes. -/
structure RpSt (w W : World) (base bs bm lo hi : Nat) (u1 u2 vb m1 m2 : Value) (bks : List Bk) (x : Rp) : Prop where
  st : ShSg (fun k => lo ≤ k ∧ k < hi) #[u1, u2, .slice none 0 0] 28 0 base bs W u1 u2 vb bks x.s
  kM : W.heap[bm]? = some (.cells #[m1, m2] 31 (0, 0))
  own : OwnM lo W m1 m2 x.ts x.rs
  kR : W.heap[w.heap.size]? = some (.cells #[.slice none 0 0, .slice none 0 0, .slice none 0 0] 28 (0, 0))
  kQ : W.heap[w.heap.size + 1]? = some (.cells #[.slice none 0 0, .slice none 0 0] 31 (0, 0))
  d : Below w.heap.size w W
  hbm : lo ≤ bm ∧ bm < hi
  hb : w.heap.size + 1 + 1 ≤ base ∧ base ≤ bs ∧ base ≤ lo
  hm : ∀ g, m1.ownBlock = some g ∨ m2.ownBlock = some g → g < hi

variable {w W W' : World} {base bs bm lo hi : Nat} {u1 u2 vb m1 m2 : Value} {bks : List Bk} {x : Rp}

theorem RpSt.below (h : RpSt w W base bs bm lo hi u1 u2 vb m1 m2 bks x) (k : Below W.heap.size W W') : RpSt w W' base bs bm lo hi u1 u2 vb m1 m2 bks x :=
  ⟨h.st.below k, (k.block _ (heap_lt h.kM)).trans h.kM, h.own.below k, (k.block _ (heap_lt h.kR)).trans h.kR, (k.block _ (heap_lt h.kQ)).trans h.kQ, bw_call h.d k, h.hbm, h.hb, h.hm⟩

/-- The memo's rows are written. -/
theorem RpSt.memo {ts' : List Int} {rs' : List (Int × Int)} (h : RpSt w W base bs bm lo hi u1 u2 vb m1 m2 bks x) (u : Only (fun k => m1.ownBlock = some k ∨ m2.ownBlock = some k) W W') (own : OwnM lo W' m1 m2 ts' rs') : RpSt w W' base bs bm lo hi u1 u2 vb m1 m2 bks ⟨x.s, ts', rs'⟩ := by
  have hb := h.hb
  have hlo : ∀ k, m1.ownBlock = some k ∨ m2.ownBlock = some k → lo ≤ k ∧ k < hi := fun k q => ⟨(h.own.span k q).1, h.hm k q⟩
  have keep : ∀ (e : TypeId) (kk n : Nat) (v : Value) (xs : List Value), (∀ g, v.ownBlock = some g → ¬ (lo ≤ g ∧ g < hi)) → W.ownsRow base e kk v n xs → W'.ownsRow base e kk v n xs := fun e kk n v xs hv hr =>
    own_only hr u (fun g hg hs => hv g hg (hlo g hs))
  have bx : ∀ n, (n < lo ∨ hi ≤ n) → n < W.heap.size → W'.heap[n]? = W.heap[n]? := fun n hn hl => u.block n hl (fun q => by have := hlo n q; omega)
  have hbs : bs < lo ∨ hi ≤ bs := by have := h.st.ng bs (.inl rfl); omega
  have mp : ∀ b ∈ bks, W'.ownsRow base 185 3 b.m b.rs.length (b.rs.flatMap runC) := fun b hb' => own_only (h.st.books.maps b hb') u (fun g hg hs => by
    rcases hs with q | q
    · exact rows_apart (h.st.books.maps b hb') h.own.t (by decide) g q hg
    · exact rows_apart (h.st.books.maps b hb') h.own.r (by decide) g q hg)
  refine ⟨⟨(bx bs hbs h.st.lt).trans h.st.box, h.st.hT, h.st.e0, h.st.e1, h.st.e2, h.st.lo, ⟨keep _ _ _ _ _ (fun g hg => h.st.ng g (.inr (.inl hg))) h.st.pool.c, keep _ _ _ _ _ (fun g hg => h.st.ng g (.inr (.inr (.inl hg)))) h.st.pool.p, h.st.pool.apart⟩, ⟨keep _ _ _ _ _ (fun g hg => h.st.ng g (.inr (.inr (.inr hg)))) h.st.books.row, mp⟩, h.st.eq, h.st.ng, fun k hk => Nat.lt_of_lt_of_le (h.st.gl k hk) u.size⟩, (u.block bm (heap_lt h.kM) (fun q => ?_)).trans h.kM, own, (bx _ (by omega) (heap_lt h.kR)).trans h.kR, (bx _ (by omega) (heap_lt h.kQ)).trans h.kQ, h.d.trans (u.toBelow (by have := h.d.size; omega) (fun k q => by have := hlo k q; omega)), h.hbm, hb, h.hm⟩
  rcases q with q | q
  · exact own_not_box h.own.t h.kM (by decide) q
  · exact own_not_box h.own.r h.kM (by decide) q

/-- Both answers are written, in either order. -/
theorem RpSt.fin (h : RpSt w W base bs bm lo hi u1 u2 vb m1 m2 bks x) : ∀ W', (W' = ((((W.setCell ⟨w.heap.size, 0, none⟩ u1).setCell ⟨w.heap.size, 1, none⟩ u2).setCell ⟨w.heap.size, 2, none⟩ vb).setCell ⟨w.heap.size + 1, 0, none⟩ m1).setCell ⟨w.heap.size + 1, 1, none⟩ m2 ∨ W' = ((((W.setCell ⟨w.heap.size + 1, 0, none⟩ m1).setCell ⟨w.heap.size + 1, 1, none⟩ m2).setCell ⟨w.heap.size, 0, none⟩ u1).setCell ⟨w.heap.size, 1, none⟩ u2).setCell ⟨w.heap.size, 2, none⟩ vb) →
    W'.heap[w.heap.size]? = some (.cells #[u1, u2, vb] 28 (0, 0)) ∧ W'.heap[w.heap.size + 1]? = some (.cells #[m1, m2] 31 (0, 0)) ∧ OwnD w.heap.size W' u1 u2 vb x.s ∧ OwnM w.heap.size W' m1 m2 x.ts x.rs ∧ Below w.heap.size w W' := by
  have hb := h.hb
  have od : OwnD base W u1 u2 vb x.s := ⟨h.st.pool, bks, h.st.books, h.st.eq⟩
  intro W' hW'
  rcases hW' with rfl | rfl
  · have a1 := set_at (set_at (set_at h.kR 0 u1) 1 u2) 2 vb
    have ua : Upto w.heap.size W (((W.setCell ⟨w.heap.size, 0, none⟩ u1).setCell ⟨w.heap.size, 1, none⟩ u2).setCell ⟨w.heap.size, 2, none⟩ vb) := (((Upto.refl _ _).setCell ⟨w.heap.size, 0, none⟩ (.inl rfl) _).setCell ⟨w.heap.size, 1, none⟩ (.inl rfl) _).setCell ⟨w.heap.size, 2, none⟩ (.inl rfl) _
    have kq := (ua.block _ (heap_lt h.kQ) (by omega)).trans h.kQ
    obtain ⟨b1, ub⟩ := set_two kq m1 m2
    have ha := (ub.block _ (heap_lt a1) (by omega)).trans a1
    exact ⟨ha, b1, ((od.upto ua (by omega)).upto ub (by omega)).mono (by omega), ((h.own.upto ua (by omega)).upto ub (by omega)).mono (by omega), (h.d.trans (ua.toBelow (by have := h.d.size; omega) (by omega))).trans (ub.toBelow (by have := h.d.size; have := ua.size; omega) (by omega))⟩
  · obtain ⟨b1, ub⟩ := set_two h.kQ m1 m2
    have kr := (ub.block _ (heap_lt h.kR) (by omega)).trans h.kR
    have a1 := set_at (set_at (set_at kr 0 u1) 1 u2) 2 vb
    have ua : ∀ X : World, Upto w.heap.size X (((X.setCell ⟨w.heap.size, 0, none⟩ u1).setCell ⟨w.heap.size, 1, none⟩ u2).setCell ⟨w.heap.size, 2, none⟩ vb) := fun X => (((Upto.refl _ _).setCell ⟨w.heap.size, 0, none⟩ (.inl rfl) _).setCell ⟨w.heap.size, 1, none⟩ (.inl rfl) _).setCell ⟨w.heap.size, 2, none⟩ (.inl rfl) _
    have hb1 := ((ua _).block _ (heap_lt b1) (by omega)).trans b1
    exact ⟨a1, hb1, ((od.upto ub (by omega)).upto (ua _) (by omega)).mono (by omega), ((h.own.upto ub (by omega)).upto (ua _) (by omega)).mono (by omega), (h.d.trans (ub.toBelow (by have := h.d.size; omega) (by omega))).trans ((ua _).toBelow (by have := h.d.size; have := ub.size; omega) (by omega))⟩
end Go.Proofs.YtibhepekmihagaaGreatDoor

namespace Go.Proofs.YtibhepekmihagaaGreatDoor
open Go.RowKit Nums

set_option linter.unusedVariables false

set_option maxRecDepth 100000


/-- A shelf and a memo are written into the answers' boxes, in either order. -/
theorem two_end {w W : World} {u1 u2 vb m1 m2 : Value} {x : Rp} (kR : W.heap[w.heap.size]? = some (.cells #[.slice none 0 0, .slice none 0 0, .slice none 0 0] 28 (0, 0))) (kQ : W.heap[w.heap.size + 1]? = some (.cells #[.slice none 0 0, .slice none 0 0] 31 (0, 0)))
    (od : OwnD (w.heap.size + 1 + 1) W u1 u2 vb x.s) (om : OwnM (w.heap.size + 1 + 1) W m1 m2 x.ts x.rs) (d : Below w.heap.size w W) : ∀ W', (W' = ((((W.setCell ⟨w.heap.size, 0, none⟩ u1).setCell ⟨w.heap.size, 1, none⟩ u2).setCell ⟨w.heap.size, 2, none⟩ vb).setCell ⟨w.heap.size + 1, 0, none⟩ m1).setCell ⟨w.heap.size + 1, 1, none⟩ m2 ∨ W' = ((((W.setCell ⟨w.heap.size + 1, 0, none⟩ m1).setCell ⟨w.heap.size + 1, 1, none⟩ m2).setCell ⟨w.heap.size, 0, none⟩ u1).setCell ⟨w.heap.size, 1, none⟩ u2).setCell ⟨w.heap.size, 2, none⟩ vb) →
    W'.heap[w.heap.size]? = some (.cells #[u1, u2, vb] 28 (0, 0)) ∧ W'.heap[w.heap.size + 1]? = some (.cells #[m1, m2] 31 (0, 0)) ∧ OwnD w.heap.size W' u1 u2 vb x.s ∧ OwnM w.heap.size W' m1 m2 x.ts x.rs ∧ Below w.heap.size w W' := by
  intro W' hW'
  rcases hW' with rfl | rfl
  · have a1 := set_at (set_at (set_at kR 0 u1) 1 u2) 2 vb
    have ua : Upto w.heap.size W (((W.setCell ⟨w.heap.size, 0, none⟩ u1).setCell ⟨w.heap.size, 1, none⟩ u2).setCell ⟨w.heap.size, 2, none⟩ vb) := (((Upto.refl _ _).setCell ⟨w.heap.size, 0, none⟩ (.inl rfl) _).setCell ⟨w.heap.size, 1, none⟩ (.inl rfl) _).setCell ⟨w.heap.size, 2, none⟩ (.inl rfl) _
    have kq := (ua.block _ (heap_lt kQ) (by omega)).trans kQ
    obtain ⟨b1, ub⟩ := set_two kq m1 m2
    have ha := (ub.block _ (heap_lt a1) (by omega)).trans a1
    exact ⟨ha, b1, ((od.upto ua (by omega)).upto ub (by omega)).mono (by omega), ((om.upto ua (by omega)).upto ub (by omega)).mono (by omega), (d.trans (ua.toBelow (by have := d.size; omega) (by omega))).trans (ub.toBelow (by have := d.size; have := ua.size; omega) (by omega))⟩
  · obtain ⟨b1, ub⟩ := set_two kQ m1 m2
    have kr := (ub.block _ (heap_lt kR) (by omega)).trans kR
    have a1 := set_at (set_at (set_at kr 0 u1) 1 u2) 2 vb
    have ua : ∀ X : World, Upto w.heap.size X (((X.setCell ⟨w.heap.size, 0, none⟩ u1).setCell ⟨w.heap.size, 1, none⟩ u2).setCell ⟨w.heap.size, 2, none⟩ vb) := fun X => (((Upto.refl _ _).setCell ⟨w.heap.size, 0, none⟩ (.inl rfl) _).setCell ⟨w.heap.size, 1, none⟩ (.inl rfl) _).setCell ⟨w.heap.size, 2, none⟩ (.inl rfl) _
    have hb1 := ((ua _).block _ (heap_lt b1) (by omega)).trans b1
    exact ⟨a1, hb1, ((od.upto ub (by omega)).upto (ua _) (by omega)).mono (by omega), ((om.upto ub (by omega)).upto (ua _) (by omega)).mono (by omega), (d.trans (ub.toBelow (by have := d.size; omega) (by omega))).trans ((ua _).toBelow (by have := d.size; have := ub.size; omega) (by omega))⟩

theorem replay_no {n : Int} {l : List Ent} (h : rpOk n l = false) : replay n l = (Rp.zero, false) := by rw [replay, if_neg (by rw [h]; decide)]

theorem replay_yes {n : Int} {l : List Ent} (h : rpOk n l = true) : replay n l = (rpFrom (rpNew n) l, true) := by rw [replay, if_pos h]
end Go.Proofs.YtibhepekmihagaaGreatDoor

