/-
  Contracts and plain laws, one chapter behind the other.
-/
import Derived.Laws.Cover1
import Derived.Deep.CutBlock
import Derived.Deep.DeepCutAuto
import Derived.Deep.RegionHeld3
import Derived.Lib.Strings
import Derived.Shelf.LaysM
import Derived.Shelf.Strconv.Clone
import Derived.Tactics2
import Derived.ScopeJumps
import Derived.WalkMore
import Derived.Deep.Cut
import Derived.Deep.RegionLaw
import Derived.Test.YtjhfeegilhmgkaaGreatDoorM01
import Derived.Test.YtjhfeegilhmgkaaGreatDoorM03
import Derived.Test.YtjhfeegilhmgkaaGreatDoorM05
import Derived.Test.YtjhfeegilhmgkaaGreatDoorM06
import Derived.Test.YtjhfeegilhmgkaaGreatDoorM08
import Derived.Test.YtjhfeegilhmgkaaGreatDoorM09
import Derived.Test.YtjhfeegilhmgkaaGreatDoorM10
namespace Go.Proofs.YtjhfeegilhmgkaaGreatDoor
open Go.RowKit

set_option linter.unusedVariables false

set_option maxRecDepth 100000


/-- A shelf that is read. -/
structure ReadsS (w : World) (v1 v2 vb : Value) (s : Sf) : Prop where
  c : Reads w.heap.size w v1 (s.cs.map (Value.int .i64))
  p : Reads w.heap.size w v2 (s.ps.map (Value.int .i64))
  b : ∃ bks : List Bk, ReadsB w.heap.size w vb bks ∧ bks.map Bk.pb = s.bs

theorem ReadsS.below {w w' : World} {v1 v2 vb : Value} {s : Sf} (h : ReadsS w v1 v2 vb s) (k : Below w.heap.size w w') : ReadsS w' v1 v2 vb s := by
  obtain ⟨bks, h1, h2⟩ := h.b
  exact ⟨(h.c.below k).mono k.size, (h.p.below k).mono k.size, bks, (h1.below k).mono k.size, h2⟩

/-- A shelf of one's own, its books somewhere. -/
structure OwnD (base : Nat) (w : World) (v1 v2 vb : Value) (s : Sf) : Prop where
  p : OwnP base w v1 v2 s.cs s.ps
  b : ∃ bks : List Bk, OwnB base w vb bks ∧ bks.map Bk.pb = s.bs

theorem OwnD.below {base : Nat} {w w' : World} {v1 v2 vb : Value} {s : Sf} (h : OwnD base w v1 v2 vb s) (k : Below w.heap.size w w') : OwnD base w' v1 v2 vb s := by
  obtain ⟨bks, h1, h2⟩ := h.b
  exact ⟨h.p.below k, bks, h1.below k, h2⟩

theorem OwnD.upto {base c : Nat} {w w' : World} {v1 v2 vb : Value} {s : Sf} (h : OwnD base w v1 v2 vb s) (u : Upto c w w') (hc : c < base) : OwnD base w' v1 v2 vb s := by
  obtain ⟨bks, h1, h2⟩ := h.b
  exact ⟨h.p.upto u hc, bks, h1.upto u hc, h2⟩

theorem OwnD.mono {base base' : Nat} {w : World} {v1 v2 vb : Value} {s : Sf} (h : OwnD base w v1 v2 vb s) (k : base' ≤ base) : OwnD base' w v1 v2 vb s := by
  obtain ⟨bks, h1, h2⟩ := h.b
  exact ⟨h.p.mono k, bks, h1.mono k, h2⟩

theorem OwnD.reads {base : Nat} {w : World} {v1 v2 vb : Value} {s : Sf} (h : OwnD base w v1 v2 vb s) : ReadsS w v1 v2 vb s := by
  obtain ⟨bks, h1, h2⟩ := h.b
  exact ⟨Reads.of_own h.p.c, Reads.of_own h.p.p, bks, h1.reads, h2⟩

theorem OwnD.nil (base : Nat) (w : World) : OwnD base w (.slice none 0 0) (.slice none 0 0) (.slice none 0 0) ⟨[], [], []⟩ := ⟨OwnP.nil _ _, [], ⟨World.ownsRow_nil _ _ _ _, fun b hb => by cases hb⟩, rfl⟩
end Go.Proofs.YtjhfeegilhmgkaaGreatDoor

namespace Go.Proofs.YtjhfeegilhmgkaaGreatDoor
open Go.RowKit Nums

set_option linter.unusedVariables false

set_option maxRecDepth 100000


/-- How memory lies while a log is replayed: the shelf's box and rows, behind them the memo's rows and box, ahead of both the answers' boxes. -/
structure RpSt (w W : World) (base bs bm lo hi : Nat) (u1 u2 vb m1 m2 : Value) (bks : List Bk) (x : Rp) : Prop where
  st : ShSg (fun k => lo ≤ k ∧ k < hi) #[u1, u2, .slice none 0 0] 30 0 base bs W u1 u2 vb bks x.s
  kM : W.heap[bm]? = some (.cells #[m1, m2] 33 (0, 0))
  own : OwnM lo W m1 m2 x.ts x.rs
  kR : W.heap[w.heap.size]? = some (.cells #[.slice none 0 0, .slice none 0 0, .slice none 0 0] 30 (0, 0))
  kQ : W.heap[w.heap.size + 1]? = some (.cells #[.slice none 0 0, .slice none 0 0] 33 (0, 0))
  d : Below w.heap.size w W
  hbm : lo ≤ bm ∧ bm < hi
  hb : w.heap.size + 1 + 1 ≤ base ∧ base ≤ bs ∧ base ≤ lo
  hm : ∀ g, m1.ownBlock = some g ∨ m2.ownBlock = some g → g < hi

variable {w W W' : World} {base bs bm lo hi : Nat} {u1 u2 vb m1 m2 : Value} {bks : List Bk} {x : Rp}
theorem RpSt.below (h : RpSt w W base bs bm lo hi u1 u2 vb m1 m2 bks x) (k : Below W.heap.size W W') : RpSt w W' base bs bm lo hi u1 u2 vb m1 m2 bks x :=
  ⟨h.st.below k, (k.block _ (heap_lt h.kM)).trans h.kM, h.own.below k, (k.block _ (heap_lt h.kR)).trans h.kR, (k.block _ (heap_lt h.kQ)).trans h.kQ, bw_call h.d k, h.hbm, h.hb, h.hm⟩

/-- The memo's rows are written. -/
theorem RpSt.memo {ts' : List Int} {rs' : List (Int × Int)} (h : RpSt w W base bs bm lo hi u1 u2 vb m1 m2 bks x) (u : Only (fun k => m1.ownBlock = some k ∨ m2.ownBlock = some k) W W') (own : OwnM lo W' m1 m2 ts' rs') : RpSt w W' base bs bm lo hi u1 u2 vb m1 m2 bks ⟨x.s, ts', rs'⟩ := by
  have hb := h.hb
  have hlo : ∀ k, m1.ownBlock = some k ∨ m2.ownBlock = some k → lo ≤ k ∧ k < hi := fun k q => ⟨(h.own.span k q).1, h.hm k q⟩
  have keep : ∀ (e : TypeId) (kk n : Nat) (v : Value) (xs : List Value), (∀ g, v.ownBlock = some g → ¬ (lo ≤ g ∧ g < hi)) → W.ownsRow base e kk v n xs → W'.ownsRow base e kk v n xs := fun e kk n v xs hv hr =>
    own_only hr u (fun g hg hs => hv g hg (hlo g hs))
  have bx : ∀ n, (n < lo ∨ hi ≤ n) → n < W.heap.size → W'.heap[n]? = W.heap[n]? := fun n hn hl => u.block n hl (fun q => by have := hlo n q; omega)
  have hbs : bs < lo ∨ hi ≤ bs := by have := h.st.ng bs (.inl rfl); omega
  have mp : ∀ b ∈ bks, W'.ownsRow base 173 3 b.m b.rs.length (b.rs.flatMap runC) := fun b hb' => own_only (h.st.books.maps b hb') u (fun g hg hs => by
    rcases hs with q | q
    · exact rows_apart (h.st.books.maps b hb') h.own.t (by decide) g q hg
    · exact rows_apart (h.st.books.maps b hb') h.own.r (by decide) g q hg)
  refine ⟨⟨(bx bs hbs h.st.lt).trans h.st.box, h.st.hT, h.st.e0, h.st.e1, h.st.e2, h.st.lo, ⟨keep _ _ _ _ _ (fun g hg => h.st.ng g (.inr (.inl hg))) h.st.pool.c, keep _ _ _ _ _ (fun g hg => h.st.ng g (.inr (.inr (.inl hg)))) h.st.pool.p, h.st.pool.apart⟩, ⟨keep _ _ _ _ _ (fun g hg => h.st.ng g (.inr (.inr (.inr hg)))) h.st.books.row, mp⟩, h.st.eq, h.st.ng, fun k hk => Nat.lt_of_lt_of_le (h.st.gl k hk) u.size⟩, (u.block bm (heap_lt h.kM) (fun q => ?_)).trans h.kM, own, (bx _ (by omega) (heap_lt h.kR)).trans h.kR, (bx _ (by omega) (heap_lt h.kQ)).trans h.kQ, h.d.trans (u.toBelow (by have := h.d.size; omega) (fun k q => by have := hlo k q; omega)), h.hbm, hb, h.hm⟩
  rcases q with q | q
  · exact own_not_box h.own.t h.kM (by decide) q
  · exact own_not_box h.own.r h.kM (by decide) q

/-- Both answers are written, in either order. -/
theorem RpSt.fin (h : RpSt w W base bs bm lo hi u1 u2 vb m1 m2 bks x) : ∀ W', (W' = ((((W.setCell ⟨w.heap.size, 0, none⟩ u1).setCell ⟨w.heap.size, 1, none⟩ u2).setCell ⟨w.heap.size, 2, none⟩ vb).setCell ⟨w.heap.size + 1, 0, none⟩ m1).setCell ⟨w.heap.size + 1, 1, none⟩ m2 ∨ W' = ((((W.setCell ⟨w.heap.size + 1, 0, none⟩ m1).setCell ⟨w.heap.size + 1, 1, none⟩ m2).setCell ⟨w.heap.size, 0, none⟩ u1).setCell ⟨w.heap.size, 1, none⟩ u2).setCell ⟨w.heap.size, 2, none⟩ vb) →
    W'.heap[w.heap.size]? = some (.cells #[u1, u2, vb] 30 (0, 0)) ∧ W'.heap[w.heap.size + 1]? = some (.cells #[m1, m2] 33 (0, 0)) ∧ OwnD w.heap.size W' u1 u2 vb x.s ∧ OwnM w.heap.size W' m1 m2 x.ts x.rs ∧ Below w.heap.size w W' := by
  have hb := h.hb
  have od : OwnD base W u1 u2 vb x.s := ⟨h.st.pool, bks, h.st.books, h.st.eq⟩
  intro W' hW'
  rcases hW' with rfl | rfl
  · have a1 := set_at (set_at (set_at h.kR 0 u1) 1 u2) 2 vb
    have ua : Upto w.heap.size W (((W.setCell ⟨w.heap.size, 0, none⟩ u1).setCell ⟨w.heap.size, 1, none⟩ u2).setCell ⟨w.heap.size, 2, none⟩ vb) := (((Upto.refl _ _).setCell ⟨w.heap.size, 0, none⟩ (.inl rfl) _).setCell ⟨w.heap.size, 1, none⟩ (.inl rfl) _).setCell ⟨w.heap.size, 2, none⟩ (.inl rfl) _
    have kq := (ua.block _ (heap_lt h.kQ) (by omega)).trans h.kQ
    obtain ⟨b1, ub⟩ := set_two kq m1 m2
    have ha := (ub.block _ (heap_lt a1) (by omega)).trans a1
    exact ⟨ha, b1, ((od.upto ua (by omega)).upto ub (by omega)).mono (by omega), ((h.own.upto ua (by omega)).upto ub (by omega)).mono (by omega), (h.d.trans (ua.toBelow (by have := h.d.size; omega) (by omega))).trans (ub.toBelow (by have := h.d.size; have := ua.size; omega) (by omega))⟩
  · obtain ⟨b1, ub⟩ := set_two h.kQ m1 m2
    have kr := (ub.block _ (heap_lt h.kR) (by omega)).trans h.kR
    have a1 := set_at (set_at (set_at kr 0 u1) 1 u2) 2 vb
    have ua : ∀ X : World, Upto w.heap.size X (((X.setCell ⟨w.heap.size, 0, none⟩ u1).setCell ⟨w.heap.size, 1, none⟩ u2).setCell ⟨w.heap.size, 2, none⟩ vb) := fun X => (((Upto.refl _ _).setCell ⟨w.heap.size, 0, none⟩ (.inl rfl) _).setCell ⟨w.heap.size, 1, none⟩ (.inl rfl) _).setCell ⟨w.heap.size, 2, none⟩ (.inl rfl) _
    have hb1 := ((ua _).block _ (heap_lt b1) (by omega)).trans b1
    exact ⟨a1, hb1, ((od.upto ub (by omega)).upto (ua _) (by omega)).mono (by omega), ((h.own.upto ub (by omega)).upto (ua _) (by omega)).mono (by omega), (h.d.trans (ub.toBelow (by have := h.d.size; omega) (by omega))).trans ((ua _).toBelow (by have := h.d.size; have := ub.size; omega) (by omega))⟩
end Go.Proofs.YtjhfeegilhmgkaaGreatDoor

namespace Go.Proofs.YtjhfeegilhmgkaaGreatDoor
open Go.RowKit Nums

set_option linter.unusedVariables false

set_option maxRecDepth 100000


/-- A shelf and a memo are written into the answers' boxes, in either order. -/
theorem two_end {w W : World} {u1 u2 vb m1 m2 : Value} {x : Rp} (kR : W.heap[w.heap.size]? = some (.cells #[.slice none 0 0, .slice none 0 0, .slice none 0 0] 30 (0, 0))) (kQ : W.heap[w.heap.size + 1]? = some (.cells #[.slice none 0 0, .slice none 0 0] 33 (0, 0)))
    (od : OwnD (w.heap.size + 1 + 1) W u1 u2 vb x.s) (om : OwnM (w.heap.size + 1 + 1) W m1 m2 x.ts x.rs) (d : Below w.heap.size w W) : ∀ W', (W' = ((((W.setCell ⟨w.heap.size, 0, none⟩ u1).setCell ⟨w.heap.size, 1, none⟩ u2).setCell ⟨w.heap.size, 2, none⟩ vb).setCell ⟨w.heap.size + 1, 0, none⟩ m1).setCell ⟨w.heap.size + 1, 1, none⟩ m2 ∨ W' = ((((W.setCell ⟨w.heap.size + 1, 0, none⟩ m1).setCell ⟨w.heap.size + 1, 1, none⟩ m2).setCell ⟨w.heap.size, 0, none⟩ u1).setCell ⟨w.heap.size, 1, none⟩ u2).setCell ⟨w.heap.size, 2, none⟩ vb) →
    W'.heap[w.heap.size]? = some (.cells #[u1, u2, vb] 30 (0, 0)) ∧ W'.heap[w.heap.size + 1]? = some (.cells #[m1, m2] 33 (0, 0)) ∧ OwnD w.heap.size W' u1 u2 vb x.s ∧ OwnM w.heap.size W' m1 m2 x.ts x.rs ∧ Below w.heap.size w W' := by
  intro W' hW'
  rcases hW' with rfl | rfl
  · have a1 := set_at (set_at (set_at kR 0 u1) 1 u2) 2 vb
    have ua : Upto w.heap.size W (((W.setCell ⟨w.heap.size, 0, none⟩ u1).setCell ⟨w.heap.size, 1, none⟩ u2).setCell ⟨w.heap.size, 2, none⟩ vb) := (((Upto.refl _ _).setCell ⟨w.heap.size, 0, none⟩ (.inl rfl) _).setCell ⟨w.heap.size, 1, none⟩ (.inl rfl) _).setCell ⟨w.heap.size, 2, none⟩ (.inl rfl) _
    have kq := (ua.block _ (heap_lt kQ) (by omega)).trans kQ
    obtain ⟨b1, ub⟩ := set_two kq m1 m2
    have ha := (ub.block _ (heap_lt a1) (by omega)).trans a1
    exact ⟨ha, b1, ((od.upto ua (by omega)).upto ub (by omega)).mono (by omega), ((om.upto ua (by omega)).upto ub (by omega)).mono (by omega), (d.trans (ua.toBelow (by have := d.size; omega) (by omega))).trans (ub.toBelow (by have := d.size; have := ua.size; omega) (by omega))⟩
  · obtain ⟨b1, ub⟩ := set_two kQ m1 m2
    have kr := (ub.block _ (heap_lt kR) (by omega)).trans kR
    have a1 := set_at (set_at (set_at kr 0 u1) 1 u2) 2 vb
    have ua : ∀ X : World, Upto w.heap.size X (((X.setCell ⟨w.heap.size, 0, none⟩ u1).setCell ⟨w.heap.size, 1, none⟩ u2).setCell ⟨w.heap.size, 2, none⟩ vb) := fun X => (((Upto.refl _ _).setCell ⟨w.heap.size, 0, none⟩ (.inl rfl) _).setCell ⟨w.heap.size, 1, none⟩ (.inl rfl) _).setCell ⟨w.heap.size, 2, none⟩ (.inl rfl) _
    have hb1 := ((ua _).block _ (heap_lt b1) (by omega)).trans b1
    exact ⟨a1, hb1, ((od.upto ub (by omega)).upto (ua _) (by omega)).mono (by omega), ((om.upto ub (by omega)).upto (ua _) (by omega)).mono (by omega), (d.trans (ub.toBelow (by have := d.size; omega) (by omega))).trans ((ua _).toBelow (by have := d.size; have := ub.size; omega) (by omega))⟩

theorem replay_no {n : Int} {l : List Ent} (h : rpOk n l = false) : replay n l = (Rp.zero, false) := by rw [replay, if_neg (by rw [h]; decide)]

theorem replay_yes {n : Int} {l : List Ent} (h : rpOk n l = true) : replay n l = (rpFrom (rpNew n) l, true) := by rw [replay, if_pos h]
end Go.Proofs.YtjhfeegilhmgkaaGreatDoor

namespace Go.Proofs.YtjhfeegilhmgkaaGreatDoor
open Go.RowKit Nums

set_option linter.unusedVariables false

set_option maxRecDepth 100000


set_option maxHeartbeats 6400000 in
theorem l13Replayed_nil (n : Int) (v : Value) (l : List Ent) (hl0 : l = []) (w : World) (hf : FitLog l) (hok : rpOk n l = true) (r : ReadsR 9 entC w.heap.size w v l) :
    Calls Tryz.prog 82 #[.int .i64 n, v] w fun e w' => ∃ u1 u2 ub t1 t2 : Value, e = .returned (.tuple #[.agg #[u1, u2, ub], .agg #[t1, t2]]) ∧ OwnD w.heap.size w' u1 u2 ub (rpFrom (rpNew n) l).s ∧ OwnM w.heap.size w' t1 t2 (rpFrom (rpNew n) l).ts (rpFrom (rpNew n) l).rs ∧ Below w.heap.size w w' := by
  obtain ⟨hn, hl120, hio⟩ := rpOk_parts hok
  obtain ⟨o, cap, rfl, hm, hc, -⟩ := r
  have HC : Hid _ := nine_cells hc
  have HF : Hid _ := hf
  have HL0 : Hid (l = []) := hl0
  clear hl0
  have HRD : Hid _ := fun k (hk : k ≤ l.length) => replay_round hn hio k hk
  have HSP : Hid _ := fun k (hk : k < l.length) => replay_step hn hio k hk
  obtain ⟨⟨⟨cs0, ps0⟩, made⟩, hnp⟩ : ∃ x, newPool n = x := ⟨_, rfl⟩
  have HS0 : Hid (rpNew n = ⟨⟨cs0, ps0, []⟩, newM.1, newM.2⟩) := by rw [Hid, rpNew, hnp]; rfl
  obtain ⟨W0, hW0, k0, k1, d0, z0⟩ := box2 w #[.slice none 0 0, .slice none 0 0, .slice none 0 0] #[.slice none 0 0, .slice none 0 0] 30 33
  have HW0 : Hid (W0 = _) := hW0
  clear hW0 hc hm hok hf hio
  go_enter Tryz.func82, Tryz.ntmps82
  go_upto_region 1 with fail
  rw [← HW0.out]
  clear HW0
  go_upto_region 2 with (go_at_call 134; refine (specNewShelf_any n _).mono ?_; rw [hnp]; rintro e w1 ⟨u1, u2, rfl, ownP, b1⟩; dsimp only at ownP ⊢; obtain ⟨o1, c1, hf1⟩ := own_slice ownP.c; obtain ⟨o2, c2, hf2⟩ := own_slice ownP.p; subst hf1 hf2)
  have kS := heap_alloc_new w1 (.cells #[.slice o1 cs0.length c1, .slice o2 ps0.length c2, .slice none 0 0] 30)
  have dS : Below w1.heap.size w1 (w1.alloc (.cells #[.slice o1 cs0.length c1, .slice o2 ps0.length c2, .slice none 0 0] 30)) := bw_alloc (Below.refl _ _)
  have sS : (w1.alloc (.cells #[.slice o1 cs0.length c1, .slice o2 ps0.length c2, .slice none 0 0] 30)).heap.size = w1.heap.size + 1 := by simp
  have ownS := ownP.below dS
  have k0S := (dS.block _ (by have := b1.size; omega)).trans ((b1.block _ (by omega)).trans k0)
  have k1S := (dS.block _ (by have := b1.size; omega)).trans ((b1.block _ (by omega)).trans k1)
  have d1S := bw_call (bw_call d0 b1) dS
  have hb1 := b1.size
  clear ownP k0 k1 d0 dS b1 hnp
  generalize w1.alloc (.cells #[.slice o1 cs0.length c1, .slice o2 ps0.length c2, .slice none 0 0] 30) = w2 at *
  go_upto_region 3 with (go_at_call 135; refine (specNewMemoM_any _).mono ?_; rintro e w3 ⟨m1, m2, rfl, ownM, b3⟩; obtain ⟨o3, c3, o4, c4, hf3, hf4⟩ := ownM.forms; subst hf3 hf4)
  have kM := heap_alloc_new w3 (.cells #[.slice o3 newM.1.length c3, .slice o4 newM.2.length c4] 33)
  have dM : Below w3.heap.size w3 (w3.alloc (.cells #[.slice o3 newM.1.length c3, .slice o4 newM.2.length c4] 33)) := bw_alloc (Below.refl _ _)
  have sM : (w3.alloc (.cells #[.slice o3 newM.1.length c3, .slice o4 newM.2.length c4] 33)).heap.size = w3.heap.size + 1 := by simp
  have hb3 := b3.size
  have rs0 : RpSt w (w3.alloc (.cells #[.slice o3 newM.1.length c3, .slice o4 newM.2.length c4] 33)) W0.heap.size w1.heap.size w3.heap.size w2.heap.size (w3.heap.size + 1) (.slice o1 cs0.length c1) (.slice o2 ps0.length c2) (.slice none 0 0) (.slice o3 newM.1.length c3) (.slice o4 newM.2.length c4) [] (rpFrom (rpNew n) (l.take 0)) := by
    rw [List.take_zero, rpFrom, List.foldl_nil, HS0.out]
    have pl := ownS.below b3
    have pl2 := pl.below dM
    refine ⟨⟨(dM.block _ (by omega)).trans ((b3.block _ (by omega)).trans kS), holds_shelf, rfl, rfl, by simp, by omega, pl2, ⟨World.ownsRow_nil _ _ _ _, fun b hb => by cases hb⟩, rfl, fun i hi hG => ?_, fun k hk => by rw [sM]; exact hk.2⟩, kM, ownM.below dM, (dM.block _ (by omega)).trans ((b3.block _ (by omega)).trans k0S), (dM.block _ (by omega)).trans ((b3.block _ (by omega)).trans k1S), bw_call (bw_call d1S b3) dM, by omega, by omega, fun g hg => by have := (ownM.span g hg).2; omega⟩
    rcases hi with q | q | q | q
    · omega
    · have := (ownS.c.lt i q).2; omega
    · have := (ownS.p.lt i q).2; omega
    · cases q
  have hbo : W0.heap.size = w.heap.size + 1 + 1 := z0
  clear kS ownS k0S k1S d1S ownM b3 kM dM sM sS hb3 hb1
  generalize w3.alloc (.cells #[.slice o3 newM.1.length c3, .slice o4 newM.2.length c4] 33) = w4 at *
  generalize w3.heap.size + 1 = hi at *
  generalize w3.heap.size = bm at *
  generalize w2.heap.size = lo at *
  generalize w1.heap.size = bs at *
  generalize W0.heap.size = base at *
  generalize cs0.length = N1 at *
  generalize ps0.length = N2 at *
  have q3 : newM.1.length ≤ 4 ∧ 4 ≤ newM.1.length := by decide
  have q4 : newM.2.length ≤ 4 ∧ 4 ≤ newM.2.length := by decide
  generalize newM.1.length = N3 at *
  generalize newM.2.length = N4 at *
  go_wp2_with fail
  go_loopw [9] (fun i wr => ∃ (k : Nat) (vb : Value) (bks : List Bk), k ≤ l.length ∧ i = .int .i64 k ∧ RpSt w wr base bs bm lo hi (.slice o1 N1 c1) (.slice o2 N2 c2) vb (.slice o3 N3 c3) (.slice o4 N4 c4) bks (rpFrom (rpNew n) (l.take k))) (fun i _ => l.length - (intOf i).toNat)
  case atStart => exact ⟨0, _, [], Nat.zero_le _, rfl, rs0⟩
  case round =>
    clear rs0
    obtain ⟨k, vb, bks, hk, rfl, rp⟩ := hrel
    by_cases hlt : k < l.length
    · exact absurd hlt (by rw [HL0.out]; exact Nat.not_lt_zero _)
    · have htk : l.take k = l := List.take_of_length_le (by omega)
      rw [htk] at rp
      have hbk := rp.st.books.row
      obtain ⟨oB, cB, eB⟩ := own_slice hbk
      subst eB
      have rpD := rp.below ((Below.refl _ _).drew)
      have s0 : wr.drew.cell? ⟨bs, 0, none⟩ = some (.slice o1 N1 c1) := rp.st.c0
      have s1 : wr.drew.cell? ⟨bs, 1, none⟩ = some (.slice o2 N2 c2) := rp.st.c1
      have s2 : wr.drew.cell? ⟨bs, 2, none⟩ = some (.slice oB bks.length cB) := rp.st.c2
      have m0 : wr.drew.cell? ⟨bm, 0, none⟩ = some (.slice o3 N3 c3) := at_cell rp.kM 0
      have m1 : wr.drew.cell? ⟨bm, 1, none⟩ = some (.slice o4 N4 c4) := at_cell rp.kM 1
      have kR : wr.drew.heap[w.heap.size]? = _ := rp.kR
      have kQ : wr.drew.heap[w.heap.size + 1]? = _ := rp.kQ
      have q0 := at_cell kR 0
      have q1 := at_cell kR 1
      have q2 := at_cell kR 2
      have f0 := at_open kR 0
      have f1 := at_open kR 1
      have f2 := at_open kR 2
      have p0 := at_cell kQ 0
      have p1 := at_cell kQ 1
      have e0 := at_open kQ 0
      have e1 := at_open kQ 1
      have q0' : wr.cell? ⟨w.heap.size, 0, none⟩ = _ := q0
      have q1' : wr.cell? ⟨w.heap.size, 1, none⟩ = _ := q1
      have q2' : wr.cell? ⟨w.heap.size, 2, none⟩ = _ := q2
      have f0' : wr.frozen? ⟨w.heap.size, 0, none⟩ = _ := f0
      have f1' : wr.frozen? ⟨w.heap.size, 1, none⟩ = _ := f1
      have f2' : wr.frozen? ⟨w.heap.size, 2, none⟩ = _ := f2
      have p0' : wr.cell? ⟨w.heap.size + 1, 0, none⟩ = _ := p0
      have p1' : wr.cell? ⟨w.heap.size + 1, 1, none⟩ = _ := p1
      have e0' : wr.frozen? ⟨w.heap.size + 1, 0, none⟩ = _ := e0
      have e1' : wr.frozen? ⟨w.heap.size + 1, 1, none⟩ = _ := e1
      have s0' : wr.cell? ⟨bs, 0, none⟩ = _ := s0
      have s1' : wr.cell? ⟨bs, 1, none⟩ = _ := s1
      have s2' : wr.cell? ⟨bs, 2, none⟩ = _ := s2
      have m0' : wr.cell? ⟨bm, 0, none⟩ = _ := m0
      have m1' : wr.cell? ⟨bm, 1, none⟩ = _ := m1
      have hhb := rp.hb
      have hhm := rp.hbm
      have x1 : ¬ bm = w.heap.size := by omega
      have x2 : ¬ bm = w.heap.size + 1 := by omega
      have x3 : ¬ bs = w.heap.size := by omega
      have x4 : ¬ bs = w.heap.size + 1 := by omega
      have x5 : ¬ w.heap.size = bm := by omega
      have x6 : ¬ w.heap.size + 1 = bm := by omega
      have x7 : ¬ w.heap.size = bs := by omega
      have x8 : ¬ w.heap.size + 1 = bs := by omega
      clear hhb hhm
      have HFN : Hid _ := rp.fin
      clear rpD kR kQ htk hbk rp HC
      go_wp2_with fail
      go_region
      all_goals
        obtain ⟨h1, h2, h3, h4, h5⟩ := HFN.out _ (by first | exact .inl rfl | exact .inr rfl)
        have HE : Hid _ := And.intro h1 (And.intro h2 (And.intro h3 (And.intro h4 h5)))
        clear h1 h2 h3 h4 h5 HFN
        go_wp2_with fail
        exact bodyPost_ret (v := .tuple #[.agg #[.slice o1 N1 c1, .slice o2 N2 c2, .slice oB bks.length cB], .agg #[.slice o3 N3 c3, .slice o4 N4 c4]]) (by simp [results, Tryz.results82, go_sem, at_cell HE.out.1, at_cell HE.out.2.1]) rfl ⟨_, _, _, _, _, rfl, HE.out.2.2.1.below ((Below.refl _ _).drew), HE.out.2.2.2.1.below ((Below.refl _ _).drew), HE.out.2.2.2.2.drew⟩

set_option maxHeartbeats 6400000 in
theorem specReplayed_nil (n : Int) (v : Value) (l : List Ent) (hl0 : l = []) (w : World) (hf : FitLog l) (r : ReadsR 9 entC w.heap.size w v l) :
    Calls Tryz.prog 27 #[.int .i64 n, v] w fun e w' => ∃ u1 u2 ub t1 t2 : Value, e = .returned (.tuple #[.agg #[u1, u2, ub], .agg #[t1, t2], .bool (replay n l).2]) ∧ OwnD w.heap.size w' u1 u2 ub (replay n l).1.s ∧ OwnM w.heap.size w' t1 t2 (replay n l).1.ts (replay n l).1.rs ∧ Below w.heap.size w w' := by
  have HL0 : Hid (l = []) := hl0
  clear hl0
  obtain ⟨W0, hW0, k0, k1, d0, z0⟩ := box2 w #[.slice none 0 0, .slice none 0 0, .slice none 0 0] #[.slice none 0 0, .slice none 0 0] 30 33
  have HW0 : Hid (W0 = _) := hW0
  have r0 := (r.below d0).mono d0.size
  have HRO : Hid (rpOk n l = (inB n 1 24 && logOk l)) := rfl
  obtain ⟨o, cap, rfl, -⟩ := id r0
  clear hW0 r
  go_enter Tryz.func27, Tryz.ntmps27
  go_upto_region 1 with fail
  rw [← HW0.out]
  clear HW0
  cases h1 : inB n 1 24
  · have hq : (decide ((1 : Int) ≤ n) && decide (n ≤ 24)) = false := h1
    have HB : Hid (rpOk n l = false) := by rw [Hid, HRO.out, h1]; rfl
    go_upto_region 2 with (first | (go_at_call 75; refine (l1In_any n 1 24 _).mono ?_; rintro e w1 ⟨rfl, rfl⟩; rw [hq]) | (go_at_call 78; refine (specLogOk_any _ l _ hf r0).mono ?_; rintro e w2 ⟨rfl, b2⟩; rw [h2]))
    have kR := k0
    have kQ := k1
    have HE : Hid _ := two_end (w := w) (x := Rp.zero) (u1 := .slice none 0 0) (u2 := .slice none 0 0) (vb := .slice none 0 0) (m1 := .slice none 0 0) (m2 := .slice none 0 0) kR kQ (OwnD.nil _ _) (OwnM.nil _ _) d0 _ (.inl rfl)
    have q0 := at_cell kR 0
    have q1 := at_cell kR 1
    have q2 := at_cell kR 2
    have f0 := at_open kR 0
    have f1 := at_open kR 1
    have f2 := at_open kR 2
    have p0 := at_cell kQ 0
    have p1 := at_cell kQ 1
    have e0 := at_open kQ 0
    have e1 := at_open kQ 1
    have HV : Hid _ := replay_no HB.out
    clear kR kQ r0 k0 k1 d0 h1 hq
    go_wp2_with fail
    exact bodyPost_ret (v := .tuple #[.agg #[.slice none 0 0, .slice none 0 0, .slice none 0 0], .agg #[.slice none 0 0, .slice none 0 0], .bool false]) (by simp [results, Tryz.results27, go_sem, at_cell HE.out.1, at_cell HE.out.2.1]) rfl ⟨_, _, _, _, _, by rw [HV.out], by rw [HV.out]; exact HE.out.2.2.1, by rw [HV.out]; exact HE.out.2.2.2.1, HE.out.2.2.2.2⟩
  · have hq : (decide ((1 : Int) ≤ n) && decide (n ≤ 24)) = true := h1
    cases h2 : logOk l
    · have HB : Hid (rpOk n l = false) := by rw [Hid, HRO.out, h1, h2]; rfl
      go_upto_region 2 with (first | (go_at_call 75; refine (l1In_any n 1 24 _).mono ?_; rintro e w1 ⟨rfl, rfl⟩; rw [hq]) | (go_at_call 78; refine (specLogOk_any _ l _ hf r0).mono ?_; rintro e w2 ⟨rfl, b2⟩; rw [h2]))
      have kR := (b2.block _ (heap_lt k0)).trans k0
      have kQ := (b2.block _ (heap_lt k1)).trans k1
      have HE : Hid _ := two_end (w := w) (x := Rp.zero) (u1 := .slice none 0 0) (u2 := .slice none 0 0) (vb := .slice none 0 0) (m1 := .slice none 0 0) (m2 := .slice none 0 0) kR kQ (OwnD.nil _ _) (OwnM.nil _ _) (bw_call d0 b2) _ (.inl rfl)
      have q0 := at_cell kR 0
      have q1 := at_cell kR 1
      have q2 := at_cell kR 2
      have f0 := at_open kR 0
      have f1 := at_open kR 1
      have f2 := at_open kR 2
      have p0 := at_cell kQ 0
      have p1 := at_cell kQ 1
      have e0 := at_open kQ 0
      have e1 := at_open kQ 1
      have HV : Hid _ := replay_no HB.out
      clear kR kQ r0 k0 k1 d0 h1 hq
      go_wp2_with fail
      exact bodyPost_ret (v := .tuple #[.agg #[.slice none 0 0, .slice none 0 0, .slice none 0 0], .agg #[.slice none 0 0, .slice none 0 0], .bool false]) (by simp [results, Tryz.results27, go_sem, at_cell HE.out.1, at_cell HE.out.2.1]) rfl ⟨_, _, _, _, _, by rw [HV.out], by rw [HV.out]; exact HE.out.2.2.1, by rw [HV.out]; exact HE.out.2.2.2.1, HE.out.2.2.2.2⟩
    · have HB : Hid (rpOk n l = true) := by rw [Hid, HRO.out, h1, h2]; rfl
      go_upto_region 3 with (first | (go_at_call 75; refine (l1In_any n 1 24 _).mono ?_; rintro e w1 ⟨rfl, rfl⟩; rw [hq]) | (go_at_call 78; refine (specLogOk_any _ l _ hf r0).mono ?_; rintro e w2 ⟨rfl, b2⟩; rw [h2]))
      have r2 := (r0.below b2).mono b2.size
      have HV : Hid _ := replay_yes HB.out
      go_upto_region 4 with (go_at_call 82; refine (l13Replayed_nil n _ l HL0.out _ hf HB.out r2).mono ?_; rintro e w3 ⟨u1, u2, ub, t1, t2, rfl, od, om, b3⟩; obtain ⟨bks, ob, hbe⟩ := od.b; obtain ⟨x1, y1, f1⟩ := own_slice od.p.c; obtain ⟨x2, y2, f2⟩ := own_slice od.p.p; obtain ⟨x3, y3, f3⟩ := own_slice ob.row; obtain ⟨x4, y4, x5, y5, f4, f5⟩ := om.forms; subst f1 f2 f3 f4 f5)
      have bb := (bw_alloc (o := .cells #[.slice x1 (rpFrom (rpNew n) l).s.cs.length y1, .slice x2 (rpFrom (rpNew n) l).s.ps.length y2, .slice x3 bks.length y3] 30) (Below.refl w3.heap.size w3))
      have bb2 := bw_alloc (o := .cells #[.slice x4 (rpFrom (rpNew n) l).ts.length y4, .slice x5 (rpFrom (rpNew n) l).rs.length y5] 33) bb
      obtain ⟨W4, hW4, kS, kM, -, z4⟩ := box2 w3 #[.slice x1 (rpFrom (rpNew n) l).s.cs.length y1, .slice x2 (rpFrom (rpNew n) l).s.ps.length y2, .slice x3 bks.length y3] #[.slice x4 (rpFrom (rpNew n) l).ts.length y4, .slice x5 (rpFrom (rpNew n) l).rs.length y5] 30 33
      rw [← hW4] at bb2
      have HW4 : Hid (W4 = _) := hW4
      have od4 := od.below bb2
      have om4 := om.below bb2
      have s2 := b2.size
      have s3 := b3.size
      have kR := (bb2.block _ (by omega)).trans ((b3.block _ (by omega)).trans ((b2.block _ (by omega)).trans k0))
      have kQ := (bb2.block _ (by omega)).trans ((b3.block _ (by omega)).trans ((b2.block _ (by omega)).trans k1))
      have HFN : Hid _ := two_end (w := w) kR kQ (od4.mono (by omega)) (om4.mono (by omega)) (bw_call (bw_call (bw_call d0 b2) b3) bb2)
      have y1' : ¬ w3.heap.size = w.heap.size := by omega
      have y2' : ¬ w3.heap.size = w.heap.size + 1 := by omega
      have y3' : ¬ w3.heap.size + 1 = w.heap.size := by omega
      have y4' : ¬ w3.heap.size + 1 = w.heap.size + 1 := by omega
      have y5' : ¬ w.heap.size = w3.heap.size := by omega
      have y6' : ¬ w.heap.size + 1 = w3.heap.size := by omega
      have y7' : ¬ w.heap.size = w3.heap.size + 1 := by omega
      have y8' : ¬ w.heap.size + 1 = w3.heap.size + 1 := by omega
      rw [← HW4.out]
      clear hW4 HW4 bb bb2 od om od4 om4 s2 s3 b2 b3 r2 r0 k0 k1 d0 z0 z4 hbe ob
      generalize w3.heap.size = nb at *
      generalize (rpFrom (rpNew n) l).s.cs.length = N1 at *
      generalize (rpFrom (rpNew n) l).s.ps.length = N2 at *
      generalize (rpFrom (rpNew n) l).ts.length = N3 at *
      generalize (rpFrom (rpNew n) l).rs.length = N4 at *
      generalize bks.length = N5 at *
      have s0 := at_cell kS 0
      have s1 := at_cell kS 1
      have s2 := at_cell kS 2
      have m0 := at_cell kM 0
      have m1 := at_cell kM 1
      have q0 := at_cell kR 0
      have q1 := at_cell kR 1
      have q2 := at_cell kR 2
      have f0 := at_open kR 0
      have f1 := at_open kR 1
      have f2 := at_open kR 2
      have p0 := at_cell kQ 0
      have p1 := at_cell kQ 1
      have e0 := at_open kQ 0
      have e1 := at_open kQ 1
      have s0' : W4.drew.cell? ⟨nb, 0, none⟩ = _ := s0
      have s1' : W4.drew.cell? ⟨nb, 1, none⟩ = _ := s1
      have s2' : W4.drew.cell? ⟨nb, 2, none⟩ = _ := s2
      have m0' : W4.drew.cell? ⟨nb + 1, 0, none⟩ = _ := m0
      have m1' : W4.drew.cell? ⟨nb + 1, 1, none⟩ = _ := m1
      have q0' : W4.drew.cell? ⟨w.heap.size, 0, none⟩ = _ := q0
      have q1' : W4.drew.cell? ⟨w.heap.size, 1, none⟩ = _ := q1
      have q2' : W4.drew.cell? ⟨w.heap.size, 2, none⟩ = _ := q2
      have f0' : W4.drew.frozen? ⟨w.heap.size, 0, none⟩ = _ := f0
      have f1' : W4.drew.frozen? ⟨w.heap.size, 1, none⟩ = _ := f1
      have f2' : W4.drew.frozen? ⟨w.heap.size, 2, none⟩ = _ := f2
      have p0' : W4.drew.cell? ⟨w.heap.size + 1, 0, none⟩ = _ := p0
      have p1' : W4.drew.cell? ⟨w.heap.size + 1, 1, none⟩ = _ := p1
      have e0' : W4.drew.frozen? ⟨w.heap.size + 1, 0, none⟩ = _ := e0
      have e1' : W4.drew.frozen? ⟨w.heap.size + 1, 1, none⟩ = _ := e1
      clear kS kM kR kQ
      go_region
      all_goals
        obtain ⟨h1, h2, h3, h4, h5⟩ := HFN.out _ (by first | exact .inl rfl | exact .inr rfl)
        have HE : Hid _ := And.intro h1 (And.intro h2 (And.intro h3 (And.intro h4 h5)))
        clear h1 h2 h3 h4 h5 HFN
        go_wp2_with fail
        exact bodyPost_ret (v := .tuple #[.agg #[.slice x1 N1 y1, .slice x2 N2 y2, .slice x3 N5 y3], .agg #[.slice x4 N3 y4, .slice x5 N4 y5], .bool true]) (by simp [results, Tryz.results27, go_sem, at_cell HE.out.1, at_cell HE.out.2.1]) rfl ⟨_, _, _, _, _, by rw [HV.out], by rw [HV.out]; exact HE.out.2.2.1.below ((Below.refl _ _).drew), by rw [HV.out]; exact HE.out.2.2.2.1.below ((Below.refl _ _).drew), HE.out.2.2.2.2.drew⟩
end Go.Proofs.YtjhfeegilhmgkaaGreatDoor

namespace Go.Proofs.YtjhfeegilhmgkaaGreatDoor
open Go.RowKit

set_option linter.unusedVariables false

set_option maxRecDepth 100000

set_option linter.unusedSimpArgs false


set_option maxHeartbeats 1600000 in
theorem specNewHouse_nil (n : Int) (w : World) (pg : Int) (st : Rp) (ok : Bool) (hn : newH n = (pg, st, ok)) :
    Calls Tryz.prog 21 #[.int .i64 n] w fun e w' => ∃ (lo : Option Addr) (lc : Nat) (o1 : Option Addr) (c1 : Nat) (o2 : Option Addr) (c2 : Nat) (o3 : Option Addr) (c3 : Nat) (o4 : Option Addr) (c4 : Nat) (o5 : Option Addr) (c5 : Nat), e = .returned (.tuple #[.agg #[.bool ok, .int .i64 pg, .slice lo 0 lc, .int .i64 0, .slice o1 st.s.cs.length c1, .slice o2 st.s.ps.length c2, .slice o3 0 c3, .slice o4 st.ts.length c4, .slice o5 st.rs.length c5], .bool ok]) ∧ OwnH0 w.heap.size w' st lo lc o1 c1 o2 c2 o3 c3 o4 c4 o5 c5 ∧ Below w.heap.size w w' := by
  obtain ⟨W0, hW0, kR, d0, z0⟩ := box1 w #[.bool false, .int .i64 0, .slice none 0 0, .int .i64 0, .slice none 0 0, .slice none 0 0, .slice none 0 0, .slice none 0 0, .slice none 0 0] 35
  have HW0 : Hid (W0 = _) := hW0
  have hrep := specReplayed_nil n (.slice none 0 0) [] rfl W0 (fun e he => by cases he) (ReadsR.nil _ _ _ _)
  have e1 : (replay n []).1 = st := by have := congrArg (fun z => z.2.1) hn; exact this
  have e2 : (replay n []).2 = ok := by have := congrArg (fun z => z.2.2) hn; exact this
  have hbs : st.s.bs = [] := by rw [← e1]; exact newH_bs n
  have hno : ok = false → pg = 0 ∧ st = Rp.zero := fun h => by
    have := newH_no (n := n) (by rw [hn]; exact h)
    rw [hn] at this
    exact this
  have hyes : ok = true → pg = n := fun h => by
    have := newH_yes (n := n) (by rw [hn]; exact h)
    rw [hn] at this
    exact this
  have HNO : Hid _ := hno
  have HYES : Hid _ := hyes
  rw [e1, e2] at hrep
  have HBS : Hid (st.s.bs = []) := hbs
  have HR2 : Hid (w.heap.size < W0.heap.size) := by rw [Hid]; omega
  clear hW0 e1 e2 hno hyes hbs hn z0
  go_enter Tryz.func21, Tryz.ntmps21
  go_upto_region 1 with fail
  rw [← HW0.out]
  clear HW0
  go_upto_region 2 with (go_at_call 27; refine hrep.mono ?_; rintro e w1 ⟨u1, u2, ub, t1, t2, rfl, od, om, b1⟩; obtain ⟨bks, ob, hbe⟩ := od.b; rw [HBS.out] at hbe; obtain rfl := List.map_eq_nil_iff.1 hbe; obtain ⟨o1, c1, rfl⟩ := own_slice od.p.c; obtain ⟨o2, c2, rfl⟩ := own_slice od.p.p; have ob0 : w1.ownsRow W0.heap.size 118 5 ub 0 [] := ob.row; obtain ⟨o3, c3, rfl⟩ := own_slice ob0; obtain ⟨o4, c4, o5, c5, rfl, rfl⟩ := om.forms)
  obtain ⟨W2, hW2, kS, kM, d2, z2⟩ := box2 w1 #[.slice o1 st.s.cs.length c1, .slice o2 st.s.ps.length c2, .slice o3 0 c3] #[.slice o4 st.ts.length c4, .slice o5 st.rs.length c5] 30 33
  have HW2 : Hid (W2 = _) := hW2
  have B02 := bw_call b1 d2
  have kR2 := (B02.block _ (heap_lt kR)).trans kR
  have D2 := bw_call d0 B02
  have OW : OwnH0 W0.heap.size W2 st none 0 o1 c1 o2 c2 o3 c3 o4 c4 o5 c5 := ⟨owns_nil _ _ _ _, (⟨od.p, ob, List.Pairwise.nil⟩ : OwnS _ _ _ _ _ _ _ _).below d2, om.below d2⟩
  rw [← HW2.out]
  clear HW2 hW2 z2 hbe ob ob0 od om kR hrep b1
  have s0 := at_cell kS 0
  have s1 := at_cell kS 1
  have s2 := at_cell kS 2
  have m0 := at_cell kM 0
  have m1 := at_cell kM 1
  clear kS kM d2 B02
  cases ok
  · obtain ⟨rfl, rfl⟩ := HNO.out rfl
    obtain ⟨V, hV⟩ : ∃ V : World, V = (((((((((W2.setCell ⟨w.heap.size, 0, none⟩ (.bool false)).setCell ⟨w.heap.size, 1, none⟩ (.int .i64 0)).setCell ⟨w.heap.size, 2, none⟩ (.slice none 0 0)).setCell ⟨w.heap.size, 3, none⟩ (.int .i64 0)).setCell ⟨w.heap.size, 4, none⟩ (.slice none 0 0)).setCell ⟨w.heap.size, 5, none⟩ (.slice none 0 0)).setCell ⟨w.heap.size, 6, none⟩ (.slice none 0 0)).setCell ⟨w.heap.size, 7, none⟩ (.slice none 0 0)).setCell ⟨w.heap.size, 8, none⟩ (.slice none 0 0)) := ⟨_, rfl⟩
    have HV : Hid (V = _) := hV
    have HE : Hid _ := house_put kR2 (.bool false) (.int .i64 0) (.slice none 0 0) (.int .i64 0) (.slice none 0 0) (.slice none 0 0) (.slice none 0 0) (.slice none 0 0) (.slice none 0 0) hV
    have uV := HE.out.2
    have p0 := at_cell kR2 0
    have p1 := at_cell kR2 1
    have p2 := at_cell kR2 2
    have p3 := at_cell kR2 3
    have p4 := at_cell kR2 4
    have p5 := at_cell kR2 5
    have p6 := at_cell kR2 6
    have p7 := at_cell kR2 7
    have p8 := at_cell kR2 8
    have f0 := at_open kR2 0
    have f1 := at_open kR2 1
    have f2 := at_open kR2 2
    have f3 := at_open kR2 3
    have f4 := at_open kR2 4
    have f5 := at_open kR2 5
    have f6 := at_open kR2 6
    have f7 := at_open kR2 7
    have f8 := at_open kR2 8

    have HF : Hid _ := And.intro (OwnH0.zero w.heap.size V) (D2.trans (uV.toBelow D2.size (Nat.le_refl _)))
    clear hV uV kR2 OW s0 s1 s2 m0 m1
    go_wp2_with fail
    rw [← HV.out]
    refine bodyPost_ret (v := .tuple #[.agg #[.bool false, .int .i64 0, .slice none 0 0, .int .i64 0, .slice none 0 0, .slice none 0 0, .slice none 0 0, .slice none 0 0, .slice none 0 0], .bool false]) (by simp [results, Tryz.results21, go_sem, at_cell HE.out.1]) rfl ?_
    exact ⟨none, 0, none, 0, none, 0, none, 0, none, 0, none, 0, rfl, HF.out.1, HF.out.2⟩
  · obtain rfl := HYES.out rfl
    obtain ⟨V, hV⟩ : ∃ V : World, V = (((((((((W2.setCell ⟨w.heap.size, 0, none⟩ (.bool true)).setCell ⟨w.heap.size, 1, none⟩ (.int .i64 pg)).setCell ⟨w.heap.size, 2, none⟩ (.slice none 0 0)).setCell ⟨w.heap.size, 3, none⟩ (.int .i64 0)).setCell ⟨w.heap.size, 4, none⟩ (.slice o1 st.s.cs.length c1)).setCell ⟨w.heap.size, 5, none⟩ (.slice o2 st.s.ps.length c2)).setCell ⟨w.heap.size, 6, none⟩ (.slice o3 0 c3)).setCell ⟨w.heap.size, 7, none⟩ (.slice o4 st.ts.length c4)).setCell ⟨w.heap.size, 8, none⟩ (.slice o5 st.rs.length c5)) := ⟨_, rfl⟩
    have HV : Hid (V = _) := hV
    have HE : Hid _ := house_put kR2 (.bool true) (.int .i64 pg) (.slice none 0 0) (.int .i64 0) (.slice o1 st.s.cs.length c1) (.slice o2 st.s.ps.length c2) (.slice o3 0 c3) (.slice o4 st.ts.length c4) (.slice o5 st.rs.length c5) hV
    have uV := HE.out.2
    have p0 := at_cell kR2 0
    have p1 := at_cell kR2 1
    have p2 := at_cell kR2 2
    have p3 := at_cell kR2 3
    have p4 := at_cell kR2 4
    have p5 := at_cell kR2 5
    have p6 := at_cell kR2 6
    have p7 := at_cell kR2 7
    have p8 := at_cell kR2 8
    have f0 := at_open kR2 0
    have f1 := at_open kR2 1
    have f2 := at_open kR2 2
    have f3 := at_open kR2 3
    have f4 := at_open kR2 4
    have f5 := at_open kR2 5
    have f6 := at_open kR2 6
    have f7 := at_open kR2 7
    have f8 := at_open kR2 8

    have HF : Hid _ := And.intro ((OW.upto uV HR2.out).mono (Nat.le_of_lt HR2.out)) (D2.trans (uV.toBelow D2.size (Nat.le_refl _)))
    clear hV uV kR2 OW
    go_wp2_with fail
    rw [← HV.out]
    refine bodyPost_ret (v := .tuple #[.agg #[.bool true, .int .i64 pg, .slice none 0 0, .int .i64 0, .slice o1 st.s.cs.length c1, .slice o2 st.s.ps.length c2, .slice o3 0 c3, .slice o4 st.ts.length c4, .slice o5 st.rs.length c5], .bool true]) (by simp [results, Tryz.results21, go_sem, at_cell HE.out.1]) rfl ?_
    exact ⟨none, 0, o1, c1, o2, c2, o3, c3, o4, c4, o5, c5, rfl, HF.out.1, HF.out.2⟩
end Go.Proofs.YtjhfeegilhmgkaaGreatDoor

namespace Go.Proofs.YtjhfeegilhmgkaaGreatDoor
open Go.RowKit

set_option linter.unusedVariables false

set_option maxRecDepth 100000

theorem nine_all (x0 x1 x2 x3 x4 x5 x6 x7 x8 z0 z1 z2 z3 z4 z5 z6 z7 z8 : Value) : (((((((((#[x0, x1, x2, x3, x4, x5, x6, x7, x8].setIfInBounds 0 z0).setIfInBounds 1 z1).setIfInBounds 2 z2).setIfInBounds 3 z3).setIfInBounds 4 z4).setIfInBounds 5 z5).setIfInBounds 6 z6).setIfInBounds 7 z7).setIfInBounds 8 z8) = #[z0, z1, z2, z3, z4, z5, z6, z7, z8] := by
  apply Array.toList_inj.1
  simp only [Array.toList_setIfInBounds, List.set_cons_zero, List.set_cons_succ]

theorem nine_at {W : World} {b : Nat} {T : TypeId} {x0 x1 x2 x3 x4 x5 x6 x7 x8 : Value} (k : W.heap[b]? = some (.cells #[x0, x1, x2, x3, x4, x5, x6, x7, x8] T (0, 0))) (z0 z1 z2 z3 z4 z5 z6 z7 z8 : Value) :
    (((((((((W.setCell ⟨b, 0, none⟩ z0).setCell ⟨b, 1, none⟩ z1).setCell ⟨b, 2, none⟩ z2).setCell ⟨b, 3, none⟩ z3).setCell ⟨b, 4, none⟩ z4).setCell ⟨b, 5, none⟩ z5).setCell ⟨b, 6, none⟩ z6).setCell ⟨b, 7, none⟩ z7).setCell ⟨b, 8, none⟩ z8).heap[b]? = some (.cells #[z0, z1, z2, z3, z4, z5, z6, z7, z8] T (0, 0)) := by
  have h := set_at (set_at (set_at (set_at (set_at (set_at (set_at (set_at (set_at k 0 z0) 1 z1) 2 z2) 3 z3) 4 z4) 5 z5) 6 z6) 7 z7) 8 z8
  rw [nine_all] at h
  exact h
end Go.Proofs.YtjhfeegilhmgkaaGreatDoor

namespace Go.Proofs.YtjhfeegilhmgkaaGreatDoor
open Go.RowKit

set_option linter.unusedVariables false

set_option maxRecDepth 100000


/-- A shelf's box is written, all three of its cells. -/
theorem shelf_put {w W : World} {c : Nat} {x0 x1 x2 : Value} {T : TypeId} (kc : W.heap[c]? = some (.cells #[x0, x1, x2] T (0, 0))) (hc : w.heap.size ≤ c) (h0 : Below w.heap.size w W) (y0 y1 y2 : Value) :
    (((W.setCell ⟨c, 0, none⟩ y0).setCell ⟨c, 1, none⟩ y1).setCell ⟨c, 2, none⟩ y2).heap[c]? = some (.cells #[y0, y1, y2] T (0, 0)) ∧ Upto c W (((W.setCell ⟨c, 0, none⟩ y0).setCell ⟨c, 1, none⟩ y1).setCell ⟨c, 2, none⟩ y2) ∧ Below w.heap.size w (((W.setCell ⟨c, 0, none⟩ y0).setCell ⟨c, 1, none⟩ y1).setCell ⟨c, 2, none⟩ y2) :=
  ⟨set_at (set_at (set_at kc 0 y0) 1 y1) 2 y2, (((Upto.refl _ _).setCell ⟨c, 0, none⟩ (.inl rfl) _).setCell ⟨c, 1, none⟩ (.inl rfl) _).setCell ⟨c, 2, none⟩ (.inl rfl) _, bw_set (p := ⟨c, 2, none⟩) (bw_set (p := ⟨c, 1, none⟩) (bw_set (p := ⟨c, 0, none⟩) h0 hc _) hc _) hc _⟩

theorem newPool_no {n : Int} {z : (List Int × List Int) × Bool} (h : newPool n = z) (hz : z.2 = false) : z = (([], []), false) := by
  unfold newPool at h
  split at h
  · subst h; cases hz
  · exact h.symm

set_option maxHeartbeats 1600000 in
theorem implNewShelf_any (n : Int) (w : World) :
    Calls Tryz.prog 128 #[.int .i64 n] w fun e w' => ∃ u1 u2 ub : Value, e = .returned (.tuple #[.agg #[u1, u2, ub], .bool (newPool n).2]) ∧ OwnP w.heap.size w' u1 u2 (newPool n).1.1 (newPool n).1.2 ∧ OwnB w.heap.size w' ub [] ∧ Below w.heap.size w w' := by
  obtain ⟨W0, hW0, k0, d0, z0⟩ := box1 w #[.slice none 0 0, .slice none 0 0, .slice none 0 0] 30
  have HW0 : Hid (W0 = _) := hW0
  have l0 := heap_lt k0
  clear hW0 z0
  go_enter Tryz.func128, Tryz.ntmps128
  go_wp2_with fail
  rw [← HW0.out]
  clear HW0
  refine (implNewPool_any n _).mono ?_
  rintro e w1 ⟨u1, u2, rfl, own, b1⟩
  replace k0 := (b1.block _ l0).trans k0
  replace d0 := bw_call d0 b1
  obtain ⟨⟨⟨zc, zp⟩, made⟩, hz⟩ : ∃ x, newPool n = x := ⟨_, rfl⟩
  have HZ : Hid (newPool n = ((zc, zp), made)) := hz
  rw [hz] at own ⊢
  simp only at own ⊢
  obtain ⟨o1, c1, e1⟩ := own_slice own.c
  obtain ⟨o2, c2, e2⟩ := own_slice own.p
  subst e1 e2
  have hlt : w.heap.size < w1.heap.size := Nat.lt_of_lt_of_le l0 b1.size
  have q0 := at_cell k0 0
  have q1 := at_cell k0 1
  have q2 := at_cell k0 2
  have f0 := at_open k0 0
  have f1 := at_open k0 1
  have f2 := at_open k0 2
  have hne : ¬ w.heap.size = w1.heap.size := by omega
  cases made
  · have hn := newPool_no hz rfl
    simp only [Prod.mk.injEq] at hn
    obtain ⟨⟨rfl, rfl⟩, -⟩ := hn
    have HS : Hid _ := shelf_put (w := w) k0 (Nat.le_refl _) d0 (.slice none 0 0) (.slice none 0 0) (.slice none 0 0)
    have bP : ∀ X : World, Below X.heap.size X (X.alloc (.cells #[.slice o1 0 c1, .slice o2 0 c2] 27)) := fun X => bw_alloc (Below.refl _ _)
    have HT : Hid _ := And.intro (((bP _).block _ (heap_lt HS.out.1)).trans HS.out.1) (bw_call HS.out.2.2 (bP _))
    clear own d0 k0 b1 hz bP
    go_wp2_with fail
    exact bodyPost_ret (v := .tuple #[.agg #[.slice none 0 0, .slice none 0 0, .slice none 0 0], .bool false]) (by simp [results, Tryz.results128, go_sem, at_cell HT.out.1]) rfl ⟨.slice none 0 0, .slice none 0 0, .slice none 0 0, by rw [HZ.out], by rw [HZ.out]; exact OwnP.nil _ _, ⟨owns_nil _ _ _ _, fun b hb => by simp at hb⟩, HT.out.2⟩
  · have HS : Hid _ := shelf_put (w := w) k0 (Nat.le_refl _) d0 (.slice o1 zc.length c1) (.slice o2 zp.length c2) (.slice (some ⟨w1.heap.size + 1, 0, none⟩) 0 0)
    have ow3 := (own.upto HS.out.2.1 l0).mono (Nat.le_of_lt l0)
    have z3 : (((w1.setCell ⟨w.heap.size, 0, none⟩ (.slice o1 zc.length c1)).setCell ⟨w.heap.size, 1, none⟩ (.slice o2 zp.length c2)).setCell ⟨w.heap.size, 2, none⟩ (.slice (some ⟨w1.heap.size + 1, 0, none⟩) 0 0)).heap.size = w1.heap.size := by simp
    have HZ3 : Hid _ := z3
    have HO3 : Hid _ := ow3
    clear own d0 k0 b1 hz ow3 z3
    go_wp2_with fail
    revert HS HO3 HZ3
    generalize ((w1.setCell ⟨w.heap.size, 0, none⟩ (.slice o1 zc.length c1)).setCell ⟨w.heap.size, 1, none⟩ (.slice o2 zp.length c2)).setCell ⟨w.heap.size, 2, none⟩ (.slice (some ⟨w1.heap.size + 1, 0, none⟩) 0 0) = W3
    intro HS HZ3 HO3
    obtain ⟨W5, hW5, k5, k6, d5, z5⟩ := box2 W3 #[.slice o1 zc.length c1, .slice o2 zp.length c2] #[] 27 118
    rw [HZ3.out] at k6
    rw [← hW5]
    have k7 := (d5.block _ (heap_lt HS.out.1)).trans HS.out.1
    have HT : Hid _ := And.intro k7 (And.intro (HO3.out.below d5) (bw_call HS.out.2.2 d5))
    have HOB : Hid (W5.ownsRow w.heap.size 118 5 (.slice (some ⟨w1.heap.size + 1, 0, none⟩) 0 0) 0 []) := ⟨rfl, .inr ⟨_, 0, #[], rfl, by omega, k6, Nat.le_refl _, Nat.zero_le _, rfl, rfl⟩⟩
    exact bodyPost_ret (v := .tuple #[.agg #[.slice o1 zc.length c1, .slice o2 zp.length c2, .slice (some ⟨w1.heap.size + 1, 0, none⟩) 0 0], .bool true]) (by simp [results, Tryz.results128, go_sem, at_cell HT.out.1]) rfl ⟨_, _, _, by rw [HZ.out], by rw [HZ.out]; exact HT.out.2.1, ⟨HOB.out, fun b hb => by simp at hb⟩, HT.out.2.2⟩
end Go.Proofs.YtjhfeegilhmgkaaGreatDoor

