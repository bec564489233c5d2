/-
  Contracts and plain laws, one chapter behind the other.
-/
import Derived.Deep.RegionHeld3
import Derived.Test.YtibhepekmihagaaGreatDoorM03
import Derived.Test.YtibhepekmihagaaGreatDoorM05
import Derived.Test.YtibhepekmihagaaGreatDoorM07
import Derived.Test.YtibhepekmihagaaGreatDoorM09
import Derived.Test.YtibhepekmihagaaGreatDoorM14
import Derived.Test.YtibhepekmihagaaGreatDoorM15
namespace Go.Proofs.YtibhepekmihagaaGreatDoor
open Go.RowKit

set_option linter.unusedVariables false

set_option maxRecDepth 100000


theorem OwnB.rng {lo hi base : Nat} {w w' : World} {v : Value} {bs : List Bk} (h : OwnB base w v bs) (k : Rng lo hi w w') (hb : hi ≤ base) : OwnB base w' v bs := ⟨own_rng h.row k hb, fun b hbm => own_rng (h.maps b hbm) k hb⟩

theorem OwnS.rng {lo hi base : Nat} {w w' : World} {v1 v2 vb : Value} {cs ps : List Int} {bks : List Bk} (h : OwnS base w v1 v2 vb cs ps bks) (k : Rng lo hi w w') (hb : hi ≤ base) : OwnS base w' v1 v2 vb cs ps bks := ⟨h.p.rng k hb, h.b.rng k hb, h.a⟩

/-- The blocks of a shelf of one's own. -/
theorem OwnS.span {base : Nat} {w : World} {v1 v2 vb : Value} {cs ps : List Int} {bks : List Bk} (h : OwnS base w v1 v2 vb cs ps bks) : (∀ g, (v1.ownBlock = some g ∨ v2.ownBlock = some g) → base ≤ g ∧ g < w.heap.size) ∧ (∀ g, vb.ownBlock = some g → g < w.heap.size) ∧ ∀ b ∈ bks, ∀ g, b.m.ownBlock = some g → g < w.heap.size :=
  ⟨h.p.span, fun g hg => (h.b.row.lt g hg).2, fun b hb g hg => ((h.b.maps b hb).lt g hg).2⟩

/-- A row of one type stays where rows of another type are written. -/
theorem own_apart {w : World} {base base' : Nat} {e e' : TypeId} {k k' n n' : Nat} {v v' : Value} {xs ys : List Value} (h : w.ownsRow base e k v n xs) (h' : w.ownsRow base' e' k' v' n' ys) (hne : e' ≠ e) (g : Nat) (hg : v'.ownBlock = some g) : v.ownBlock ≠ some g := by
  rcases h'.2 with ⟨rfl, _⟩ | ⟨g', cap', cur, rfl, _, hh, _⟩
  · simp [Value.ownBlock] at hg
  · simp [Value.ownBlock] at hg
    subst hg
    exact own_not_box h hh hne

/-- Only what is of the pool's type is written: the books stay. -/
theorem OwnB.pooled {lo base : Nat} {w w' : World} {v1 v2 vb : Value} {cs ps : List Int} {bks : List Bk} (h : OwnB base w vb bks) (p : OwnP lo w v1 v2 cs ps) (k : ∀ i, i < w.heap.size → v1.ownBlock ≠ some i → v2.ownBlock ≠ some i → w'.heap[i]? = w.heap[i]?) : OwnB base w' vb bks := by
  have st : ∀ (e : TypeId) (kk n : Nat) (v : Value) (xs : List Value), 2 ≠ e → w.ownsRow base e kk v n xs → w'.ownsRow base e kk v n xs := fun e kk n v xs he hr =>
    own_rng_not hr (fun q hq hqv => k q hq (fun hx => own_apart hr p.c he q hx hqv) (fun hx => own_apart hr p.p he q hx hqv))
  exact ⟨st _ _ _ _ _ (by decide) h.row, fun b hb => st _ _ _ _ _ (by decide) (h.maps b hb)⟩

set_option maxHeartbeats 800000 in
theorem markPoolO_any (v1 v2 : Value) (cs ps : List Int) (lo : Nat) (k : Int) (w : World) (hk : 0 ≤ k) (hc : cs.length ≤ 1048576) (hp : ps.length ≤ 1048576) (hk2 : k ≤ 1073741824) (own : OwnP lo w v1 v2 cs ps) (hlo : lo ≤ w.heap.size) :
    Calls Tryz.prog 49 #[.agg #[v1, v2], .int .i64 k] w fun e w' => e = .returned (.int .i64 (k + cs.length + ps.length)) ∧ OwnP lo w' v1 v2 (marksI k cs.length) (marksI (k + cs.length) ps.length) ∧ w'.os = w.os ∧ w'.tape = w.tape ∧ w'.output = w.output ∧ w.heap.size ≤ w'.heap.size ∧ ∀ i, i < w.heap.size → v1.ownBlock ≠ some i → v2.ownBlock ≠ some i → w'.heap[i]? = w.heap[i]? := by
  obtain ⟨W0, hW0, k0, d0, z0⟩ := box1 w #[v1, v2] 25
  have own0 := own.below d0
  have HW0 : Hid (W0 = _) := hW0
  have HA : Hid _ := own.apart
  clear hW0 own
  go_enter Tryz.func49, Tryz.ntmps49
  go_wp2_with fail
  rw [← HW0.out]
  clear HW0
  have HB1 : Hid (v1.ownBlock ≠ some w.heap.size) := own_not_box own0.c k0 (by decide)
  refine (markedIRow_any v1 cs.length lo k _ _ hk (by omega) (by omega) own0.c).mono ?_
  rintro e w1 ⟨rfl, o1, b1, s1, f1⟩
  have k01 := (f1 _ (by omega) HB1.out).trans k0
  have o2 : w1.ownsRow lo 2 1 v2 ps.length (ps.map (Value.int .i64)) := own_rng_not own0.p (fun g hg hv => f1 g hg (fun h => HA.out g h hv))
  have p1 := at_cell k01 1
  have F1 : Hid (w1.os = w.os ∧ w1.tape = w.tape ∧ w1.output = w.output ∧ w.heap.size ≤ w1.heap.size ∧ ∀ i, i < w.heap.size → v1.ownBlock ≠ some i → w1.heap[i]? = w.heap[i]?) := ⟨b1.os.trans d0.os, b1.tape.trans d0.tape, b1.output.trans d0.output, by omega, fun i hi' hc => (f1 i (by omega) hc).trans (d0.block i hi')⟩
  clear f1 k0 own0 b1 d0
  go_wp2_with fail
  clear p1
  refine (markedIRow_any v2 ps.length lo (k + cs.length) _ _ (by omega) (by omega) (by omega) o2).mono ?_
  rintro e w2 ⟨rfl, o3, b2, s2, f2⟩
  have o4 : w2.ownsRow lo 2 1 v1 cs.length ((marksI k cs.length).map (Value.int .i64)) := own_rng_not o1 (fun g hg hv => f2 g hg (fun h => HA.out g hv h))
  have HO : Hid (OwnP lo w2 v1 v2 (marksI k cs.length) (marksI (k + cs.length) ps.length)) := ⟨by rw [marksI_length]; exact o4, by rw [marksI_length]; exact o3, HA.out⟩
  have HE : Hid (w2.os = w.os ∧ w2.tape = w.tape ∧ w2.output = w.output ∧ w.heap.size ≤ w2.heap.size ∧ ∀ i, i < w.heap.size → v1.ownBlock ≠ some i → v2.ownBlock ≠ some i → w2.heap[i]? = w.heap[i]?) := by
    obtain ⟨q1, q2, q3, q4, q5⟩ := F1.out
    exact ⟨b2.os.trans q1, b2.tape.trans q2, b2.output.trans q3, by omega, fun i hi' h1 h2 => (f2 i (by omega) h2).trans (q5 i hi' h1)⟩
  clear f2 o1 o2 o3 o4 b2 k01
  go_wp2_with fail
  go_ret
  exact ⟨rfl, HO.out, HE.out⟩

def shelfE (k : Int) (cs ps : List Int) (bks : List Bk) : Int := marksE (k + cs.length + ps.length) bks

set_option maxHeartbeats 1600000 in
theorem heldShelf_any (v1 v2 vb : Value) (cs ps : List Int) (bks : List Bk) (k : Int) (w : World) (hk : 0 ≤ k) (hc : cs.length ≤ 1048576) (hp : ps.length ≤ 1048576) (hk2 : shelfE k cs ps bks ≤ 1073741824) (hn : ∀ b ∈ bks, b.rs.length ≤ 1048576) (r : RS w.heap.size w v1 v2 vb (marksI k cs.length) (marksI (k + cs.length) ps.length) (marksB (k + cs.length + ps.length) bks)) :
    Calls Tryz.prog 22 #[.agg #[v1, v2, vb], .int .i64 k] w fun e w' => e = .returned (.int .i64 (shelfE k cs ps bks)) ∧ Below w.heap.size w w' := by
  obtain ⟨o1, k1, o2, k2, ob, kb, rfl, rfl, rfl⟩ := r.forms
  obtain ⟨W0, hW0, k0, d0, z0⟩ := box1 w #[.slice o1 (marksI k cs.length).length k1, .slice o2 (marksI (k + cs.length) ps.length).length k2, .slice ob (marksB (k + cs.length + ps.length) bks).length kb] 28
  have HW0 : Hid (W0 = _) := hW0
  have HN : Hid _ := hn
  have r0 := (r.below d0).mono d0.size
  have hkm := marksE_ge bks (k + cs.length + ps.length)
  unfold shelfE at hk2 ⊢
  rw [marksI_length, marksI_length, marksB_length] at r0 k0 HW0
  clear hW0 z0 r hn
  rw [marksI_length, marksI_length, marksB_length]
  go_enter Tryz.func22, Tryz.ntmps22
  go_wp2_with fail
  rw [← HW0.out]
  clear HW0
  refine (heldPool_any _ _ cs.length ps.length k _ hk (by omega) hc hp r0.p).mono ?_
  rintro e w1 ⟨rfl, b1⟩
  replace k0 := (b1.block _ (heap_lt k0)).trans k0
  replace d0 := bw_call d0 b1
  replace r0 := (r0.below b1).mono b1.size
  have p2 := at_cell k0 2
  have hp0 : 0 ≤ k + (cs.length : Int) + (ps.length : Int) := by omega
  clear b1
  go_wp2_with fail
  clear p2
  refine (heldBooks_any _ bks (k + cs.length + ps.length) _ hp0 hk2 HN.out r0.b).mono ?_
  rintro e w2 ⟨rfl, b2⟩
  replace d0 := bw_call d0 b2
  have hp1 : 0 ≤ marksE (k + cs.length + ps.length) bks := by omega
  clear b2 r0 k0
  go_wp2_with fail
  go_ret
  exact ⟨rfl, d0⟩
end Go.Proofs.YtibhepekmihagaaGreatDoor

namespace Go.Proofs.YtibhepekmihagaaGreatDoor
open Go.RowKit

set_option linter.unusedVariables false

set_option maxRecDepth 100000


structure OwnW (base : Nat) (w : World) (v1 v2 vb : Value) (cs ps : List Int) (bks : List Bk) : Prop where
  p : OwnP base w v1 v2 cs ps
  b : OwnB base w vb bks

theorem OwnW.below {base : Nat} {w w' : World} {v1 v2 vb : Value} {cs ps : List Int} {bks : List Bk} (h : OwnW base w v1 v2 vb cs ps bks) (k : Below w.heap.size w w') : OwnW base w' v1 v2 vb cs ps bks := ⟨h.p.below k, h.b.below k⟩

theorem OwnW.upto {base c : Nat} {w w' : World} {v1 v2 vb : Value} {cs ps : List Int} {bks : List Bk} (h : OwnW base w v1 v2 vb cs ps bks) (u : Upto c w w') (hc : c < base) : OwnW base w' v1 v2 vb cs ps bks := ⟨h.p.upto u hc, h.b.upto u hc⟩

theorem OwnW.reads {base : Nat} {w : World} {v1 v2 vb : Value} {cs ps : List Int} {bks : List Bk} (h : OwnW base w v1 v2 vb cs ps bks) : RS w.heap.size w v1 v2 vb cs ps bks := ⟨h.p.reads, h.b.reads⟩

theorem OwnW.forms {base : Nat} {w : World} {v1 v2 vb : Value} {cs ps : List Int} {bks : List Bk} (h : OwnW base w v1 v2 vb cs ps bks) : ∃ o1 k1 o2 k2 ob kb, v1 = .slice o1 cs.length k1 ∧ v2 = .slice o2 ps.length k2 ∧ vb = .slice ob bks.length kb := h.reads.forms

/-- A box is written whose type no row of a shelf has: the shelf stays. -/
theorem OwnW.box {base n : Nat} {w w' : World} {v1 v2 vb : Value} {cs ps : List Int} {bks : List Bk} {zs : Array Value} {T : TypeId} (h : OwnW base w v1 v2 vb cs ps bks) (k : w.heap[n]? = some (.cells zs T (0, 0))) (u : Upto n w w') (h1 : T ≠ 2) (h2 : T ≠ 133) (h3 : T ≠ 185) : OwnW base w' v1 v2 vb cs ps bks := by
  have st : ∀ (e : TypeId) (kk m : Nat) (v : Value) (xs : List Value), T ≠ e → w.ownsRow base e kk v m xs → w'.ownsRow base e kk v m xs := fun e kk m v xs he hr => own_rng_not hr (fun q hq hqv => u.block q hq (fun hx => own_not_box hr k he (by rw [← hx]; exact hqv)))
  exact ⟨⟨st _ _ _ _ _ h1 h.p.c, st _ _ _ _ _ h1 h.p.p, h.p.apart⟩, ⟨st _ _ _ _ _ h2 h.b.row, fun b hb => st _ _ _ _ _ h3 (h.b.maps b hb)⟩⟩
end Go.Proofs.YtibhepekmihagaaGreatDoor

namespace Go.Proofs.YtibhepekmihagaaGreatDoor
open Go.RowKit

set_option linter.unusedVariables false

set_option maxRecDepth 100000


theorem OwnS.box {base n : Nat} {w w' : World} {v1 v2 vb : Value} {cs ps : List Int} {bks : List Bk} {zs : Array Value} {T : TypeId} (h : OwnS base w v1 v2 vb cs ps bks) (k : w.heap[n]? = some (.cells zs T (0, 0))) (u : Upto n w w') (h1 : T ≠ 2) (h2 : T ≠ 133) (h3 : T ≠ 185) : OwnS base w' v1 v2 vb cs ps bks := by
  have q := OwnW.box ⟨h.p, h.b⟩ k u h1 h2 h3
  exact ⟨q.p, q.b, h.a⟩

/-- The blocks of a shelf's rows. -/
def InS (v1 v2 vb : Value) (bks : List Bk) (g : Nat) : Prop := v1.ownBlock = some g ∨ v2.ownBlock = some g ∨ vb.ownBlock = some g ∨ ∃ b ∈ bks, b.m.ownBlock = some g

theorem OwnS.notBox {base n : Nat} {w : World} {v1 v2 vb : Value} {cs ps : List Int} {bks : List Bk} {zs : Array Value} {T : TypeId} (h : OwnS base w v1 v2 vb cs ps bks) (k : w.heap[n]? = some (.cells zs T (0, 0))) (h1 : T ≠ 2) (h2 : T ≠ 133) (h3 : T ≠ 185) : ¬ InS v1 v2 vb bks n := by
  rintro (e | e | e | ⟨b, hb, e⟩)
  · exact own_not_box h.p.c k h1 e
  · exact own_not_box h.p.p k h1 e
  · exact own_not_box h.b.row k h2 e
  · exact own_not_box (h.b.maps b hb) k h3 e

set_option maxHeartbeats 1600000 in
theorem markShelfO_any (v1 v2 vb : Value) (cs ps : List Int) (bks : List Bk) (lo : Nat) (k : Int) (w : World) (hk : 0 ≤ k) (hc : cs.length ≤ 1048576) (hp : ps.length ≤ 1048576) (hk2 : shelfE k cs ps bks ≤ 1073741824) (hn : ∀ b ∈ bks, b.rs.length ≤ 1048576) (own : OwnS lo w v1 v2 vb cs ps bks) (hlo : lo ≤ w.heap.size) :
    Calls Tryz.prog 20 #[.agg #[v1, v2, vb], .int .i64 k] w fun e w' => e = .returned (.int .i64 (shelfE k cs ps bks)) ∧ OwnS lo w' v1 v2 vb (marksI k cs.length) (marksI (k + cs.length) ps.length) (marksB (k + cs.length + ps.length) bks) ∧ Only (InS v1 v2 vb bks) w w' := by
  obtain ⟨o1, k1, o2, k2, ob, kb, rfl, rfl, rfl⟩ := own.forms
  obtain ⟨W0, hW0, k0, d0, z0⟩ := box1 w #[.slice o1 cs.length k1, .slice o2 ps.length k2, .slice ob bks.length kb] 28
  have own0 := own.below d0
  have HW0 : Hid (W0 = _) := hW0
  have HN : Hid _ := hn
  have hb1 := own_not_box own0.p.c k0 (by decide)
  have hb2 := own_not_box own0.p.p k0 (by decide)
  have hkm := marksE_ge bks (k + cs.length + ps.length)
  unfold shelfE at hk2 ⊢
  have HB : Hid _ := And.intro hb1 hb2
  clear hW0 own hn hb1 hb2
  go_enter Tryz.func20, Tryz.ntmps20
  go_wp2_with fail
  rw [← HW0.out]
  clear HW0
  refine (markPoolO_any _ _ cs ps lo k _ hk hc hp (by omega) own0.p (by omega)).mono ?_
  rintro e w1 ⟨rfl, op, q1, q2, q3, q4, q5⟩
  have ob1 := own0.b.pooled own0.p q5
  have k01 := (q5 _ (by omega) HB.out.1 HB.out.2).trans k0
  have R1 : Only (InS (.slice o1 cs.length k1) (.slice o2 ps.length k2) (.slice ob bks.length kb) bks) w w1 := ⟨q1.trans d0.os, q2.trans d0.tape, q3.trans d0.output, by omega, fun i hi' hc => (q5 i (by omega) (fun h => hc (.inl h)) (fun h => hc (.inr (.inl h)))).trans (d0.block i hi')⟩
  have HAP : Hid _ := own0.a
  have p2 := at_cell k01 2
  have HNB : Hid (∀ i, (Value.slice ob bks.length kb).ownBlock = some i → (Value.slice o1 cs.length k1).ownBlock ≠ some i ∧ (Value.slice o2 ps.length k2).ownBlock ≠ some i) := fun i h => ⟨own_apart own0.p.c own0.b.row (by decide) i h, own_apart own0.p.p own0.b.row (by decide) i h⟩
  have HNM : Hid (∀ b ∈ bks, ∀ i, b.m.ownBlock = some i → (Value.slice o1 cs.length k1).ownBlock ≠ some i ∧ (Value.slice o2 ps.length k2).ownBlock ≠ some i) := fun b hb i h => ⟨own_apart own0.p.c (own0.b.maps b hb) (by decide) i h, own_apart own0.p.p (own0.b.maps b hb) (by decide) i h⟩
  have z1 := R1.size
  clear q1 q2 q3 q4 q5 own0 d0 k0 k01
  go_wp2_with fail
  clear p2
  refine (markBooksO_any _ bks lo (k + cs.length + ps.length) _ (by omega) hk2 HN.out ob1 HAP.out (by omega)).mono ?_
  rintro e w2 ⟨rfl, ow2, q1, q2, q3, q4, q5⟩
  have op2 : OwnP lo w2 (.slice o1 cs.length k1) (.slice o2 ps.length k2) (marksI k cs.length) (marksI (k + cs.length) ps.length) := ⟨own_rng_not op.c (fun g hg hv => q5 g hg (fun h => (HNB.out g h).1 hv) (fun b hb h => (HNM.out b hb g h).1 hv)), own_rng_not op.p (fun g hg hv => q5 g hg (fun h => (HNB.out g h).2 hv) (fun b hb h => (HNM.out b hb g h).2 hv)), op.apart⟩
  have R2 : Only (InS (.slice o1 cs.length k1) (.slice o2 ps.length k2) (.slice ob bks.length kb) bks) w w2 := R1.trans ⟨q1, q2, q3, q4, fun i hi' hc => q5 i hi' (fun h => hc (.inr (.inr (.inl h)))) (fun b hb h => hc (.inr (.inr (.inr ⟨b, hb, h⟩))))⟩
  have HO : Hid (OwnS lo w2 (.slice o1 cs.length k1) (.slice o2 ps.length k2) (.slice ob bks.length kb) (marksI k cs.length) (marksI (k + cs.length) ps.length) (marksB (k + cs.length + ps.length) bks)) := ⟨op2, ow2, apart_ms (marksB_ms _ _) HAP.out⟩
  clear q1 q2 q3 q4 q5 op op2 ow2 R1 ob1
  go_wp2_with fail
  go_ret
  exact ⟨rfl, HO.out, R2⟩
end Go.Proofs.YtibhepekmihagaaGreatDoor

namespace Go.Proofs.YtibhepekmihagaaGreatDoor
open Go.ChangeShapes Go.WideShapes Go.ChangeAt Go.RowKit Go.Joins

set_option linter.unusedVariables false

set_option maxRecDepth 100000

set_option maxHeartbeats 800000 in
theorem eqOp_same (k : Int) (nm ot : ByteArray) (at_ va ep : Int) (w : World) :
    Calls Tryz.prog 98 #[.agg #[.int .i64 k, .string nm, .string ot, .int .i64 at_, .int .i64 va, .int .i64 ep], .agg #[.int .i64 k, .string nm, .string ot, .int .i64 at_, .int .i64 va, .int .i64 ep]] w fun e w' => e = .returned (.bool true) ∧ Below w.heap.size w w' := by
  go_enter Tryz.func98, Tryz.ntmps98
  go_wp2_with fail
  go_ret
  exact ⟨rfl, bw_alloc (bw_alloc (Below.refl _ _))⟩
end Go.Proofs.YtibhepekmihagaaGreatDoor

