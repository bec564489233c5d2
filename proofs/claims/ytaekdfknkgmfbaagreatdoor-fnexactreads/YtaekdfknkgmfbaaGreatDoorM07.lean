/-
  Contracts and plain laws, one chapter behind the other.
-/
import Derived.Deep.DeepCutAuto
import Derived.Laws.Cover1
import Derived.Deep.RegionLaw
import Derived.Test.YtaekdfknkgmfbaaGreatDoorM01
import Derived.Test.YtaekdfknkgmfbaaGreatDoorM02
import Derived.Test.YtaekdfknkgmfbaaGreatDoorM04
import Derived.Test.YtaekdfknkgmfbaaGreatDoorM05
import Derived.Test.YtaekdfknkgmfbaaGreatDoorM06
namespace Go.Proofs.YtaekdfknkgmfbaaGreatDoor
open Go.RowKit

set_option linter.unusedVariables false

set_option maxRecDepth 100000


/-- A shelf that is read. -/
structure RS (B : Nat) (w : World) (v1 v2 vb : Value) (cs ps : List Int) (bks : List Bk) : Prop where
  p : RP B w v1 v2 cs ps
  b : ReadsB B w vb bks

theorem RS.below {B : Nat} {w w' : World} {v1 v2 vb : Value} {cs ps : List Int} {bks : List Bk} (h : RS B w v1 v2 vb cs ps bks) (k : Below B w w') : RS B w' v1 v2 vb cs ps bks := ⟨h.p.below k, h.b.below k⟩

theorem RS.mono {B B' : Nat} {w : World} {v1 v2 vb : Value} {cs ps : List Int} {bks : List Bk} (h : RS B w v1 v2 vb cs ps bks) (k : B ≤ B') : RS B' w v1 v2 vb cs ps bks := ⟨h.p.mono k, h.b.mono k⟩

theorem RS.forms {B : Nat} {w : World} {v1 v2 vb : Value} {cs ps : List Int} {bks : List Bk} (h : RS B w v1 v2 vb cs ps bks) : ∃ o1 k1 o2 k2 ob kb, v1 = .slice o1 cs.length k1 ∧ v2 = .slice o2 ps.length k2 ∧ vb = .slice ob bks.length kb := by
  obtain ⟨o1, k1, o2, k2, e1, e2⟩ := h.p.forms
  obtain ⟨ob, kb, e3, -⟩ := h.b.row
  exact ⟨o1, k1, o2, k2, ob, kb, e1, e2, e3⟩

/-- A shelf of one's own. -/
structure OwnS (base : Nat) (w : World) (v1 v2 vb : Value) (cs ps : List Int) (bks : List Bk) : Prop where
  p : OwnP base w v1 v2 cs ps
  b : OwnB base w vb bks
  a : ApartM bks

theorem OwnS.below {base : Nat} {w w' : World} {v1 v2 vb : Value} {cs ps : List Int} {bks : List Bk} (h : OwnS base w v1 v2 vb cs ps bks) (k : Below w.heap.size w w') : OwnS base w' v1 v2 vb cs ps bks := ⟨h.p.below k, h.b.below k, h.a⟩

theorem OwnS.mono {base base' : Nat} {w : World} {v1 v2 vb : Value} {cs ps : List Int} {bks : List Bk} (h : OwnS base w v1 v2 vb cs ps bks) (k : base' ≤ base) : OwnS base' w v1 v2 vb cs ps bks := ⟨h.p.mono k, h.b.mono k, h.a⟩

theorem OwnS.reads {base : Nat} {w : World} {v1 v2 vb : Value} {cs ps : List Int} {bks : List Bk} (h : OwnS base w v1 v2 vb cs ps bks) : RS w.heap.size w v1 v2 vb cs ps bks := ⟨h.p.reads, h.b.reads⟩

theorem OwnB.upto {base c : Nat} {w w' : World} {v : Value} {bs : List Bk} (h : OwnB base w v bs) (u : Upto c w w') (hc : c < base) : OwnB base w' v bs := ⟨ownsRow_upto h.row u hc, fun b hb => ownsRow_upto (h.maps b hb) u hc⟩

theorem OwnS.upto {base c : Nat} {w w' : World} {v1 v2 vb : Value} {cs ps : List Int} {bks : List Bk} (h : OwnS base w v1 v2 vb cs ps bks) (u : Upto c w w') (hc : c < base) : OwnS base w' v1 v2 vb cs ps bks := ⟨h.p.upto u hc, h.b.upto u hc, h.a⟩

theorem OwnS.forms {base : Nat} {w : World} {v1 v2 vb : Value} {cs ps : List Int} {bks : List Bk} (h : OwnS base w v1 v2 vb cs ps bks) : ∃ o1 k1 o2 k2 ob kb, v1 = .slice o1 cs.length k1 ∧ v2 = .slice o2 ps.length k2 ∧ vb = .slice ob bks.length kb := h.reads.forms

theorem pb_of_plain {bs ms : List Bk} (h : ms.map plainB = bs.map plainB) : ms.map Bk.pb = bs.map Bk.pb := by
  have := congrArg (List.map (fun x : ByteArray × Int × List (Int × Int × Int) × Bool × Int => (⟨x.1, x.2.1, x.2.2.1, x.2.2.2.1, x.2.2.2.2⟩ : Pb))) h
  simp only [List.map_map] at this
  exact this

theorem plain_all (Q : ByteArray → List (Int × Int × Int) → Prop) {bs ms : List Bk} (h : ms.map plainB = bs.map plainB) (hq : ∀ b ∈ bs, Q b.nm b.rs) : ∀ b ∈ ms, Q b.nm b.rs := fun b hb => by
  obtain ⟨j, hj, rfl⟩ := List.getElem_of_mem hb
  have hl := plain_len h
  have e := plain_at h j hj (by omega)
  have hx := hq _ (List.getElem_mem (show j < bs.length by omega))
  simp only [plainB, Prod.mk.injEq] at e
  rw [e.1, e.2.2.1]
  exact hx

set_option maxHeartbeats 1600000 in
theorem szShelf_any (v1 v2 vb : Value) (cs ps : List Int) (bks : List Bk) (left : Int) (w : World) (h0 : 0 ≤ left) (hl : left ≤ 1048576) (hn : ∀ b ∈ bks, b.nm.size ≤ maxLen) (r : RS w.heap.size w v1 v2 vb cs ps bks) :
    Calls Tryz.prog 45 #[.agg #[v1, v2, vb], .int .i64 left] w fun e w' => ∃ q : Int, e = .returned (.int .i64 q) ∧ (q = -1 ∨ (0 ≤ q ∧ q ≤ left ∧ cs.length ≤ 1048576 ∧ ps.length ≤ 1048576 ∧ bks.length ≤ 1048576 ∧ ∀ b ∈ bks, b.nm.size ≤ 1048576 ∧ b.rs.length ≤ 1048576)) ∧ Below w.heap.size w w' := by
  obtain ⟨o1, k1, o2, k2, ob, kb, rfl, rfl, rfl⟩ := r.forms
  obtain ⟨W0, hW0, k0, d0, z0⟩ := box1 w #[.slice o1 cs.length k1, .slice o2 ps.length k2, .slice ob bks.length kb] 72
  have HW0 : Hid (W0 = _) := hW0
  have r0 := (r.below d0).mono d0.size
  clear hW0 z0 r
  go_enter Tryz.func45, Tryz.ntmps45
  go_wp2_with fail
  rw [← HW0.out]
  clear HW0
  refine (szPool_any _ _ cs ps left _ h0 hl r0.p).mono ?_
  rintro e w1 ⟨q, rfl, hq, b1⟩
  replace k0 := (b1.block _ (heap_lt k0)).trans k0
  replace d0 := bw_call d0 b1
  replace r0 := (r0.below b1).mono b1.size
  clear b1
  rcases hq with rfl | ⟨hq0, hq1, hq2, hq3⟩
  · clear k0 r0
    go_wp2_with fail
    go_ret
    exact ⟨-1, rfl, .inl rfl, d0⟩
  have p2 := at_cell k0 2
  go_wp2_with fail
  clear p2
  refine (szBooks_any _ bks q _ hq0 (by omega) hn r0.b).mono ?_
  rintro e w2 ⟨q', rfl, hq', b2⟩
  replace d0 := bw_call d0 b2
  clear b2 k0 r0
  rcases hq' with rfl | ⟨h1, h2, h3, h4⟩
  · go_wp2_with fail
    go_ret
    exact ⟨-1, rfl, .inl rfl, d0⟩
  have H4 : Hid _ := h4
  clear h4
  go_wp2_with fail
  go_ret
  exact ⟨q', rfl, .inr ⟨h1, by omega, hq2, hq3, h3, H4.out⟩, d0⟩

set_option maxHeartbeats 3200000 in
theorem toShelf_any (v1 v2 vb : Value) (cs ps : List Int) (bks : List Bk) (w : World) (hc : cs.length ≤ 1048576) (hp : ps.length ≤ 1048576) (hb : bks.length ≤ 1048576) (hr : ∀ b ∈ bks, b.rs.length ≤ 1048576) (r : RS w.heap.size w v1 v2 vb cs ps bks) :
    Calls Tryz.prog 47 #[.agg #[v1, v2, vb]] w fun e w' => ∃ (u1 u2 ub : Value) (ms : List Bk), e = .returned (.agg #[u1, u2, ub]) ∧ ms.map plainB = bks.map plainB ∧ OwnS w.heap.size w' u1 u2 ub cs ps ms ∧ Below w.heap.size w w' := by
  obtain ⟨o1, k1, o2, k2, ob, kb, rfl, rfl, rfl⟩ := r.forms
  obtain ⟨W0, hW0, kA, kR, kO, d0, z0⟩ := box3 w #[.slice o1 cs.length k1, .slice o2 ps.length k2, .slice ob bks.length kb] #[.slice none 0 0, .slice none 0 0, .slice none 0 0] #[.slice none 0 0, .slice none 0 0, .slice none 0 0] 72 29 29
  have HW0 : Hid (W0 = _) := hW0
  have HR : Hid _ := hr
  have r0 := (r.below d0)
  have z0a : w.heap.size + 1 + 1 + 1 ≤ W0.heap.size := by omega
  clear hW0 z0 r hr
  go_enter Tryz.func47, Tryz.ntmps47
  go_wp2_with fail
  rw [← HW0.out]
  clear HW0
  refine (toPool_any _ _ cs ps _ hc hp (r0.p.mono (by omega))).mono ?_
  rintro e w1 ⟨u1, u2, rfl, own1, b1⟩
  obtain ⟨q1, c1, q2, c2, e1, e2⟩ := own1.forms
  subst e1 e2
  replace kA := (b1.block _ (by omega)).trans kA
  replace kR := (b1.block _ (by omega)).trans kR
  replace kO := (b1.block _ (by omega)).trans kO
  have z1 := b1.size
  replace d0 := bw_call d0 b1
  replace r0 := r0.below (b1.mono (by omega))
  have c0 := at_cell kO 0
  have c0' := at_cell kO 1
  have f0 := at_open kO 0
  have f0' := at_open kO 1
  have u : Upto (w.heap.size + 1 + 1) w1 ((w1.setCell ⟨w.heap.size + 1 + 1, 0, none⟩ (.slice q1 cs.length c1)).setCell ⟨w.heap.size + 1 + 1, 1, none⟩ (.slice q2 ps.length c2)) := ((Upto.refl _ _).setCell ⟨w.heap.size + 1 + 1, 0, none⟩ (.inl rfl) _).setCell ⟨w.heap.size + 1 + 1, 1, none⟩ (.inl rfl) _
  replace kO := set_at (set_at kO 0 (.slice q1 cs.length c1)) 1 (.slice q2 ps.length c2)
  replace kA := (u.block _ (by omega) (by omega)).trans kA
  replace kR := (u.block _ (by omega) (by omega)).trans kR
  replace own1 := own1.upto u (by omega)
  replace d0 := d0.trans (u.toBelow (by omega) (by omega))
  replace r0 := r0.below (u.toBelow (by omega) (by omega))
  have z2 := u.size
  have p1 := at_cell kA 2
  clear b1 u
  go_wp2_with fail
  generalize (w1.setCell ⟨w.heap.size + 1 + 1, 0, none⟩ (.slice q1 cs.length c1)).setCell ⟨w.heap.size + 1 + 1, 1, none⟩ (.slice q2 ps.length c2) = w2 at *
  clear f0 c0 f0' c0' p1
  refine (toBooksA_any _ bks _ hb HR.out (r0.b.mono (by omega))).mono ?_
  rintro e w3 ⟨ms, rfl, hpl, ownB, apa, b3⟩
  replace kR := (b3.block _ (by omega)).trans kR
  replace kO := (b3.block _ (by omega)).trans kO
  replace own1 := own1.below b3
  have z3 := b3.size
  replace d0 := bw_call d0 b3
  have c0 := at_cell kO 0
  have c1' := at_cell kO 1
  have c2' := at_cell kO 2
  have f2' := at_open kO 2
  have u : Upto (w.heap.size + 1 + 1) w3 (w3.setCell ⟨w.heap.size + 1 + 1, 2, none⟩ (.slice (some ⟨w2.heap.size, 0, none⟩) bks.length bks.length)) := (Upto.refl _ _).setCell ⟨w.heap.size + 1 + 1, 2, none⟩ (.inl rfl) _
  replace kO := set_at kO 2 (.slice (some ⟨w2.heap.size, 0, none⟩) bks.length bks.length)
  replace kR := (u.block _ (by omega) (by omega)).trans kR
  replace own1 := own1.upto u (by omega)
  replace ownB := ownB.upto u (by omega)
  replace d0 := d0.trans (u.toBelow (by omega) (by omega))
  have z4 := u.size
  have q0 := at_cell kR 0
  have q1' := at_cell kR 1
  have q2' := at_cell kR 2
  have g0 := at_open kR 0
  have g1 := at_open kR 1
  have g2 := at_open kR 2
  have a0 := at_cell kO 0
  have a1 := at_cell kO 1
  have a2 := at_cell kO 2
  have kE := set_at (set_at (set_at kR 0 (.slice q1 cs.length c1)) 1 (.slice q2 ps.length c2)) 2 (.slice (some ⟨w2.heap.size, 0, none⟩) bks.length bks.length)
  have uE : ∀ X : World, Upto (w.heap.size + 1) X (((X.setCell ⟨w.heap.size + 1, 0, none⟩ (.slice q1 cs.length c1)).setCell ⟨w.heap.size + 1, 1, none⟩ (.slice q2 ps.length c2)).setCell ⟨w.heap.size + 1, 2, none⟩ (.slice (some ⟨w2.heap.size, 0, none⟩) bks.length bks.length)) := fun X => (((Upto.refl _ _).setCell ⟨w.heap.size + 1, 0, none⟩ (.inl rfl) _).setCell ⟨w.heap.size + 1, 1, none⟩ (.inl rfl) _).setCell ⟨w.heap.size + 1, 2, none⟩ (.inl rfl) _
  have HS : Hid _ := And.intro kE (And.intro ((own1.upto (uE _) (by omega)).mono (show w.heap.size ≤ W0.heap.size by omega)) (And.intro ((ownB.upto (uE _) (by omega)).mono (show w.heap.size ≤ w2.heap.size by omega)) (d0.trans ((uE _).toBelow (by omega) (by omega)))))
  have HPL : Hid _ := hpl
  have HAP : Hid _ := apa
  clear b3 u kE uE kR kO kA own1 ownB d0 r0 hpl apa
  go_wp2_with fail
  exact bodyPost_ret (v := .agg #[.slice q1 cs.length c1, .slice q2 ps.length c2, .slice (some ⟨w2.heap.size, 0, none⟩) bks.length bks.length]) (by simp [results, Tryz.results47, go_sem, at_cell HS.out.1]) rfl ⟨_, _, _, ms, rfl, HPL.out, ⟨HS.out.2.1, HS.out.2.2.1, HAP.out⟩, HS.out.2.2.2⟩

set_option maxHeartbeats 1600000 in
theorem eqShelf_same (v1 v2 vb x1 x2 xb : Value) (cs ps : List Int) (bks ms : List Bk) (w : World) (hp : ms.map plainB = bks.map plainB) (r : RS w.heap.size w v1 v2 vb cs ps bks) (r' : RS w.heap.size w x1 x2 xb cs ps ms) :
    Calls Tryz.prog 49 #[.agg #[v1, v2, vb], .agg #[x1, x2, xb]] w fun e w' => e = .returned (.bool true) ∧ Below w.heap.size w w' := by
  obtain ⟨o1, k1, o2, k2, ob, kb, rfl, rfl, rfl⟩ := r.forms
  obtain ⟨o3, k3, o4, k4, oc, kc, rfl, rfl, rfl⟩ := r'.forms
  obtain ⟨W0, hW0, kA, kB, d0, z0⟩ := box2 w #[.slice o1 cs.length k1, .slice o2 ps.length k2, .slice ob bks.length kb] #[.slice o3 cs.length k3, .slice o4 ps.length k4, .slice oc ms.length kc] 29 29
  have HW0 : Hid (W0 = _) := hW0
  have HP : Hid _ := hp
  have r0 := (r.below d0).mono d0.size
  have r1 := (r'.below d0).mono d0.size
  clear hW0 z0 r r' hp
  go_enter Tryz.func49, Tryz.ntmps49
  go_wp2_with fail
  rw [← HW0.out]
  clear HW0
  refine (eqPool_any _ _ _ _ cs ps cs ps _ r0.p r1.p).mono ?_
  rintro e w1 ⟨rfl, b1⟩
  replace kA := (b1.block _ (heap_lt kA)).trans kA
  replace kB := (b1.block _ (heap_lt kB)).trans kB
  replace d0 := bw_call d0 b1
  replace r0 := (r0.below b1).mono b1.size
  replace r1 := (r1.below b1).mono b1.size
  clear b1
  have e1 : (decide (cs = cs) && decide (ps = ps)) = true := by simp
  have pA := at_cell kA 2
  have pB := at_cell kB 2
  go_wp2_with fail
  clear pA pB
  refine (eqBooks_same _ _ bks ms _ HP.out r0.b r1.b).mono ?_
  rintro e w2 ⟨rfl, b2⟩
  replace d0 := bw_call d0 b2
  clear b2 kA kB r0 r1
  go_wp2_with fail
  go_ret
  exact ⟨rfl, d0⟩
end Go.Proofs.YtaekdfknkgmfbaaGreatDoor

namespace Go.Proofs.YtaekdfknkgmfbaaGreatDoor
open Go.ChangeShapes Go.WideShapes Go.ChangeAt Go.RowKit Go.Deep Go.Joins

set_option linter.unusedVariables false

set_option maxRecDepth 100000


theorem row_books {H : Type} {enc : TypeId × Value → H} {W : World} {n : Nat} {v : Value} {y : DataW H × List MemPlace} (h : DataW.trod enc Tryz.prog W 0 (fun _ => true) true n 70 [v] = some y) :
    ∃ bs : List Bk, ReadsB W.heap.size W v bs ∧ ∀ b ∈ bs, FitRuns b.rs ∧ b.nm.size ≤ maxLen := by
  rcases open_slice Tryz.underlying70 h with ⟨hcs, _⟩ | ⟨a, len, cap, m, k, D, Pl, hcs, _, hl, hm, hmm, _, hx⟩
  · simp at hcs
    subst hcs
    exact ⟨[], ⟨ReadsR.nil _ _ _ _, fun b hb => by cases hb⟩, fun b hb => by cases hb⟩
  · simp at hcs
    subst hcs
    have hlm : len ≤ m := by rw [hmm]; split <;> omega
    have ce : Tryz.prog.cellsOf 190 = 5 := by kernel_rfl
    have each : ∀ i, i < len → ∃ b : Bk, (∀ j u, (bookC b)[j]? = some u → W.cell? (a.add (i * 5 + j)) = some u) ∧ ReadsR 3 runC W.heap.size W b.m b.rs ∧ FitRuns b.rs ∧ b.nm.size ≤ maxLen := by
      intro i hi
      obtain ⟨cs', h1, h2⟩ := hx i (by omega)
      rw [ce] at h1
      obtain ⟨_, hlen, hcell⟩ := World.cells?_some h1
      obtain ⟨b, rfl, hr, hfit, hnn, -, -⟩ := book_cells h2
      refine ⟨b, fun j u hj => ?_, hr, hfit, hnn⟩
      have hj5 : j < 5 := by have := (List.getElem?_eq_some_iff.1 hj).1; rwa [bookC_len] at this
      have q := hcell j hj5
      rw [add_add] at q
      rw [q]
      exact hj
    have hin : Inhabited Bk := ⟨⟨ByteArray.empty, 0, .slice none 0 0, [], false, 0⟩⟩
    obtain ⟨r, hr⟩ := choose_lt each
    have hmem : ∀ x ∈ (List.range len).map r, ReadsR 3 runC W.heap.size W x.m x.rs ∧ FitRuns x.rs ∧ x.nm.size ≤ maxLen := fun x hx => by
      obtain ⟨i, hi, rfl⟩ := List.mem_map.1 hx
      exact (hr i (List.mem_range.1 hi)).2
    refine ⟨(List.range len).map r, ⟨⟨some a, cap, by simp, by simp; omega, fun i x hi => ?_, by simp; omega⟩, fun b hb => (hmem b hb).1⟩, fun b hb => (hmem b hb).2⟩
    have hil : i < len := by have := (List.getElem?_eq_some_iff.1 hi).1; simpa using this
    have ex : r i = x := by
      rw [List.getElem?_map, List.getElem?_range hil] at hi
      simpa using hi
    have h0 := (hr i hil).1
    rw [ex] at h0
    obtain ⟨b, off, spot⟩ := a
    have hspot : spot = none := by simpa [Addr.add] using World.cell?_spot ((hr 0 (by omega)).1 0 _ rfl)
    subst hspot
    have e : ∀ z, (⟨b, off, none⟩ : Addr).add z = ⟨b, off + z, none⟩ := fun z => by unfold Addr.add; split <;> simp_all
    have hb : b < W.heap.size := by
      have q := h0 0 _ rfl
      rw [e] at q
      rcases Nat.lt_or_ge b W.heap.size with g | g
      · exact g
      · simp [World.cell?, Array.getElem?_eq_none g] at q
    refine ⟨b, off, rfl, hb, fun j u hj => ?_⟩
    have q := h0 j u hj
    rw [e] at q
    rw [Nat.add_assoc]
    exact q

theorem list3 {α : Type} {cs : List α} (h : cs.length = 3) : ∃ c0 c1 c2, cs = [c0, c1, c2] := by
  match cs, h with
  | [c0, c1, c2], _ => exact ⟨c0, c1, c2, rfl⟩

theorem list2 {α : Type} {cs : List α} (h : cs.length = 2) : ∃ c0 c1, cs = [c0, c1] := by
  match cs, h with
  | [c0, c1], _ => exact ⟨c0, c1, rfl⟩

theorem open_shelf {H : Type} {enc : TypeId × Value → H} {W : World} {base : Nat} {v : Value} {d : DataW H} {p : List MemPlace} (hv : Value.okWide Tryz.prog W .any base 72 v) (h : DataW.Trod enc Tryz.prog W 0 (fun _ => true) true 72 v d p) :
    ∃ (v1 v2 vb : Value) (cs ps : List Int) (bks : List Bk), v = .agg #[v1, v2, vb] ∧ RS W.heap.size W v1 v2 vb cs ps bks ∧ ∀ b ∈ bks, FitRuns b.rs ∧ b.nm.size ≤ maxLen := by
  obtain ⟨cs, rfl, hsz⟩ := okWide_struct Tryz.underlying72 hv
  obtain ⟨fuel, hf0⟩ := h
  have ce : Tryz.prog.cellsOf 72 = 3 := by kernel_rfl
  have cp : Tryz.prog.cellsOf 69 = 2 := by kernel_rfl
  have c1 : Tryz.prog.cellsOf 24 = 1 := by kernel_rfl
  have c4 : Tryz.prog.cellsOf 70 = 1 := by kernel_rfl
  obtain ⟨xs, m, _, -, hl, hlen, hf⟩ := DataW.trod_struct Tryz.underlying72 hf0
  obtain ⟨v0, v1, v2, e3⟩ := list3 (hl.trans ce)
  rw [e3] at hf
  obtain ⟨y0, y1, rfl⟩ := list2 (show xs.length = 2 from hlen)
  have t0 := hf 0 _ rfl
  have t1 := hf 1 _ rfl
  simp [cp, c4] at t0 t1
  obtain ⟨xs', m', _, -, hl', hlen', hf'⟩ := DataW.trod_struct Tryz.underlying69 t0
  obtain ⟨z0, z1, rfl⟩ := list2 (show xs'.length = 2 from hlen')
  have s0 := hf' 0 _ rfl
  have s1 := hf' 1 _ rfl
  simp [c1] at s0 s1
  obtain ⟨ics, r1, _⟩ := row_i64 s0
  obtain ⟨ips, r2, _⟩ := row_i64 s1
  obtain ⟨bks, r3, hb⟩ := row_books t1
  refine ⟨v0, v1, v2, ics, ips, bks, ?_, ⟨⟨r1, r2⟩, r3⟩, hb⟩
  have e4 : cs.toList = [v0, v1, v2] := by simpa [Value.cells] using e3
  rw [show cs = #[v0, v1, v2] by rw [← Array.toArray_toList (xs := cs), e4]]
end Go.Proofs.YtaekdfknkgmfbaaGreatDoor

namespace Go.Proofs.YtaekdfknkgmfbaaGreatDoor
open Go.RowKit

set_option linter.unusedVariables false

/-- Another book's map lies in another block. -/
theorem apart_at {bs : List Bk} (h : ApartM bs) (i j : Nat) (hi : i < bs.length) (hj : j < bs.length) (hne : i ≠ j) (g : Nat) (hg : bs[i].m.ownBlock = some g) : bs[j].m.ownBlock ≠ some g := by
  rcases Nat.lt_or_gt_of_ne hne with q | q
  · exact (List.pairwise_iff_getElem.1 h i j hi hj q) g hg
  · exact fun hx => (List.pairwise_iff_getElem.1 h j i hj hi q) g hx hg

/-- Cells of a row of books are written: the maps stay. -/
theorem maps_book {w w' : World} {base g n cap : Nat} {xs : List Bk} (h : w.ownsRow base 48 5 (.slice (some ⟨g, 0, none⟩) n cap) xs.length (xs.flatMap bookC)) (u : Upto g w w') {v : Value} {k : Nat} {ys : List Value} (hm : w.ownsRow base 112 3 v k ys) : w'.ownsRow base 112 3 v k ys := by
  obtain ⟨cur, hcur⟩ : ∃ cur, w.heap[g]? = some (.cells cur 48 (0, 0)) := by
    rcases h.2 with ⟨e, _⟩ | ⟨g', cap', cur, e, _, hh, _⟩
    · simp at e
    · simp only [Value.slice.injEq, Option.some.injEq, Addr.mk.injEq, and_true] at e
      obtain ⟨rfl, _⟩ := e
      exact ⟨cur, hh⟩
  exact own_rng_not hm (fun q hq hqv => u.block q hq (fun hx => own_not_box hm hcur (by decide) (by rw [← hx]; exact hqv)))
end Go.Proofs.YtaekdfknkgmfbaaGreatDoor

namespace Go.Proofs.YtaekdfknkgmfbaaGreatDoor
open Go.RowKit

set_option linter.unusedVariables false

set_option maxRecDepth 100000

/-- A row of one type stays where rows of another type are written. -/
theorem own_apart {w : World} {base base' : Nat} {e e' : TypeId} {k k' n n' : Nat} {v v' : Value} {xs ys : List Value} (h : w.ownsRow base e k v n xs) (h' : w.ownsRow base' e' k' v' n' ys) (hne : e' ≠ e) (g : Nat) (hg : v'.ownBlock = some g) : v.ownBlock ≠ some g := by
  rcases h'.2 with ⟨rfl, _⟩ | ⟨g', cap', cur, rfl, _, hh, _⟩
  · simp [Value.ownBlock] at hg
  · simp [Value.ownBlock] at hg
    subst hg
    exact own_not_box h hh hne

/-- Only what is of the pool's type is written: the books stay. -/
theorem OwnB.pooled {lo base : Nat} {w w' : World} {v1 v2 vb : Value} {cs ps : List Int} {bks : List Bk} (h : OwnB base w vb bks) (p : OwnP lo w v1 v2 cs ps) (k : ∀ i, i < w.heap.size → v1.ownBlock ≠ some i → v2.ownBlock ≠ some i → w'.heap[i]? = w.heap[i]?) : OwnB base w' vb bks := by
  have st : ∀ (e : TypeId) (kk n : Nat) (v : Value) (xs : List Value), 2 ≠ e → w.ownsRow base e kk v n xs → w'.ownsRow base e kk v n xs := fun e kk n v xs he hr =>
    own_rng_not hr (fun q hq hqv => k q hq (fun hx => own_apart hr p.c he q hx hqv) (fun hx => own_apart hr p.p he q hx hqv))
  exact ⟨st _ _ _ _ _ (by decide) h.row, fun b hb => st _ _ _ _ _ (by decide) (h.maps b hb)⟩
end Go.Proofs.YtaekdfknkgmfbaaGreatDoor

namespace Go.Proofs.YtaekdfknkgmfbaaGreatDoor
open Go.RowKit

set_option linter.unusedVariables false


theorem cell_i64 {B : Nat} {w : World} {o : Option Addr} {xs : List Int} (hc : ∀ j u, (xs.map (Value.int .i64))[j]? = some u → ∃ g off, o = some ⟨g, off, none⟩ ∧ g < B ∧ w.cell? ⟨g, off + j, none⟩ = some u) (j : Nat) (hj : j < xs.length) : ∃ g off, o = some ⟨g, off, none⟩ ∧ g < B ∧ w.cell? ⟨g, off + j, none⟩ = some (.int .i64 (xs.getD j 0)) := hc j _ (getD_some xs j hj)

/-- A count more. -/
theorem row24_inc {w : World} {base g : Nat} {f : Nat → Int} (h : w.ownsRow base 2 1 (.slice (some ⟨g, 0, none⟩) 24 24) 24 ((row24 f).map (Value.int .i64))) (m : Nat) (hm : m < 24) :
    w.cell? ⟨g, m, none⟩ = some (.int .i64 (f m)) ∧ w.frozen? ⟨g, m, none⟩ = false ∧ (w.setCell ⟨g, m, none⟩ (.int .i64 (f m + 1))).ownsRow base 2 1 (.slice (some ⟨g, 0, none⟩) 24 24) 24 ((row24 (fun k => if m = k then f m + 1 else f k)).map (Value.int .i64)) := by
  refine ⟨?_, h.frozenAt m, ?_⟩
  · rw [h.cellAt m (by omega), getD_some _ m (by rw [row24_length]; exact hm), row24_get f m hm]
  · have := (h.stored m (.int .i64 (f m + 1))).1
    rwa [← List.map_set, row24_set f m hm] at this

set_option maxRecDepth 100000 in
set_option maxHeartbeats 6400000 in
theorem specShelfOk_any (v1 v2 vb : Value) (cs ps : List Int) (bks : List Bk) (w : World) (hn : ∀ b ∈ bks, b.nm.size ≤ maxLen) (r1 : Reads w.heap.size w v1 (cs.map (Value.int .i64))) (r2 : Reads w.heap.size w v2 (ps.map (Value.int .i64))) (rb : ReadsB w.heap.size w vb bks) :
    Calls Tryz.prog 20 #[.agg #[v1, v2, vb]] w fun e w' => e = .returned (.bool (shelfOk ⟨cs, ps, bks.map Bk.pb⟩)) ∧ Below w.heap.size w w' := by
  obtain ⟨W0, hW0, k0, d0, z0⟩ := box1 w #[v1, v2, vb] 29
  have s1 := (r1.below d0).mono d0.size
  have s2 := (r2.below d0).mono d0.size
  have sb := (rb.below d0).mono d0.size
  have HW0 : Hid (W0 = _) := hW0
  have HN : Hid _ := hn
  have l0 := heap_lt k0
  obtain ⟨o1, cp1, f1, m1, -, -⟩ := s1
  obtain ⟨o2, cp2, f2, m2, -, -⟩ := s2
  obtain ⟨ob, cpb, f3, mb, -, -⟩ := sb.row
  simp only [List.length_map] at f1 f2 m1
  subst f1 f2 f3
  have s1 := (r1.below d0).mono d0.size
  have s2 := (r2.below d0).mono d0.size
  unfold maxLen at mb m1
  clear hW0 z0 r1 r2 rb hn
  go_enter Tryz.func20, Tryz.ntmps20
  go_wp2_with fail
  rw [← HW0.out]
  clear HW0
  refine (specPoolOk_any _ _ cs ps _ s1 s2).mono ?_
  rintro e w1 ⟨rfl, b1⟩
  replace k0 := (b1.block _ l0).trans k0
  replace d0 := bw_call d0 b1
  replace s1 := (s1.below b1).mono b1.size
  replace sb := (sb.below b1).mono b1.size
  replace l0 := Nat.lt_of_lt_of_le l0 b1.size
  clear b1 s2
  have p2 := at_cell k0 2
  cases hpo : poolOk cs ps
  · have HV : Hid _ := shelf_no_pool ⟨cs, ps, bks.map Bk.pb⟩ hpo
    clear hpo k0
    go_wp2_with fail
    go_ret
    exact ⟨ret_bool HV.out.symm, d0⟩
  have HPO : Hid _ := hpo
  clear hpo
  by_cases hmany : 6 < bks.length
  · have HV : Hid _ := shelf_no_many ⟨cs, ps, bks.map Bk.pb⟩ (by simpa using hmany)
    have h6 : (6 : Int) < (bks.length : Int) := by omega
    clear k0
    go_wp2_with fail
    go_ret
    exact ⟨ret_bool HV.out.symm, d0⟩
  have h6 : ¬ (6 : Int) < (bks.length : Int) := by omega
  obtain ⟨M, -, hmk, hown⟩ := made_ints 24 (by omega)
  have own0 := hown w1 w1.heap.size (Nat.le_refl _)
  have bd0 : Below w1.heap.size w1 (w1.alloc (.cells M 2)) := bw_alloc (Below.refl _ _)
  rw [row24_zero] at own0
  have e24 : ((24 : Nat) : Int) = 24 := rfl
  rw [e24] at hmk
  clear hown e24
  go_wp2_with fail
  generalize w1.alloc (.cells M 2) = WM at *
  clear hmk p2
  obtain ⟨bs, hbs⟩ : ∃ bs, bks.map Bk.pb = bs := ⟨_, rfl⟩
  have hbl : bs.length = bks.length := by rw [← hbs, List.length_map]
  have HAT : Hid (∀ (i : Nat) (h1 : i < bks.length) (h2 : i < bs.length), bs[i] = bks[i].pb) := fun i h1 h2 => by subst hbs; simp
  have HBS : Hid _ := hbs
  have HBL : Hid (bs.length = bks.length) := hbl
  obtain ⟨ob', cpb', eb, -, cb, -⟩ := sb.row
  cases eb
  have CB : Hid _ := five_cells cb
  have RM : Hid _ := sb.maps
  have d1 : Below w.heap.size w WM := bw_call d0 bd0
  clear cb hbs
  go_loopw [4] (fun i wr => ∃ q : Nat, q ≤ bks.length ∧ i = .int .i64 q ∧ (∀ j (hj : j < bs.length), j < q → bs[j].ok = true) ∧ (∀ j (hj : j + 1 < bs.length), j + 1 < q → ltB (bs[j]'(by omega)).nm bs[j + 1].nm = true) ∧ wr.ownsRow w1.heap.size 2 1 (.slice (some ⟨w1.heap.size, 0, none⟩) 24 24) 24 ((row24 (fun k => cntAll (bs.take q) (k : Int))).map (Value.int .i64)) ∧ Below w1.heap.size w1 wr) (fun i _ => bks.length - (intOf i).toNat)
  case atStart => exact ⟨0, Nat.zero_le _, rfl, fun j _ h => by omega, fun j _ h => by omega, own0, bd0⟩
  case round =>
    clear own0 bd0 d1
    obtain ⟨q, hq, rfl, hoks, hsrt, own, hb⟩ := hrel
    have HOKS : Hid _ := hoks
    have HSRT : Hid _ := hsrt
    have kq := (hb.block _ l0).trans k0
    have dq := bw_call d0 hb
    have lq : w.heap.size < wr.heap.size := Nat.lt_of_lt_of_le l0 hb.size
    clear hoks hsrt
    by_cases hlt : q < bks.length
    · obtain ⟨g, off, rfl, hg, a0, a1, a2, a3, a4⟩ := CB.out q hlt
      have hltb : q < bs.length := by have := HBL.out; omega
      have rm := (RM.out bks[q] (List.getElem_mem hlt)).below hb
      have hnm := HN.out bks[q] (List.getElem_mem hlt)
      have hat := HAT.out q hlt hltb
      have HPREV : Hid (∀ q', q = q' + 1 → ∃ (h : q' < bs.length), wr.cell? ⟨g, off + q' * 5, none⟩ = some (.string bs[q'].nm)) := fun q' e => by
        have hl' : q' < bks.length := by omega
        obtain ⟨g', off', e', hg', c0, -⟩ := CB.out q' hl'
        cases e'
        have hl2 : q' < bs.length := by have := HBL.out; omega
        refine ⟨hl2, ?_⟩
        rw [HAT.out q' hl' hl2]
        exact (hb.cell (p := ⟨g, off + q' * 5, none⟩) hg).trans c0
      obtain ⟨x, hx⟩ : ∃ x, bks[q] = x := ⟨_, rfl⟩
      rw [hx] at a0 a1 a2 a3 a4 rm hnm hat
      clear hx
      obtain ⟨nm, sz, m, rs, fx, ep⟩ := x
      simp only at a0 a1 a2 a3 a4 rm hnm
      obtain ⟨o', cap', hm'⟩ := rm.form
      subst hm'
      have lg : g < wr.heap.size := Nat.lt_of_lt_of_le hg hb.size
      have hne := BelowOf.any wr
      have c0 := BelowOf.cell ((hb.cell (p := ⟨g, off + q * 5, none⟩) hg).trans a0) lg
      have c1 := BelowOf.cell ((hb.cell (p := ⟨g, off + q * 5 + 1, none⟩) hg).trans a1) lg
      have c2 := BelowOf.cell ((hb.cell (p := ⟨g, off + q * 5 + 2, none⟩) hg).trans a2) lg
      have c3 := BelowOf.cell ((hb.cell (p := ⟨g, off + q * 5 + 3, none⟩) hg).trans a3) lg
      have c4 := BelowOf.cell ((hb.cell (p := ⟨g, off + q * 5 + 4, none⟩) hg).trans a4) lg
      have cB := BelowOf.cell (v := .slice (some ⟨g, off, none⟩) bks.length cpb) (at_cell kq 2) lq
      obtain ⟨okv, hok⟩ : ∃ x, bookOk nm sz rs ep = x := ⟨_, rfl⟩
      have HOK : Hid (bookOk nm sz rs ep = okv) := hok
      have HBO : Hid (bs[q].ok = okv) := by rw [Hid, hat]; exact hok
      have HBN : Hid (bs[q].nm = nm ∧ bs[q].rs = rs) := by rw [Hid, hat]; exact ⟨rfl, rfl⟩
      have H52 : ∀ z : BelowOf wr, Calls Tryz.prog 75 #[.agg #[.string nm, .int .i64 sz, .slice o' rs.length cap', .bool fx, .int .i64 ep]] z.w' fun e w' => e = .returned (.bool okv) ∧ Below z.w'.heap.size z.w' w' := fun z => by have h := specBookOk_any nm sz _ rs fx ep z.w' hnm (rm.of hb.size z); rwa [HOK.out] at h
      have i0 : (0 : Int) ≤ (q : Int) := by omega
      have i1 : (q : Int) < (bks.length : Int) := by omega
      have pB := at_cell kq 2
      clear hok hat a0 a1 a2 a3 a4
      go_upto_region 7 with fail
      clear pB
      go_cut [52] (fun v wx => ∃ y : Bool, v = .bool y ∧ (y = true → shelfOk ⟨cs, ps, bs⟩ = false) ∧ (y = false → okv = true ∧ ∀ q', q = q' + 1 → ∀ (h : q' < bs.length), ltB bs[q'].nm nm = true) ∧ Below wr.heap.size wr wx)
      case first =>
        cases okv
        · have HV : Hid _ := shelf_no_book ⟨cs, ps, bs⟩ q hltb HBO.out
          refine wp_region_of (by kernel_rfl) (by kernel_rfl) ?_
          repeat (go_big_quiet_step ((first | (go_at_call 75; exact calls_of (H52 _)) | rfl)))
          refine wpQuiet_nil ?_
          intro w5 hw5
          obtain ⟨⟨wx, cx⟩, hwx⟩ := hw5
          have b5 : Below wr.heap.size wr w5 := by rw [hwx]; exact cx
          clear hwx cx wx
          go_wp2_with fail
          go_meet
          exact ⟨true, rfl, fun _ => HV.out, (fun h => by cases h), b5⟩
        · rcases Nat.eq_zero_or_pos q with hq0 | hqp
          · have j2 : decide (0 < q) = false := decide_eq_false (by omega)
            have HQ0 : Hid (q = 0) := hq0
            clear hq0
            refine wp_region_of (by kernel_rfl) (by kernel_rfl) ?_
            repeat (go_big_quiet_step ((first | (go_at_call 75; exact calls_of (H52 _)) | rfl)))
            refine wpQuiet_nil ?_
            intro w5 hw5
            obtain ⟨⟨wx, cx⟩, hwx⟩ := hw5
            have b5 : Below wr.heap.size wr w5 := by rw [hwx]; exact cx
            clear hwx cx wx
            go_wp2_with fail
            go_meet
            exact ⟨false, rfl, (fun h => by cases h), (fun _ => ⟨by first | rfl | trivial, fun q' h => by have := HQ0.out; omega⟩), b5⟩
          · obtain ⟨q', hqq⟩ : ∃ q', q = q' + 1 := ⟨q - 1, by omega⟩
            have HQQ : Hid (q = q' + 1) := hqq
            obtain ⟨hl2, cp⟩ := HPREV.out q' hqq
            have cP := BelowOf.cell cp lg
            obtain ⟨pn, hpn⟩ : ∃ x, bs[q'].nm = x := ⟨_, rfl⟩
            have HPN : Hid (bs[q'].nm = pn) := hpn
            rw [hpn] at cP
            have hw1 : IntKind.i64.wrap ((q : Int) - 1) = q' := by rw [IntKind.wrap_i64]; omega
            have hw2 : (q : Int) - 1 = q' := by omega
            have hw3 : IntKind.i64.wrap (q' : Int) = q' := by rw [IntKind.wrap_i64]; omega
            have j0 : (0 : Int) ≤ (q' : Int) := by omega
            have j1 : (q' : Int) < (bks.length : Int) := by omega
            have j2 : decide (0 < q) = true := decide_eq_true (by omega)
            have HGT : Hid (ltB pn nm = !(ltB nm pn || (nm.toList == pn.toList))) := ltB_gt pn nm
            obtain ⟨ly, hly⟩ : ∃ y, Op.bytesLess nm.toList pn.toList = y := ⟨_, rfl⟩
            obtain ⟨ey, hey⟩ : ∃ y, (nm.toList == pn.toList) = y := ⟨_, rfl⟩
            have HLY : Hid (ltB nm pn = ly ∧ (nm.toList == pn.toList) = ey) := ⟨hly, hey⟩
            clear hpn cp hqq hqp
            refine wp_region_of (by kernel_rfl) (by kernel_rfl) ?_
            repeat (go_big_quiet_step ((first | (go_at_call 75; exact calls_of (H52 _)) | rfl)))
            refine wpQuiet_nil ?_
            intro w5 hw5
            obtain ⟨⟨wx, cx⟩, hwx⟩ := hw5
            have b5 : Below wr.heap.size wr w5 := by rw [hwx]; exact cx
            clear hwx cx wx
            go_wp2_with fail
            go_meet
            refine ⟨(ly || ey), rfl, fun h => ?_, fun h => ⟨by first | rfl | trivial, fun q'' e hh => ?_⟩, b5⟩
            · have hf : ltB pn nm = false := by rw [HGT.out, HLY.out.1, HLY.out.2, h]; rfl
              have hq1 := HQQ.out
              subst hq1
              exact shelf_no_order ⟨cs, ps, bs⟩ q' hltb (by simp only; rw [HPN.out, HBN.out.1]; exact hf)
            · obtain rfl : q'' = q' := by have := HQQ.out; omega
              rw [HPN.out, HGT.out, HLY.out.1, HLY.out.2, h]; rfl
      case rest =>
        obtain ⟨y, rfl, hy1, hy2, b5⟩ := hcut
        have kc := (b5.block _ lq).trans kq
        have dc := bw_call dq b5
        have ownc := owns_below own b5
        have pB := at_cell kc 2
        have c2' := c2 ⟨wc, b5⟩
        simp only at c2'
        have rmc := rm.of hb.size ⟨wc, b5⟩
        simp only at rmc
        have hbc := bw_call hb b5
        clear c0 c1 c2 c3 c4 cB H52 hne HPREV own
        cases y
        · obtain ⟨hokv, hord⟩ := hy2 rfl
          have HORD : Hid _ := hord
          have hok2 : bookOk nm sz rs ep = true := HOK.out.trans hokv
          have HMP : Hid (mapOk rs = true) := (book_parts (b := ⟨nm, sz, rs, fx, ep⟩) hok2).2.2.2.1
          have HBQ : Hid (bs[q].ok = true) := HBO.out.trans hokv
          clear hy1 hy2 hord hok2 hokv HOK HBO
          go_wp2_with fail
          clear pB c2'
          refine (l5Of_any _ rs _ HMP.out rmc).mono ?_
          rintro e w6 ⟨v', rfl, own6, hnn, b6⟩
          have HPI : Hid (∀ p ∈ (pages rs).filter (fun p => decide (0 ≤ p)), 0 ≤ p ∧ p ≤ 23) := fun p hp => pagesOf_in rs HMP.out p (by rw [pagesOf, if_pos HMP.out]; exact hp)
          have HCN : Hid (∀ k : Nat, (((pages rs).filter (fun p => decide (0 ≤ p))).count (k : Int) : Int) = bs[q].cnt (k : Int)) := fun k => by
            have := pagesOf_cnt bs[q] HBQ.out k
            rw [HBN.out.2, pagesOf, if_pos HMP.out] at this
            exact this
          have hLl : ((pages rs).filter (fun p => decide (0 ≤ p))).length ≤ 16 := by
            have := List.length_filter_le (fun p => decide (0 ≤ p)) (pages rs)
            rw [pages_length] at this
            exact this
          generalize (pages rs).filter (fun p => decide (0 ≤ p)) = L at *
          obtain ⟨g6, cap6, hv6⟩ : ∃ g6 cap6, v' = .slice (some ⟨g6, 0, none⟩) L.length cap6 := by
            rcases own6.2 with ⟨e, _⟩ | ⟨g6, cap6, _, e, _⟩
            · exact absurd e hnn
            · exact ⟨g6, cap6, e⟩
          subst hv6
          have hg6 := own6.lt g6 rfl
          have own7 := owns_below ownc b6
          have hlc := (ownc.lt w1.heap.size rfl).2
          have hne6 : ¬ g6 = w1.heap.size := by omega
          have hb7 := bw_call hbc b6
          have hcl := own6.cellAt
          have HCL : Hid (∀ j, j < L.length → w6.cell? ⟨g6, j, none⟩ = some (.int .i64 (L.getD j 0))) := fun j hj => (hcl j (by omega)).trans (getD_some L j hj)
          have hgl : g6 < w6.heap.size := hg6.2
          clear hcl own6 hnn b6 ownc hbc rmc kc dc b5
          go_wp2_with fail
          go_loopw [6] (fun i wr2 => ∃ j : Nat, j ≤ L.length ∧ i = .int .i64 j ∧ wr2.ownsRow w1.heap.size 2 1 (.slice (some ⟨w1.heap.size, 0, none⟩) 24 24) 24 ((row24 (fun k => cntAll (bs.take q) (k : Int) + ((L.take j).count (k : Int) : Int))).map (Value.int .i64)) ∧ Upto w1.heap.size w6 wr2) (fun i _ => L.length - (intOf i).toNat)
          case atStart =>
            refine ⟨0, Nat.zero_le _, rfl, ?_, Upto.refl _ _⟩
            rw [row24_congr _ (fun k => cntAll (bs.take q) (k : Int)) (fun k hk => by simp)]
            exact own7
          case round =>
            obtain ⟨j, hj, rfl, own, u⟩ := hrel
            by_cases hlt2 : j < L.length
            · have hpj := HPI.out (L.getD j 0) (by rw [getD_of L j hlt2]; exact List.getElem_mem hlt2)
              have cj := (u.cell (p := ⟨g6, j, none⟩) hgl hne6).trans (HCL.out j hlt2)
              have HCT : Hid (∀ k : Nat, ((L.take (j + 1)).count (k : Int) : Int) = ((L.take j).count (k : Int) : Int) + (if L.getD j 0 = (k : Int) then 1 else 0)) := fun k => by
                rw [count_take L j hlt2, getD_of L j hlt2]
              generalize L.getD j 0 = p at hpj cj HCT
              obtain ⟨m, rfl⟩ := Int.eq_ofNat_of_zero_le hpj.1
              obtain ⟨cn, fn, ow⟩ := row24_inc own m (by omega)
              have hx0 : 0 ≤ cntAll (bs.take q) (m : Int) := cntAll_nonneg _ _
              have hx1 : cntAll (bs.take q) (m : Int) ≤ 96 := by
                have h1 := cntAll_le (bs.take q) (m : Int)
                have h2 : (bs.take q).length ≤ q := by rw [List.length_take]; omega
                omega
              have hx2 : (L.take j).count (m : Int) ≤ 16 := by
                have := List.count_le_length (a := (m : Int)) (l := L.take j)
                rw [List.length_take] at this
                omega
              have e1 : row24 (fun k => if m = k then cntAll (bs.take q) (m : Int) + ((L.take j).count (m : Int) : Int) + 1 else cntAll (bs.take q) (k : Int) + ((L.take j).count (k : Int) : Int)) = row24 (fun k => cntAll (bs.take q) (k : Int) + ((L.take (j + 1)).count (k : Int) : Int)) := row24_congr _ _ (fun k hk => by
                rw [HCT.out k]
                by_cases e : m = k
                · subst e; rw [if_pos rfl, if_pos rfl]; omega
                · rw [if_neg e, if_neg (by omega)]; omega)
              rw [e1] at ow
              have HO : Hid _ := And.intro ow (u.setCell ⟨w1.heap.size, m, none⟩ (.inl rfl) (.int .i64 (cntAll (bs.take q) (m : Int) + ((L.take j).count (m : Int) : Int) + 1)))
              have hxx : 0 ≤ cntAll (bs.take q) (m : Int) + ((L.take j).count (m : Int) : Int) ∧ cntAll (bs.take q) (m : Int) + ((L.take j).count (m : Int) : Int) ≤ 1000 := by omega
              generalize cntAll (bs.take q) (m : Int) + ((L.take j).count (m : Int) : Int) = x at cn HO hxx
              have t0 : (0 : Int) ≤ (j : Int) := by omega
              have t1 : (j : Int) < (L.length : Int) := by omega
              have t2 : (0 : Int) ≤ (m : Int) := by omega
              have t3 : (m : Int) < 24 := by omega
              have t4 : m < 24 := by omega
              have hwx : IntKind.i64.wrap (x + 1) = x + 1 := by rw [IntKind.wrap_i64]; omega
              clear ow e1 own HCT hx0 hx1 hx2
              go_wp2_with fail
              go_region
              all_goals
                go_wp2_with fail
                go_roundw
                case rel => exact ⟨j + 1, by omega, by go_num, owns_below HO.out.1 ((Below.refl _ _).drew), HO.out.2.drew⟩
                case measure => simp [intOf]; omega
            · have hjl : j = L.length := by omega
              have e1 : row24 (fun k => cntAll (bs.take q) (k : Int) + ((L.take j).count (k : Int) : Int)) = row24 (fun k => cntAll (bs.take (q + 1)) (k : Int)) := row24_congr _ _ (fun k hk => by
                rw [hjl, List.take_length, HCN.out k, cntAll_take bs q hltb])
              rw [e1] at own
              have HO : Hid _ := And.intro own (hb7.trans (u.toBelow hb7.size (Nat.le_refl _)))
              have HOK2 : Hid (∀ j (hj : j < bs.length), j < q + 1 → bs[j].ok = true) := fun j hj h => by
                rcases Nat.lt_or_ge j q with z | z
                · exact HOKS.out j hj z
                · obtain rfl : j = q := by omega
                  exact HBQ.out
              have HSR2 : Hid (∀ j (hj : j + 1 < bs.length), j + 1 < q + 1 → ltB (bs[j]'(by omega)).nm bs[j + 1].nm = true) := fun j hj h => by
                rcases Nat.lt_or_ge (j + 1) q with z | z
                · exact HSRT.out j hj z
                · obtain rfl : q = j + 1 := by omega
                  have := HORD.out j rfl (by omega)
                  rwa [← HBN.out.1] at this
              clear own e1
              go_wp2_with fail
              go_roundw
              case rel => exact ⟨q + 1, by omega, by go_num, HOK2.out, HSR2.out, HO.out.1, HO.out.2⟩
              case measure => simp [intOf]; omega
        · have HV : Hid _ := hy1 rfl
          clear hy1 hy2
          go_wp2_with fail
          go_ret
          exact ⟨ret_bool (by rw [HBS.out]; exact HV.out.symm), dc⟩
    · have hqe : q = bks.length := by omega
      have HOK3 : Hid (∀ j (hj : j < bs.length), bs[j].ok = true) := fun j hj => HOKS.out j hj (by have := HBL.out; omega)
      have HSR3 : Hid (∀ j (hj : j + 1 < bs.length), ltB (bs[j]'(by omega)).nm bs[j + 1].nm = true) := fun j hj => HSRT.out j hj (by have := HBL.out; omega)
      have htk : bs.take q = bs := List.take_of_length_le (by have := HBL.out; omega)
      rw [htk] at own
      have pB := at_cell kq 2
      have p0 := at_cell kq 0
      have s1q := (s1.below hb)
      obtain ⟨_, _, e1, -, c1, -⟩ := s1q
      simp only [List.length_map] at e1
      cases e1
      have C1 : Hid _ := cell_i64 c1
      have HLN : Hid (∀ k, k < 24 → wr.cell? ⟨w1.heap.size, k, none⟩ = some (.int .i64 (cntAll bs (k : Int)))) := fun k hk => by
        rw [own.cellAt k (by omega), getD_some _ k (by rw [row24_length]; exact hk), row24_get _ k hk]
      have hql : ¬ (q : Int) < (bks.length : Int) := by omega
      have lw : w1.heap.size < wr.heap.size := (own.lt _ rfl).2
      clear c1 htk HOKS HSRT own CB RM
      go_wp2_with fail
      clear pB
      generalize wr = wq at *
      go_loopw [7] (fun i wr2 => ∃ k : Nat, k ≤ 24 ∧ i = .int .i64 k ∧ (∀ j, j < k → ¬ ((j < cs.length ∧ cntAll bs (j : Int) ≠ cs.getD j 0) ∨ (cs.length ≤ j ∧ 0 < cntAll bs (j : Int)))) ∧ Below wq.heap.size wq wr2) (fun i _ => 24 - (intOf i).toNat)
      case atStart => exact ⟨0, Nat.zero_le _, rfl, fun j h => by omega, Below.refl _ _⟩
      case round =>
        obtain ⟨k, hk, rfl, hall, hb2⟩ := hrel
        have HA : Hid _ := hall
        have kk := (hb2.block _ lq).trans kq
        have dk := bw_call dq hb2
        have p0 := at_cell kk 0
        clear hall
        by_cases hlt2 : k < 24
        · have ck := (hb2.cell (p := ⟨w1.heap.size, k, none⟩) lw).trans (HLN.out k hlt2)
          have HN1 : Hid (¬ ((k < cs.length ∧ cntAll bs (k : Int) ≠ cs.getD k 0) ∨ (cs.length ≤ k ∧ 0 < cntAll bs (k : Int))) → ∀ j, j < k + 1 → ¬ ((j < cs.length ∧ cntAll bs (j : Int) ≠ cs.getD j 0) ∨ (cs.length ≤ j ∧ 0 < cntAll bs (j : Int)))) := fun h j hj => by
            rcases Nat.lt_or_ge j k with z | z
            · exact HA.out j z
            · obtain rfl : j = k := by omega
              exact h
          have HBAD : Hid (((k < cs.length ∧ cntAll bs (k : Int) ≠ cs.getD k 0) ∨ (cs.length ≤ k ∧ 0 < cntAll bs (k : Int))) → shelfOk ⟨cs, ps, bs⟩ = false) := fun h => shelf_no_count ⟨cs, ps, bs⟩ k hlt2 h
          have t0 : (0 : Int) ≤ (k : Int) := by omega
          have t1 : (k : Int) < 24 := by omega
          by_cases hkl : k < cs.length
          · obtain ⟨g, off, e, hg, cc⟩ := C1.out k hkl
            subst e
            have ccw := (hb2.cell (p := ⟨g, off + k, none⟩) (Nat.lt_trans hg lw)).trans cc
            have hd1 : decide (k < cs.length) = true := decide_eq_true hkl
            have hd2 : decide (cs.length ≤ k) = false := decide_eq_false (by omega)
            have hd3 : (k : Int) < (cs.length : Int) := by omega
            by_cases heq : cntAll bs (k : Int) = cs.getD k 0
            · have HN2 : Hid _ := HN1.out (fun h => by rcases h with h | h; exact h.2 heq; omega)
              rw [← heq] at ccw
              generalize cntAll bs (k : Int) = x at ck ccw
              clear HN1 HBAD HA C1 HLN heq cc
              go_wp2_with fail
              go_quiet (fail)
              go_wp2_with fail
              go_roundw
              case rel => exact ⟨k + 1, by omega, by go_num, HN2.out, ⟨hb2.os, hb2.tape, hb2.output, hb2.size, hb2.block⟩⟩
              case measure => simp [intOf]; omega
            · have HV : Hid _ := HBAD.out (.inl ⟨hkl, heq⟩)
              have hne1 : (cntAll bs (k : Int) == cs.getD k 0) = false := by rw [beq_eq_false_iff_ne]; exact heq
              have hne2 : (cntAll bs (k : Int) != cs.getD k 0) = true := by rw [bne_iff_ne]; exact heq
              generalize cntAll bs (k : Int) = x at ck hne1 hne2
              generalize cs.getD k 0 = y at ccw hne1 hne2
              clear HN1 HBAD HA C1 HLN heq cc
              go_wp2_with fail
              go_quiet (fail)
              go_wp2_with fail
              go_ret
              exact ⟨ret_bool (by rw [HBS.out]; exact HV.out.symm), ⟨dk.os, dk.tape, dk.output, dk.size, dk.block⟩⟩
          · have hd1 : decide (k < cs.length) = false := decide_eq_false hkl
            have hd2 : decide (cs.length ≤ k) = true := decide_eq_true (by omega)
            have hd3 : ¬ (k : Int) < (cs.length : Int) := by omega
            by_cases hpos : 0 < cntAll bs (k : Int)
            · have HV : Hid _ := HBAD.out (.inr ⟨by omega, hpos⟩)
              generalize cntAll bs (k : Int) = x at ck hpos
              clear HN1 HBAD HA C1 HLN
              go_wp2_with fail
              go_quiet (fail)
              go_wp2_with fail
              go_ret
              exact ⟨ret_bool (by rw [HBS.out]; exact HV.out.symm), ⟨dk.os, dk.tape, dk.output, dk.size, dk.block⟩⟩
            · have HN2 : Hid _ := HN1.out (fun h => by rcases h with h | h; exact hkl h.1; exact hpos h.2)
              generalize cntAll bs (k : Int) = x at ck hpos
              clear HN1 HBAD HA C1 HLN
              go_wp2_with fail
              go_quiet (fail)
              go_wp2_with fail
              go_roundw
              case rel => exact ⟨k + 1, by omega, by go_num, HN2.out, ⟨hb2.os, hb2.tape, hb2.output, hb2.size, hb2.block⟩⟩
              case measure => simp [intOf]; omega
        · have HV : Hid (shelfOk ⟨cs, ps, bs⟩ = true) := shelf_yes ⟨cs, ps, bs⟩ HPO.out (by simp only; have := HBL.out; omega) HOK3.out HSR3.out (fun j hj => HA.out j (by omega))
          clear HA C1 HLN
          go_wp2_with fail
          go_ret
          exact ⟨ret_bool (by rw [HBS.out]; exact HV.out.symm), dk⟩
end Go.Proofs.YtaekdfknkgmfbaaGreatDoor

namespace Go.Proofs.YtaekdfknkgmfbaaGreatDoor
open Go.RowKit

set_option linter.unusedVariables false

set_option maxRecDepth 100000

theorem kind_code (s : Sf) (o : Oq) (i : Nat) (b : Pb) (page : Int) : (doKind s o i b page).2.1 = 0 ∨ ((doKind s o i b page).2.1 = 9 ∧ o.k ≠ 9 ∧ o.k ≠ 8 ∧ o.k ≠ 7 ∧ o.k ≠ 3) := by
  unfold doKind
  split
  · exact .inl rfl
  rename_i k1
  split
  · exact .inl rfl
  rename_i k2
  split
  · exact .inl rfl
  rename_i k3
  split
  · split <;> exact .inl rfl
  rename_i k4
  unfold doWrite
  split
  · exact .inl rfl
  split
  · exact .inl rfl
  exact .inr ⟨rfl, k1, k2, k3, k4⟩
end Go.Proofs.YtaekdfknkgmfbaaGreatDoor

namespace Go.Proofs.YtaekdfknkgmfbaaGreatDoor
open Go.RowKit

set_option linter.unusedVariables false

set_option maxRecDepth 100000

theorem pagesOf_few (rs : List (Int × Int × Int)) : (pagesOf rs).length ≤ 16 := by
  unfold pagesOf
  split
  · have := List.length_filter_le (fun p => decide (0 ≤ p)) (pages rs)
    rw [pages_length] at this
    exact this
  · simp
end Go.Proofs.YtaekdfknkgmfbaaGreatDoor

namespace Go.Proofs.YtaekdfknkgmfbaaGreatDoor
open Go.RowKit

set_option linter.unusedVariables false

set_option maxRecDepth 100000


theorem map_setI (cs : List Int) (k : Nat) (x : Int) : (cs.map (Value.int .i64)).set k (.int .i64 x) = (cs.set k x).map (Value.int .i64) := by rw [List.map_set]

/-- One cell of each row is written. -/
theorem OwnP.set1 {base : Nat} {w : World} {g1 c1 : Nat} {v2 : Value} {cs ps : List Int} (h : OwnP base w (.slice (some ⟨g1, 0, none⟩) cs.length c1) v2 cs ps) (k : Nat) (x : Int) :
    OwnP base (w.setCell ⟨g1, k, none⟩ (.int .i64 x)) (.slice (some ⟨g1, 0, none⟩) cs.length c1) v2 (cs.set k x) ps := by
  refine ⟨?_, own_only (S := fun b => b = g1) h.p ((Only.refl (fun b => b = g1) _).setCell ⟨g1, k, none⟩ rfl _) (fun g hg e => h.apart g1 rfl (by rw [hg, e])), h.apart⟩
  have := (h.c.stored k (.int .i64 x)).1
  rw [map_setI] at this
  rwa [List.length_set]

theorem OwnP.set2 {base : Nat} {w : World} {g2 c2 : Nat} {v1 : Value} {cs ps : List Int} (h : OwnP base w v1 (.slice (some ⟨g2, 0, none⟩) ps.length c2) cs ps) (k : Nat) (x : Int) :
    OwnP base (w.setCell ⟨g2, k, none⟩ (.int .i64 x)) v1 (.slice (some ⟨g2, 0, none⟩) ps.length c2) cs (ps.set k x) := by
  refine ⟨own_only (S := fun b => b = g2) h.c ((Only.refl (fun b => b = g2) _).setCell ⟨g2, k, none⟩ rfl _) (fun g hg e => h.apart g hg (by rw [e]; rfl)), ?_, h.apart⟩
  have := (h.p.stored k (.int .i64 x)).1
  rw [map_setI] at this
  rwa [List.length_set]

theorem own_form2 {w : World} {base : Nat} {v1 v2 : Value} {cs ps : List Int} (h : OwnP base w v1 v2 cs ps) (hc : 1 ≤ cs.length) (hp : ps.length = cs.length) :
    ∃ g1 c1 g2 c2, v1 = .slice (some ⟨g1, 0, none⟩) cs.length c1 ∧ v2 = .slice (some ⟨g2, 0, none⟩) ps.length c2 ∧ g1 ≠ g2 := by
  rcases h.c.2 with ⟨_, hn⟩ | ⟨g1, c1, cur, rfl, _⟩
  · omega
  rcases h.p.2 with ⟨_, hn⟩ | ⟨g2, c2, cur2, rfl, _⟩
  · omega
  exact ⟨g1, c1, g2, c2, rfl, rfl, fun e => h.apart g1 rfl (by rw [e]; rfl)⟩
end Go.Proofs.YtaekdfknkgmfbaaGreatDoor

namespace Go.Proofs.YtaekdfknkgmfbaaGreatDoor
open Go.RowKit

set_option linter.unusedVariables false

set_option maxRecDepth 100000


set_option maxHeartbeats 1600000 in
theorem l4Take_at (b base : Nat) (cells : Array Value) (T : TypeId) (v1 v2 : Value) (cs ps : List Int) (v : Int) (w : World) (k : w.heap[b]? = some (.cells cells T (0, 0))) (hT : T ≠ 2) (e0 : cells[0]? = some v1) (e1 : cells[1]? = some v2) (own : OwnP base w v1 v2 cs ps) (hc : 1 ≤ cs.length) (hc2 : cs.length ≤ 1048576) (hp : ps.length = cs.length) :
    Calls Tryz.prog 141 #[.pointer (some ⟨b, 0, none⟩), .int .i64 v] w fun e w' => e = .returned (.int .i64 (tookAt cs)) ∧ OwnP base w' v1 v2 (tookC cs) (tookP cs ps v) ∧ Only (fun i => v1.ownBlock = some i ∨ v2.ownBlock = some i) w w' := by
  obtain ⟨g1, c1, g2, c2, rfl, rfl, hne⟩ := own_form2 own hc hp
  have n1 := own_not_box own.c k hT
  have n2 := own_not_box own.p k hT
  have hn1 : ¬ b = g1 := fun e => n1 (by rw [e]; rfl)
  have hn2 : ¬ b = g2 := fun e => n2 (by rw [e]; rfl)
  have hn3 : ¬ g1 = b := fun e => hn1 e.symm
  have hn4 : ¬ g2 = b := fun e => hn2 e.symm
  have hne' : ¬ g2 = g1 := fun e => hne e.symm
  have p0 := (at_cell k 0).trans e0
  have p1 := (at_cell k 1).trans e1
  have hlc := own.c.cellAt
  have hlp := own.p.cellAt
  have hfc := own.c.frozenAt
  have hfp := own.p.frozenAt
  have HP : Hid (ps.length = cs.length) := hp
  have hp1 : cs.length ≤ ps.length := by omega
  have HLC : Hid (∀ j, j < cs.length * 1 → w.cell? ⟨g1, j, none⟩ = (cs.map (Value.int .i64))[j]?) := hlc
  have HLP : Hid (∀ j, j < ps.length * 1 → w.cell? ⟨g2, j, none⟩ = (ps.map (Value.int .i64))[j]?) := hlp
  clear hlc hlp hp n1 n2 e0 e1
  go_enter Tryz.func141, Tryz.ntmps141
  go_wp2_with fail
  go_loopw [5] (fun i wr => ∃ k : Nat, k ≤ cs.length ∧ i = .int .i64 k ∧ (∀ j, j < k → cs.getD j 0 ≠ 0) ∧ wr = w) (fun i _ => cs.length - (intOf i).toNat)
  case atStart => exact ⟨0, Nat.zero_le _, rfl, fun j hj => by omega, rfl⟩
  case round =>
    obtain ⟨q, hq, rfl, hall, rfl⟩ := hrel
    have HA : Hid (∀ j, j < q → cs.getD j 0 ≠ 0) := hall
    clear hall
    by_cases hlt : q < cs.length
    · have cc1 := (HLC.out q (by omega)).trans (getD_some cs q hlt)
      have cc2 := (HLP.out q (by omega)).trans (getD_some ps q (by omega))
      have hq2 : (q : Int) < (ps.length : Int) := by omega
      have HN : Hid (cs.getD q 0 ≠ 0 → ∀ j, j < q + 1 → cs.getD j 0 ≠ 0) := fun h j hj => by
        rcases Nat.lt_or_ge j q with r | r
        · exact HA.out j r
        · obtain rfl : j = q := by omega
          exact h
      have HF : Hid (cs.getD q 0 = 0 → firstFree cs = q) := fun h => firstFree_eq cs q hlt h HA.out
      by_cases hz : cs.getD q 0 = 0
      · have hf := HF.out hz
        have HR : Hid (tookAt cs = q ∧ tookC cs = cs.set q 1 ∧ tookP cs ps v = ps.set q v) := by
          rw [Hid, tookAt, tookC, tookP, hf, if_pos hlt, if_pos hlt, if_pos hlt]; exact ⟨rfl, rfl, rfl⟩
        have own1 := own.set1 q 1
        have own2 := own1.set2 q v
        have HO : Hid _ := own2
        rw [hz] at cc1
        clear HN HF HA own1 own2 own hf hz HLC HLP
        generalize ps.getD q 0 = y at cc2
        go_wp2_with fail
        go_ret
        refine ⟨ret_int HR.out.1.symm, ?_, ((Only.refl _ _).setCell _ (.inl rfl) _).setCell _ (.inr rfl) _⟩
        rw [HR.out.2.1, HR.out.2.2]
        exact HO.out
      · have HNN : Hid _ := HN.out hz
        have hz1 : (cs.getD q 0 == 0) = false := by simpa using hz
        clear HN HF HA HLC HLP cc2
        generalize cs.getD q 0 = x at cc1 hz1 hz
        go_wp2_with fail
        go_roundw
        case rel => exact ⟨q + 1, by omega, by go_num, HNN.out, by trivial⟩
        case measure => simp [intOf]; omega
    · have hf := firstFree_none cs (fun j hj => HA.out j (by omega))
      have HR : Hid (tookAt cs = -1 ∧ tookC cs = cs ∧ tookP cs ps v = ps) := by
        rw [Hid, tookAt, tookC, tookP, hf, if_neg (by omega), if_neg (by omega), if_neg (by omega)]; exact ⟨rfl, rfl, rfl⟩
      have HO : Hid _ := own
      clear own hf HA HLC HLP
      go_wp2_with fail
      go_ret
      refine ⟨ret_int HR.out.1.symm, ?_, Only.refl _ _⟩
      rw [HR.out.2.1, HR.out.2.2]
      exact HO.out

set_option maxHeartbeats 1600000 in
theorem l4Drop_at (b base k : Nat) (cells : Array Value) (T : TypeId) (v1 v2 : Value) (cs ps : List Int) (w : World) (hk : w.heap[b]? = some (.cells cells T (0, 0))) (hT : T ≠ 2) (e0 : cells[0]? = some v1) (e1 : cells[1]? = some v2) (own : OwnP base w v1 v2 cs ps) (hc : k < cs.length) (hc2 : cs.length ≤ 1048576) (hp : ps.length = cs.length) (hr : 1 ≤ cs.getD k 0 ∧ cs.getD k 0 ≤ 400) :
    Calls Tryz.prog 139 #[.pointer (some ⟨b, 0, none⟩), .int .i64 k] w fun e w' => e = .returned (.tuple #[]) ∧ OwnP base w' v1 v2 (cs.set k (cs.getD k 0 - 1)) (if cs.getD k 0 = 1 then ps.set k 0 else ps) ∧ Only (fun i => v1.ownBlock = some i ∨ v2.ownBlock = some i) w w' := by
  obtain ⟨g1, c1, g2, c2, rfl, rfl, hne⟩ := own_form2 own (by omega) hp
  have n1 := own_not_box own.c hk hT
  have n2 := own_not_box own.p hk hT
  have hn1 : ¬ b = g1 := fun e => n1 (by rw [e]; rfl)
  have hn2 : ¬ b = g2 := fun e => n2 (by rw [e]; rfl)
  have hn3 : ¬ g1 = b := fun e => hn1 e.symm
  have hn4 : ¬ g2 = b := fun e => hn2 e.symm
  have hne' : ¬ g2 = g1 := fun e => hne e.symm
  have p0 := (at_cell hk 0).trans e0
  have p1 := (at_cell hk 1).trans e1
  have cc1 := (own.c.cellAt k (by omega)).trans (getD_some cs k hc)
  have cc2 := (own.p.cellAt k (by omega)).trans (getD_some ps k (by omega))
  have fc := own.c.frozenAt k
  have fp := own.p.frozenAt k
  have own1 := own.set1 k (cs.getD k 0 - 1)
  have HO : Hid _ := And.intro own1 (own1.set2 k 0)
  have i0 : (0 : Int) ≤ (k : Int) := by omega
  have i1 : (k : Int) < (cs.length : Int) := by omega
  have i2 : (k : Int) < (ps.length : Int) := by omega
  clear own own1 n1 n2 hk hp e0 e1
  generalize cs.getD k 0 = c at *
  generalize ps.getD k 0 = y at cc2
  by_cases hc1 : c = 1
  · subst hc1
    rw [if_pos rfl]
    go_enter Tryz.func139, Tryz.ntmps139
    go_wp2_with fail
    go_region
    go_wp2_with fail
    exact bodyPost_end (results_none rfl _ _ _) rfl ⟨rfl, HO.out.2.below ((Below.refl _ _).drew), (((Only.refl _ _).setCell _ (.inl rfl) _).setCell _ (.inr rfl) _).below ((Below.refl _ _).drew)⟩
  · rw [if_neg hc1]
    have hz : (c - 1 == 0) = false := by simp; omega
    go_enter Tryz.func139, Tryz.ntmps139
    go_wp2_with fail
    go_region
    go_wp2_with fail
    exact bodyPost_end (results_none rfl _ _ _) rfl ⟨rfl, HO.out.1.below ((Below.refl _ _).drew), ((Only.refl _ _).setCell _ (.inl rfl) _).below ((Below.refl _ _).drew)⟩
end Go.Proofs.YtaekdfknkgmfbaaGreatDoor

namespace Go.Proofs.YtaekdfknkgmfbaaGreatDoor
open Go.RowKit

set_option linter.unusedVariables false

set_option maxRecDepth 100000


theorem step_append {P : Program} {w : World} {ops : Array Oper} {o : Oper} {a : Act} {K : Act → World → Prop} {Q : Exit → Act → World → Prop} {E : Prop} (hgd : o.guard = none) (s x : Operand) (t : TypeId)
    (ho : o.op = .call { callee := .builtin .append, args := #[s, x], argTypes := #[t, t] })
    (base : Nat) (e : TypeId) (i : TypeInfo) (z : Value) (size bytes : Nat) (ht : P.underlying t = some (.slice e)) (hi : P.info? e = some i) (hz : i.zero = some z)
    (hsize : i.size = size) (hby : i.bytes = bytes) (hzs : z.cells.size = size) (hsz : 0 < size)
    (v : Value) (n : Nat) (xs : List Value) (hs : a.eval s = v) (hown : w.ownsRow base e size v n xs)
    (ad : Addr) (m c : Nat) (news : List Value) (hx : a.eval x = .slice (some ad) m c) (hl : news.length = m * size) (hnews : ∀ j u, news[j]? = some u → w.cell? (ad.add j) = some u) (h1 : ∀ u ∈ news, u.oneCell' = true)
    (h63 : n + m ≤ maxLen) (hbytes : (n + m) * bytes ≤ 140737488355328) (hbase : base ≤ w.heap.size)
    (h : ∀ v' w', w'.ownsRow base e size v' (n + m) (xs ++ news) → w.grownBy w' v.ownBlock → (v' = .slice none 0 0 ↔ v = .slice none 0 0 ∧ m = 0) → K (a.put o.dst v') w') :
    if Region.wanted o (yielded ops a.tmps) = true then Oper.wp P o a w K Q else E := by
  have hw : Region.wanted o (yielded ops a.tmps) = true := by simp [Region.wanted, hgd]
  rw [if_pos hw]
  exact wp_append_own w s x t ho base e i z size bytes ht hi hz hsize hby hzs hsz v n xs hs hown ad m c news hx hl hnews h1 h63 hbytes hbase h
end Go.Proofs.YtaekdfknkgmfbaaGreatDoor

