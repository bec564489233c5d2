/-
  Contracts and plain laws, one chapter behind the other.
-/
import Derived.Deep.DeepCutAuto
import Derived.Test.YtcefcglonooelaaGreatDoorB08
import Derived.Test.YtcefcglonooelaaGreatDoorB22
import Derived.Test.YtcefcglonooelaaGreatDoorB23
import Derived.Test.YtcefcglonooelaaGreatDoorB25
import Derived.Test.YtcefcglonooelaaGreatDoorB28
import Derived.Test.YtcefcglonooelaaGreatDoorB29
import Derived.Test.YtcefcglonooelaaGreatDoorB31
namespace Go.Proofs.YtcefcglonooelaaGreatDoor
open Go.RowKit

set_option linter.unusedVariables false


/-- Of drawn plains. -/
structure FitK (m : Pk) : Prop where
  nm : m.nm.size ≤ 5
  sz : -1 ≤ m.sz ∧ m.sz ≤ 17
  ln : 1 ≤ m.rs.length ∧ m.rs.length ≤ 16
  ep : -1 ≤ m.ep ∧ m.ep ≤ 1001

structure K9 (c : Nat) (x : Option Addr) (len cap : Nat) (w W : World) (v : Value) (ms : List Pk) : Prop where
  own : OwnK w.heap.size W v ms
  kc : Cur W c x len cap
  u : Upto c w W
  lt : c < w.heap.size
  few : ms.length ≤ 6
  fit : ∀ m ∈ ms, FitK m

theorem K9.step {c : Nat} {x : Option Addr} {len cap : Nat} {w W W' : World} {v : Value} {ms : List Pk} (h : K9 c x len cap w W v ms) (u : Upto c W W') (kc : Cur W' c x len cap) : K9 c x len cap w W' v ms :=
  ⟨⟨ownsRow_upto h.own.row u h.lt, fun m hm => ownsRow_upto (h.own.maps m hm) u h.lt⟩, kc, h.u.trans u, h.lt, h.few, h.fit⟩

theorem K9.below {c : Nat} {x : Option Addr} {len cap : Nat} {w W W' : World} {v : Value} {ms : List Pk} (h : K9 c x len cap w W v ms) (k : Below W.heap.size W W') : K9 c x len cap w W' v ms := h.step (Upto.ofBelow k) (h.kc.below k)

theorem K9.alloc {c : Nat} {x : Option Addr} {len cap : Nat} {w W : World} {v : Value} {ms : List Pk} (h : K9 c x len cap w W v ms) (o : Obj) : K9 c x len cap w (W.alloc o) v ms := h.below (bw_alloc (Below.refl _ _))

theorem K9.drawn {c : Nat} {x : Option Addr} {len cap : Nat} {w W : World} {v : Value} {ms : List Pk} (h : K9 c x len cap w W v ms) : K9 c x len cap w W.drew v ms := h.below ((Below.refl _ _).drew)

/-- One cell of one plain is written, its values stay. -/
theorem OwnK.field {base g cap nM i : Nat} {w : World} {ms : List Pk} (h : OwnK base w (.slice (some ⟨g, 0, none⟩) nM cap) ms) (hi : i < ms.length) (j : Nat) (y : Pk) (u : Value) (hj : j < 5) (hy : (pkC ms[i]).set j u = pkC y) (hm : y.m = ms[i].m) (hr : y.rs = ms[i].rs) : OwnK base (w.setCell ⟨g, i * 5 + j, none⟩ u) (.slice (some ⟨g, 0, none⟩) nM cap) (ms.set i y) := by
  have up : Upto g w (w.setCell ⟨g, i * 5 + j, none⟩ u) := (Upto.refl _ _).setCell ⟨g, i * 5 + j, none⟩ (.inl rfl) _
  have hs := own_put pkC_len h.row i j ms[i] y u (List.getElem?_eq_getElem hi) hj hy
  have keep : ∀ m ∈ ms, (w.setCell ⟨g, i * 5 + j, none⟩ u).ownsRow base 2 1 m.m m.rs.length (m.rs.flatMap intC) := fun m hm =>
    own_rng_not (h.maps m hm) (fun q hq hv => up.block q hq (fun e => rows_twoK h.row (h.maps m hm) (by decide) g rfl (by rw [← e]; exact hv)))
  refine ⟨hs, fun m hmm => ?_⟩
  rcases List.mem_or_eq_of_mem_set hmm with q | rfl
  · exact keep m q
  · rw [hm, hr]
    exact keep _ (List.getElem_mem hi)

theorem K9.field {c g cp i : Nat} {x : Option Addr} {len cap : Nat} {w W : World} {ms : List Pk} {nM : Nat} (h : K9 c x len cap w W (.slice (some ⟨g, 0, none⟩) nM cp) ms) (hi : i < ms.length) (j : Nat) (y : Pk) (u : Value) (hj : j < 5) (hy : (pkC ms[i]).set j u = pkC y) (hm : y.m = ms[i].m) (hr : y.rs = ms[i].rs) (hf : FitK y) : K9 c x len cap w (W.setCell ⟨g, i * 5 + j, none⟩ u) (.slice (some ⟨g, 0, none⟩) nM cp) (ms.set i y) := by
  have hg := h.own.row.lt g rfl
  have hlt := h.lt
  refine ⟨h.own.field hi j y u hj hy hm hr, h.kc.same (((Upto.refl g W).setCell ⟨g, i * 5 + j, none⟩ (.inl rfl) _).toBelow h.kc.lt (by omega)), h.u.setCell ⟨g, i * 5 + j, none⟩ (.inr hg.1) _, h.lt, by rw [List.length_set]; exact h.few, fun m hmm => ?_⟩
  rcases List.mem_or_eq_of_mem_set hmm with q | rfl
  · exact h.fit m q
  · exact hf

/-- The first value of all plains whose values lie in one block is written. -/
def firstK (gm : Nat) (z : Int) (m : Pk) : Pk := if m.m.ownBlock = some gm then ⟨m.nm, m.sz, m.m, m.rs.set 0 z, m.fx, m.ep⟩ else m

theorem first_cells (gm : Nat) (z : Int) (m : Pk) : pkC (firstK gm z m) = pkC m := by
  unfold firstK
  split <;> rfl

theorem K9.first {c gm : Nat} {x : Option Addr} {len cap : Nat} {w W : World} {v : Value} {ms : List Pk} (h : K9 c x len cap w W v ms) (m0 : Pk) (h0 : m0 ∈ ms) (hg0 : m0.m.ownBlock = some gm) (z : Int) : K9 c x len cap w (W.setCell ⟨gm, 0, none⟩ (.int .i64 z)) v (ms.map (firstK gm z)) := by
  have hg := (h.own.maps m0 h0).lt gm hg0
  have hlt := h.lt
  have up : Upto gm W (W.setCell ⟨gm, 0, none⟩ (.int .i64 z)) := (Upto.refl _ _).setCell ⟨gm, 0, none⟩ (.inl rfl) _
  refine ⟨⟨?_, fun m hm => ?_⟩, h.kc.same (up.toBelow h.kc.lt (by omega)), h.u.setCell ⟨gm, 0, none⟩ (.inr hg.1) _, h.lt, by rw [List.length_map]; exact h.few, fun m hm => ?_⟩
  · have e : (ms.map (firstK gm z)).flatMap pkC = ms.flatMap pkC := by
      rw [List.flatMap_map]
      exact congrArg (fun f => ms.flatMap f) (funext (first_cells gm z))
    rw [List.length_map, e]
    exact own_rng_not h.own.row (fun q hq hv => up.block q hq (fun e => rows_twoK h.own.row (h.own.maps m0 h0) (by decide) q hv (by rw [e]; exact hg0)))
  · obtain ⟨y, hy, rfl⟩ := List.mem_map.1 hm
    have ho := h.own.maps y hy
    unfold firstK
    by_cases e : y.m.ownBlock = some gm
    · rw [if_pos e]
      have hl := (h.fit y hy).ln.1
      obtain ⟨o, cp, hf⟩ := own_slice ho
      rw [hf] at ho e ⊢
      have e2 : o = some ⟨gm, 0, none⟩ := by
        rcases ho.2 with ⟨_, h0⟩ | ⟨g, cap', cur, e', _⟩
        · omega
        · simp only [Value.slice.injEq] at e'
          obtain ⟨rfl, -, -⟩ := e'
          simp [Value.ownBlock] at e
          rw [e]
      subst e2
      have hx : y.rs[0]? = some y.rs[0] := List.getElem?_eq_getElem (by omega)
      have hst := own_put intC_len ho 0 0 y.rs[0] z (.int .i64 z) hx (by decide) rfl
      simpa using hst
    · rw [if_neg e]
      exact own_rng_not ho (fun q hq hv => up.block q hq (fun e2 => e (by rw [hv, e2])))
  · obtain ⟨y, hy, rfl⟩ := List.mem_map.1 hm
    have f := h.fit y hy
    unfold firstK
    split
    · exact ⟨f.nm, f.sz, by show 1 ≤ (y.rs.set 0 z).length ∧ (y.rs.set 0 z).length ≤ 16; rw [List.length_set]; exact f.ln, f.ep⟩
    · exact f

theorem fit_right9 {ms : List Pk} (h : plainsOk (ms.map Pk.pv) = true) : ∀ m ∈ ms, FitK m := fun m hm => by
  have h1 := pv_all ((plains_ok h).2 m.pv (List.mem_map_of_mem hm))
  have h2 := (nameB_size _ h1.1).2
  have h3 : m.pv.nm = m.nm := rfl
  have h4 : m.pv.sz = m.sz := rfl
  have h5 : m.pv.vs = m.rs := rfl
  have h6 : m.pv.ep = m.ep := rfl
  rw [h3] at h2
  rw [h4, h5, h6] at h1
  exact ⟨by omega, by omega, by omega, by omega⟩

set_option maxRecDepth 100000 in
set_option maxHeartbeats 6400000 in
theorem draw9_any (c : Nat) (x : Option Addr) (len cap : Nat) (w : World) (hc : Cur w c x len cap) :
    Calls Tryz.prog 33 #[.pointer (some ⟨c, 0, none⟩)] w fun e w' => ∃ (v : Value) (ms : List Pk), e = .returned v ∧ K9 c x len cap w w' v ms := by
  have hlt := hc.lt
  go_enter Tryz.func33, Tryz.ntmps33
  go_wp2_with fail
  refine (draw8_any c x len cap _ hc).mono ?_
  rintro e w1 ⟨v1, v2, vb, bks, s, rfl, op, ob, hbs, inv, u1, k1⟩
  have inv2 : ShInv ⟨s.cs, s.ps, bks.map Bk.pb⟩ := by rw [hbs]; exact inv
  go_wp2_with fail
  refine (l9Shown_any _ _ _ s.cs s.ps bks _ inv2 op.reads.c op.reads.p ob.reads).mono ?_
  rintro e w2 ⟨v', ms, rfl, hms, own, b2⟩
  have hpo : plainsOk (ms.map Pk.pv) = true := by rw [hms]; exact shown_right inv2
  have hfew : ms.length ≤ 6 := by have := (plains_ok hpo).1; rwa [List.length_map] at this
  have st : K9 c x len cap w w2 v' ms := ⟨own.mono u1.size, k1.below b2, u1.below b2, hlt, hfew, fit_right9 hpo⟩
  clear own b2 k1 u1 inv inv2 hbs ob op hms hc
  have HPO : Hid _ := hpo
  clear hpo
  obtain ⟨o, cp, rfl⟩ := own_slice st.own.row
  rcases Nat.eq_zero_or_pos ms.length with h0 | hpos
  · have h0' : ¬ (0 : Int) < (ms.length : Int) := by omega
    have HS : Hid _ := st
    clear st h0
    go_wp2_with fail
    go_ret
    exact ⟨_, ms, rfl, HS.out⟩
  obtain ⟨g, hg⟩ : ∃ g, o = some ⟨g, 0, none⟩ := by
    rcases st.own.row.2 with ⟨_, h0⟩ | ⟨g, cap', cur, e, _⟩
    · omega
    · simp only [Value.slice.injEq] at e
      exact ⟨g, e.1⟩
  subst hg
  have hp1 : (0 : Int) < (ms.length : Int) := by omega
  go_wp2_with fail
  refine (once_any c x len cap 8 _ (by omega) st.kc).mono ?_
  rintro e w3 ⟨y, rfl, u3, k3⟩
  replace st := st.step u3 k3
  clear u3 k3
  cases y
  · have HS : Hid _ := st
    clear st
    go_wp2_with fail
    go_ret
    exact ⟨_, ms, rfl, HS.out⟩
  go_wp2_with fail
  refine (below_any c x len cap (ms.length : Int) _ (by omega) st.kc).mono ?_
  rintro e w4 ⟨y, rfl, hy, u4, k4⟩
  replace st := st.step u4 k4
  obtain ⟨I, rfl⟩ := Int.eq_ofNat_of_zero_le hy.1
  have hI : I < ms.length := by have := hy.2.1 hp1; omega
  have i0 : (0 : Int) ≤ (I : Int) := by omega
  have i1 : (I : Int) < (ms.length : Int) := by omega
  clear u4 k4 hy
  go_wp2_with fail
  refine (below_any c x len cap 4 _ (by omega) st.kc).mono ?_
  rintro e w5 ⟨q, rfl, hq, u5, k5⟩
  replace st := st.step u5 k5
  have hq4 : q = 0 ∨ q = 1 ∨ q = 2 ∨ q = 3 := by have := hq.2.1 (by omega); have := hq.1; omega
  clear u5 k5 hq
  obtain ⟨⟨xn, xz, xm, xr, xf, xe⟩, hX⟩ : ∃ X : Pk, ms[I] = X := ⟨_, rfl⟩
  have HX : Hid (ms[I] = ⟨xn, xz, xm, xr, xf, xe⟩) := hX
  have hfx : FitK ⟨xn, xz, xm, xr, xf, xe⟩ := by rw [← hX]; exact st.fit _ (List.getElem_mem hI)
  have HZ : Hid (1 ≤ xz ∧ xz ≤ 16) := by
    have h1 := pv_all ((plains_ok HPO.out).2 (ms[I]).pv (List.mem_map_of_mem (List.getElem_mem hI)))
    rw [hX] at h1
    exact h1.2.1
  have owm : w5.ownsRow w.heap.size 2 1 xm xr.length (xr.flatMap intC) := by have h := st.own.maps ms[I] (List.getElem_mem hI); rw [hX] at h; exact h
  obtain ⟨⟨t0, t1, t2, t3, t4⟩, f0, f1, f2, f3, f4⟩ := own_fiveK st.own.row I hI
  rw [hX] at t0 t1 t2 t3 t4
  simp only at t0 t1 t2 t3 t4
  clear hX
  rcases hq4 with rfl | rfl | rfl | rfl
  · have hz1 := HZ.out.1
    have hz2 := HZ.out.2
    have hwr : IntKind.i64.wrap (xz + 1) = xz + 1 := by rw [IntKind.wrap_i64]; omega
    have HS : Hid _ := st.field hI 1 ⟨xn, xz + 1, xm, xr, xf, xe⟩ (.int .i64 (xz + 1)) (by decide) (by rw [HX.out]; rfl) (by rw [HX.out]) (by rw [HX.out]) ⟨hfx.nm, by show -1 ≤ xz + 1 ∧ xz + 1 ≤ 17; omega, hfx.ln, hfx.ep⟩
    clear st owm hfx t0 t2 t3 t4 f0 f2 f3 f4
    go_wp2_with fail
    go_ret
    exact ⟨_, _, rfl, HS.out⟩
  · have hl1 := hfx.ln.1
    simp only at hl1
    obtain ⟨om, cm, hom⟩ := own_slice owm
    subst hom
    obtain ⟨gm, hgm⟩ : ∃ gm, om = some ⟨gm, 0, none⟩ := by
      rcases owm.2 with ⟨_, h0⟩ | ⟨g', cap', cur, e, _⟩
      · omega
      · simp only [Value.slice.injEq] at e
        exact ⟨g', e.1⟩
    subst hgm
    have hgl := st.own.row.lt g rfl
    have hml := owm.lt gm rfl
    have hgg : gm ≠ g := fun e => rows_twoK st.own.row owm (by decide) g rfl (by rw [← e]; rfl)
    have HL : Hid (∀ jn : Nat, jn < 3 → ∃ z : Int, (#[.int .i64 (-1), .int .i64 999, .int .i64 1000] : Array Value)[jn]? = some (.int .i64 z)) := fun jn h => by
      have h5 : jn = 0 ∨ jn = 1 ∨ jn = 2 := by omega
      rcases h5 with rfl | rfl | rfl
      · exact ⟨-1, rfl⟩
      · exact ⟨999, rfl⟩
      · exact ⟨1000, rfl⟩
    have HMEM : Hid ((⟨xn, xz, .slice (some ⟨gm, 0, none⟩) xr.length cm, xr, xf, xe⟩ : Pk) ∈ ms) := by rw [Hid, ← HX.out]; exact List.getElem_mem hI
    have n0 : (0 : Int) < (xr.length : Int) := by omega
    have n1 : 0 < xr.length := by omega
    have HOM : Hid (∀ X : World, Upto c w5 X → X.cell? ⟨gm, 0, none⟩ = some (.int .i64 xr[0]) ∧ X.frozen? ⟨gm, 0, none⟩ = false ∧ X.cell? ⟨g, I * 5 + 2, none⟩ = some (.slice (some ⟨gm, 0, none⟩) xr.length cm)) := fun X u => by
      obtain ⟨a, b⟩ := own_cell intC_len owm 0 0 xr[0] (List.getElem?_eq_getElem (by omega)) (by decide)
      have hcl := st.lt
      exact ⟨(u.cell (p := ⟨gm, 0, none⟩) hml.2 (show gm ≠ c by omega)).trans a, (u.frozen (p := ⟨gm, 0, none⟩) hml.2 (show gm ≠ c by omega)).trans b, (u.cell (p := ⟨g, I * 5 + 2, none⟩) hgl.2 (show g ≠ c by omega)).trans t2⟩
    have S0 : w5.drew.cell? ⟨g, I * 5 + 2, none⟩ = some (.slice (some ⟨gm, 0, none⟩) xr.length cm) := t2
    have S1 : w5.cell? ⟨g, I * 5 + 2, none⟩ = some (.slice (some ⟨gm, 0, none⟩) xr.length cm) := t2
    have M4 : g < w5.heap.size := hgl.2
    have N4 : ¬ g = w5.heap.size := by omega
    clear t0 t1 t2 t3 t4 f0 f1 f2 f3 f4 HX hfx owm
    go_upto_region 9 with fail
    go_region_law (go_simp; go_at_call 36; refine (below_any c x len cap 3 _ (by omega) (by first | exact st.kc.drew | exact (st.kc.alloc _).drew)).mono ?_; rintro e w6 ⟨y, rfl, hy, u6, k6⟩; have hy5 := hy.2.1 (by omega); obtain ⟨jn, rfl⟩ := Int.eq_ofNat_of_zero_le hy.1; obtain ⟨z, hz⟩ := HL.out jn (by omega); have hy6 : (0 : Int) ≤ (jn : Int) := (by omega); have hz2 : ∀ W : World, (W.alloc (.cells #[.int .i64 (-1), .int .i64 999, .int .i64 1000] 2)).cell? ⟨W.heap.size, jn, none⟩ = some (.int .i64 z) := (fun W => (World.cell?_alloc_mark W _ _ (0, 0) jn).trans hz); have U6 : Upto c w5 w6 := (by first | exact u6.undrew | exact ((Upto.refl c w5).alloc _).trans u6.undrew); (first | (have hz1 : w6.cell? ⟨w5.heap.size, jn, none⟩ = some (.int .i64 z) := (pick_cell u6.undrew st.kc.lt jn).trans hz) | skip); have st6 := st.step U6 k6; have z6 := U6.size; obtain ⟨A6, F6, S6⟩ := HOM.out w6 U6; have N5 : ¬ gm = w6.heap.size := (by omega); have G5 : gm < w6.heap.size := (by omega); have M5 : g < w6.heap.size := (by omega); have O5 : ¬ g = w6.heap.size := (by omega); have HS : Hid _ := st6.first _ HMEM.out rfl z; clear st6; dsimp only)
    all_goals (try go_wp2_with fail)
    all_goals go_ret
    all_goals first | exact ⟨_, rfl, _, HS.out⟩ | exact ⟨_, rfl, _, HS.out.alloc _⟩ | exact ⟨_, rfl, _, HS.out.drawn⟩ | exact ⟨_, rfl, _, (HS.out.alloc _).drawn⟩ | exact ⟨_, _, rfl, HS.out⟩ | exact ⟨_, _, rfl, HS.out.alloc _⟩
  · clear t1 t2 t3 t4 f1 f2 f3 f4 owm
    go_wp2_with fail
    refine (name_any c x len cap _ st.kc).mono ?_
    rintro e w6 ⟨nm, rfl, hnm, u6, k6⟩
    replace st := st.step u6 k6
    obtain ⟨⟨t0', -⟩, f0', -⟩ := own_fiveK st.own.row I hI
    rw [HX.out] at t0'
    simp only at t0'
    have HS : Hid _ := st.field hI 0 ⟨nm, xz, xm, xr, xf, xe⟩ (.string nm) (by decide) (by rw [HX.out]; rfl) (by rw [HX.out]) (by rw [HX.out]) ⟨hnm, hfx.sz, hfx.ln, hfx.ep⟩
    clear st hfx t0 f0 u6 k6
    go_wp2_with fail
    go_ret
    exact ⟨_, _, rfl, HS.out⟩
  · clear t0 t1 t2 t3 t4 f0 f1 f2 f3 f4 owm
    go_wp2_with fail
    refine (below_any c x len cap 3 _ (by omega) (st.kc.alloc _)).mono ?_
    rintro e w6 ⟨y, rfl, hy, u6, k6⟩
    have hkl := st.kc.lt
    have st6 := (st.alloc (.cells #[.int .i64 (-1), .int .i64 1000, .int .i64 1001] 2)).step u6 k6
    have hy3 := hy.2.1 (by omega)
    obtain ⟨jn, rfl⟩ := Int.eq_ofNat_of_zero_le hy.1
    have hj3 : jn < 3 := by omega
    have j0 : (0 : Int) ≤ (jn : Int) := by omega
    have j1 : (jn : Int) < 3 := by omega
    obtain ⟨z, hz, hzs⟩ : ∃ z : Int, w6.cell? ⟨w5.heap.size, jn, none⟩ = some (.int .i64 z) ∧ (-1 ≤ z ∧ z ≤ 1001) := by
      rw [pick_cell u6 hkl jn]
      have h3 : jn = 0 ∨ jn = 1 ∨ jn = 2 := by omega
      rcases h3 with rfl | rfl | rfl <;> exact ⟨_, rfl, by decide⟩
    obtain ⟨⟨-, -, -, -, t4'⟩, -, -, -, -, f4'⟩ := own_fiveK st6.own.row I hI
    rw [HX.out] at t4'
    simp only at t4'
    have HS : Hid _ := st6.field hI 4 ⟨xn, xz, xm, xr, xf, z⟩ (.int .i64 z) (by decide) (by rw [HX.out]; rfl) (by rw [HX.out]) (by rw [HX.out]) ⟨hfx.nm, hfx.sz, hfx.ln, hzs⟩
    clear st st6 hfx u6 k6 hy
    go_wp2_with fail
    go_ret
    exact ⟨_, _, rfl, HS.out⟩
end Go.Proofs.YtcefcglonooelaaGreatDoor

namespace Go.Proofs.YtcefcglonooelaaGreatDoor
open Go.RowKit

set_option linter.unusedVariables false


/-- Drawn plains, as a law sees them. -/
structure P9 (w W : World) (v : Value) (ms : List Pk) : Prop where
  own : OwnK w.heap.size W v ms
  few : ms.length ≤ 6
  nm : ∀ m ∈ ms, m.nm.size ≤ 5
  ln : ∀ m ∈ ms, m.rs.length ≤ 17
  ep : ∀ m ∈ ms, -1 ≤ m.ep ∧ m.ep ≤ 1001
  d : Below w.heap.size w W

set_option maxRecDepth 100000 in
set_option maxHeartbeats 6400000 in
theorem drawDidPlain_any (x : Option Addr) (len cap : Nat) (w : World) (hs : Src w w.heap.size x len) :
    Calls Tryz.prog 8 #[.slice x len cap] w fun e w' => ∃ (v : Value) (ms : List Pk) (o : Oq) (told : Int), e = .returned (.tuple #[v, .agg #[.int .i64 o.k, .string o.nm, .string o.ot, .int .i64 o.at_, .int .i64 o.va, .int .i64 o.ep], .int .i64 told]) ∧ P9 w w' v ms ∧ OpFit o ∧ (0 ≤ told ∧ told ≤ 9) := by
  obtain ⟨W0, hW0, kR, d0, z0⟩ := box1 w #[.int .i64 0, .string ⟨#[]⟩, .string ⟨#[]⟩, .int .i64 0, .int .i64 0, .int .i64 0] 26
  have HW0 : Hid (W0 = _) := hW0
  have hs0 := (hs.below d0).mono d0.size
  have sR : w.heap.size < W0.heap.size := by omega
  clear hW0 z0 hs
  go_enter Tryz.func8, Tryz.ntmps8
  go_wp2_with fail
  rw [← HW0.out]
  clear HW0
  refine (new_any x len cap _ hs0).mono ?_
  rintro e w1 ⟨rfl, b1, kc⟩
  replace kR := (b1.block _ (by omega)).trans kR
  replace d0 := bw_call d0 b1
  have z1 := b1.size
  have hcl := kc.lt
  clear b1 hs0
  go_wp2_with fail
  refine (draw9_any _ x len cap _ kc).mono ?_
  rintro e w2 ⟨v, ms, rfl, K⟩
  have u1 := K.u
  replace kR := (u1.block _ (by omega) (by omega)).trans kR
  replace d0 := d0.trans (u1.toBelow (by omega) (by omega))
  have z2 := u1.size
  obtain ⟨o, cp, rfl⟩ := own_slice K.own.row
  generalize hcc : W0.heap.size = c at *
  have hc2 : c < w2.heap.size := by omega
  clear u1 kc
  go_wp2_with fail
  refine (l9Books_any _ ms _ (by have := K.few; omega) K.own.reads).mono ?_
  rintro e w3 ⟨vb, bs, rfl, hbs, ob, hnil, b3⟩
  replace K := K.below b3
  replace kR := (b3.block _ (heap_lt kR)).trans kR
  replace d0 := bw_call d0 b3
  have z3 := b3.size
  have hbl : bs.length ≤ 1048576 := by
    have h := congrArg List.length hbs
    rw [List.length_map, List.length_map, List.length_map] at h
    have := K.few
    omega
  have HBF : Hid (∀ b ∈ bs, b.nm.size ≤ 5 ∧ -1 ≤ b.ep ∧ b.ep ≤ 1001) := fun b hb => by
    have h1 : b.pb ∈ (ms.map Pk.pv).map Pv.pb := by rw [← hbs]; exact List.mem_map_of_mem hb
    obtain ⟨p, hp, e⟩ := List.mem_map.1 h1
    obtain ⟨m, hm, rfl⟩ := List.mem_map.1 hp
    have f := K.fit m hm
    have e1 : m.nm = b.nm := congrArg Pb.nm e
    have e2 : m.ep = b.ep := congrArg Pb.ep e
    rw [← e1, ← e2]
    exact ⟨f.nm, f.ep⟩
  clear b3 hbs hnil
  go_wp2_with fail
  refine (drawOp8_any c x len cap w2.heap.size _ bs _ K.kc hc2 hbl HBF.out ob).mono ?_
  rintro e w4 ⟨oq, rfl, fit, u4, k4⟩
  obtain ⟨k, nm, ot, at_, va, ep⟩ := oq
  simp only
  have hzR := heap_lt kR
  replace K := K.step u4 k4
  replace kR := (u4.block _ (heap_lt kR) (by omega)).trans kR
  replace d0 := d0.trans (u4.toBelow (by omega) (by omega))
  have z4 := u4.size
  have HFT : Hid _ := fit
  clear u4 k4 ob HBF fit
  have bP : Below w4.heap.size w4 (w4.alloc (.cells #[.int .i64 k, .string nm, .string ot, .int .i64 at_, .int .i64 va, .int .i64 ep] 26)) := bw_alloc (Below.refl _ _)
  have kB := heap_alloc_new w4 (.cells #[.int .i64 k, .string nm, .string ot, .int .i64 at_, .int .i64 va, .int .i64 ep] 26)
  replace K := K.below bP
  replace kR := (bP.block _ (by omega)).trans kR
  replace d0 := bw_call d0 bP
  have hw2 : c < w4.heap.size := by omega
  have hw3 : w.heap.size < w4.heap.size := by omega
  clear bP
  go_upto_region 4 with fail
  generalize w4.alloc (.cells #[.int .i64 k, .string nm, .string ot, .int .i64 at_, .int .i64 va, .int .i64 ep] 26) = W5 at *
  generalize w4.heap.size = nB at *
  have kBd : W5.drew.heap[nB]? = _ := kB
  have c0 := at_cell kBd 0
  have c1 := at_cell kBd 1
  have c2 := at_cell kBd 2
  have c3 := at_cell kBd 3
  have c4 := at_cell kBd 4
  have c5 := at_cell kBd 5
  have HFIN : Hid (∀ (w6 : World), Upto c W5 w6 → Cur w6 c x len cap →
      w6.heap[w.heap.size]? = some (.cells #[.int .i64 0, .string ⟨#[]⟩, .string ⟨#[]⟩, .int .i64 0, .int .i64 0, .int .i64 0] 26 (0, 0)) ∧ w6.heap[nB]? = some (.cells #[.int .i64 k, .string nm, .string ot, .int .i64 at_, .int .i64 va, .int .i64 ep] 26 (0, 0)) ∧
      (∀ W7, W7 = (((((w6.setCell ⟨w.heap.size, 0, none⟩ (.int .i64 k)).setCell ⟨w.heap.size, 1, none⟩ (.string nm)).setCell ⟨w.heap.size, 2, none⟩ (.string ot)).setCell ⟨w.heap.size, 3, none⟩ (.int .i64 at_)).setCell ⟨w.heap.size, 4, none⟩ (.int .i64 va)).setCell ⟨w.heap.size, 5, none⟩ (.int .i64 ep) → W7.heap[w.heap.size]? = some (.cells #[.int .i64 k, .string nm, .string ot, .int .i64 at_, .int .i64 va, .int .i64 ep] 26 (0, 0)) ∧ P9 w W7 (.slice o ms.length cp) ms)) := fun w6 u6 k6 => by
    have hzR := heap_lt kR
    have K6 := K.step u6 k6
    have kR6 := (u6.block _ (heap_lt kR) (by omega)).trans kR
    have kB6 := (u6.block _ (heap_lt kB) (by omega)).trans kB
    have d6 := d0.trans (u6.toBelow (by omega) (by omega))
    refine ⟨kR6, kB6, fun W7 hW7 => ?_⟩
    obtain ⟨kR7, u7⟩ := six_put kR6 (.int .i64 k) (.string nm) (.string ot) (.int .i64 at_) (.int .i64 va) (.int .i64 ep)
    rw [← hW7] at kR7 u7
    have hz6 := heap_lt kR6
    have own7 : OwnK w1.heap.size W7 (.slice o ms.length cp) ms := ⟨ownsRow_upto K6.own.row u7 (by omega), fun m hm => ownsRow_upto (K6.own.maps m hm) u7 (by omega)⟩
    exact ⟨kR7, ⟨own7.mono (by omega), K6.few, fun m hm => (K6.fit m hm).nm, fun m hm => by have := (K6.fit m hm).ln; omega, fun m hm => (K6.fit m hm).ep, d6.trans (u7.toBelow (by omega) (Nat.le_refl _))⟩⟩
  have HKC : Hid (Cur W5.drew c x len cap) := K.kc.drew
  clear kR d0 kB kBd K
  go_region_law ((go_simp; go_at_call 36; refine (below_any c x len cap 10 _ (by omega) HKC.out).mono ?_; rintro e w6 ⟨y, rfl, hy, u6, k6⟩; have hf := HFIN.out w6 (upto_undrew u6) k6; obtain ⟨kR6, kB6, hf⟩ := hf; have e0 := at_cell kB6 0; have e1 := at_cell kB6 1; have e2 := at_cell kB6 2; have e3 := at_cell kB6 3; have e4 := at_cell kB6 4; have e5 := at_cell kB6 5; have r0 := at_cell kR6 0; have r1 := at_cell kR6 1; have r2 := at_cell kR6 2; have r3 := at_cell kR6 3; have r4 := at_cell kR6 4; have r5 := at_cell kR6 5; have f0 := at_open kR6 0; have f1 := at_open kR6 1; have f2 := at_open kR6 2; have f3 := at_open kR6 3; have f4 := at_open kR6 4; have f5 := at_open kR6 5; have HE : Hid _ := And.intro (show 0 ≤ y ∧ y ≤ 9 by have := hy.2.1 (by omega); have := hy.1; omega) (hf _ rfl); clear hf; dsimp only))
  all_goals
    clear c0 c1 c2 c3 c4 c5 e0 e1 e2 e3 e4 e5 r0 r1 r2 r3 r4 r5 f0 f1 f2 f3 f4 f5 kR6 kB6 HFIN u6 k6 hy HKC
    go_wp2_with fail
    exact bodyPost_ret (v := .tuple #[.slice o ms.length cp, .agg #[.int .i64 k, .string nm, .string ot, .int .i64 at_, .int .i64 va, .int .i64 ep], .int .i64 y]) (by simp [results, Tryz.results8, go_sem, at_cell HE.out.2.1]) rfl ⟨_, ms, ⟨k, nm, ot, at_, va, ep⟩, y, rfl, HE.out.2.2, HFT.out, HE.out.1⟩
end Go.Proofs.YtcefcglonooelaaGreatDoor

namespace Go.Proofs.YtcefcglonooelaaGreatDoor
set_option linter.unusedVariables false

set_option maxRecDepth 100000


theorem find_own {l : List Pv} (h : plainsOk l = true) (i : Nat) (hi : i < l.length) : findP (l.map Pv.pb) l[i].nm = i := by
  have hs := plains_srt h
  have h0 : ¬ findP (l.map Pv.pb) l[i].nm < 0 := fun q => find_not (l.map Pv.pb) l[i].nm q l[i].pb (List.mem_map_of_mem (List.getElem_mem hi)) rfl
  obtain ⟨j, hj, e, hn⟩ := find_in (l.map Pv.pb) l[i].nm h0
  have hj' : j < l.length := by simpa using hj
  have hn' : l[j].nm = l[i].nm := by
    rw [List.getElem_map] at hn
    exact hn
  rw [e]
  by_cases hij : j = i
  · rw [hij]
  · exfalso
    have hp := List.pairwise_iff_getElem.1 hs
    rcases Nat.lt_or_ge j i with q | q
    · have h1 := hp j i (by simpa using hj') (by simpa using hi) q
      rw [List.getElem_map, List.getElem_map, hn'] at h1
      exact absurd h1 (by rw [ltB_irrefl]; decide)
    · have h1 := hp i j (by simpa using hi) (by simpa using hj') (by omega)
      rw [List.getElem_map, List.getElem_map, hn'] at h1
      exact absurd h1 (by rw [ltB_irrefl]; decide)

theorem book_own {l : List Pv} (i : Nat) (hi : i < l.length) : bookAt (l.map Pv.pb) (i : Int) = l[i].pb := by
  rw [bookAt_of (l.map Pv.pb) i (by simpa using hi), List.getElem_map]

theorem att_ok {n : ByteArray} (h : Nums.nameB n.data.toList = true) : opOk ⟨8, n, ⟨#[]⟩, 0, 0, 0⟩ = true := by
  simp only [opOk, h]
  rfl

theorem wr_ok {n : ByteArray} (h : Nums.nameB n.data.toList = true) (e : Int) (he : 0 ≤ e ∧ e ≤ 1000) : opOk ⟨2, n, ⟨#[]⟩, 0, 5, e⟩ = true := by
  simp only [opOk, h, inB]
  simp [he.1, he.2, kOther, kAt, kEpoch, valOk, kSize, inB]
  rfl

/-- An attach of a book that is there. -/
theorem attach9 {l : List Pv} (h : plainsOk l = true) (i : Nat) (hi : i < l.length) : didPlain l ⟨8, l[i].nm, ⟨#[]⟩, 0, 0, 0⟩ 0 = if l[i].ep = 1000 then (l, (8, 0)) else (l.set i { l[i] with ep := l[i].ep + 1 }, (0, l[i].ep + 1)) := by
  have hp := pv_all ((plains_ok h).2 _ (List.getElem_mem hi))
  have hok := att_ok hp.1
  have hf := find_own h i hi
  have hr : refused (l.map Pv.pb) ⟨8, l[i].nm, ⟨#[]⟩, 0, 0, 0⟩ = if l[i].ep = 1000 then 8 else 0 := by
    unfold refused
    simp only [hf, book_own i hi]
    rw [if_neg (by omega), if_neg (by simp [kOther]), if_neg (by omega), if_neg (by simp [kEpoch]), if_neg (by simp [kEpoch]), if_neg (by simp [kAt]), if_neg (by simp [kOther])]
    by_cases e : l[i].ep = 1000
    · rw [if_pos ⟨trivial, e⟩, if_pos e]
    · rw [if_neg (fun q => e q.2), if_neg e]
  rw [didPlain, if_pos h]
  by_cases e : l[i].ep = 1000
  · rw [if_pos e] at hr ⊢
    rw [doPlain_refd 0 hok (by rw [hr]; decide), hr]
  · rw [if_neg e] at hr ⊢
    exact doPlain_one hi hok hr (fun q => absurd q.2 (by decide)) ⟨(show (8 : Int) ≠ 1 by decide), (show (8 : Int) ≠ 6 by decide), rfl⟩ hf

theorem attached_ok {l : List Pv} (h : plainsOk l = true) (i : Nat) (hi : i < l.length) (he : l[i].ep ≠ 1000) : plainsOk (l.set i { l[i] with ep := l[i].ep + 1 }) = true := by
  have hp := pv_all ((plains_ok h).2 _ (List.getElem_mem hi))
  refine set_ok h hi (pv_ok_by hp.1 hp.2.1 ?_ hp.2.2.2.1 hp.2.2.2.2) rfl
  show 0 ≤ l[i].ep + 1 ∧ l[i].ep + 1 ≤ 1000
  have := hp.2.2.1
  omega

theorem refused_wr {y : List Pv} (h : plainsOk y = true) (i : Nat) (hi : i < y.length) (e : Int) : refused (y.map Pv.pb) ⟨2, y[i].nm, ⟨#[]⟩, 0, 5, e⟩ = if e < y[i].ep then 4 else if y[i].fx = true then 5 else 0 := by
  have hp := pv_all ((plains_ok h).2 _ (List.getElem_mem hi))
  have hf := find_own h i hi
  have hsz : ¬ (y[i].pb.sz ≤ 0) := by show ¬ y[i].sz ≤ 0; omega
  unfold refused
  simp only [hf, book_own i hi]
  rw [if_neg (by omega), if_neg (by simp [kOther]), if_neg (by omega)]
  by_cases h1 : e < y[i].ep
  · rw [if_pos ⟨by decide, h1⟩, if_pos h1]
  · rw [if_neg (fun q => h1 q.2), if_neg h1]
    by_cases h2 : y[i].fx = true
    · rw [if_pos ⟨by decide, by decide, h2⟩, if_pos h2]
    · rw [if_neg (fun q => h2 q.2.2), if_neg h2, if_neg (fun q => hsz q.2), if_neg (by simp [kOther]), if_neg (by simp)]

/-- Behind an attach each epoch below is fenced. -/
theorem fenced9 {l : List Pv} (h : plainsOk l = true) (i : Nat) (hi : i < l.length) (he : l[i].ep ≠ 1000) : didPlain (l.set i { l[i] with ep := l[i].ep + 1 }) ⟨2, l[i].nm, ⟨#[]⟩, 0, 5, l[i].ep⟩ 0 = (l.set i { l[i] with ep := l[i].ep + 1 }, (4, 0)) := by
  have hp := pv_all ((plains_ok h).2 _ (List.getElem_mem hi))
  have hy := attached_ok h i hi he
  have hi' : i < (l.set i { l[i] with ep := l[i].ep + 1 }).length := by rw [List.length_set]; exact hi
  have hn : ((l.set i { l[i] with ep := l[i].ep + 1 })[i]'hi') = { l[i] with ep := l[i].ep + 1 } := List.getElem_set_self hi'
  have hr := refused_wr hy i hi' l[i].ep
  rw [hn] at hr
  simp only at hr
  rw [if_pos (by omega)] at hr
  rw [didPlain, if_pos hy, doPlain_refd 0 (wr_ok hp.1 l[i].ep hp.2.2.1) (by rw [hr]; decide), hr]

theorem fixed9 {l : List Pv} (h : plainsOk l = true) (i : Nat) (hi : i < l.length) (he : l[i].ep ≠ 1000) : (didPlain (l.set i { l[i] with ep := l[i].ep + 1 }) ⟨2, l[i].nm, ⟨#[]⟩, 0, 5, l[i].ep + 1⟩ 0).2.1 = if l[i].fx = true then 5 else 0 := by
  have hp := pv_all ((plains_ok h).2 _ (List.getElem_mem hi))
  have hy := attached_ok h i hi he
  have hi' : i < (l.set i { l[i] with ep := l[i].ep + 1 }).length := by rw [List.length_set]; exact hi
  have hn : ((l.set i { l[i] with ep := l[i].ep + 1 })[i]'hi') = { l[i] with ep := l[i].ep + 1 } := List.getElem_set_self hi'
  have hr := refused_wr hy i hi' (l[i].ep + 1)
  rw [hn] at hr
  simp only at hr
  rw [if_neg (by omega)] at hr
  have hok : opOk ⟨2, l[i].nm, ⟨#[]⟩, 0, 5, l[i].ep + 1⟩ = true := wr_ok hp.1 _ (by have := hp.2.2.1; omega)
  rw [didPlain, if_pos hy]
  by_cases hf : l[i].fx = true
  · rw [if_pos hf] at hr ⊢
    rw [doPlain_refd 0 hok (by rw [hr]; decide), hr]
  · rw [if_neg hf] at hr ⊢
    have hfp := find_own hy i hi'
    rw [hn] at hfp
    rw [doPlain_one hi' hok hr (fun q => absurd q.2 (by decide)) ⟨(show (2 : Int) ≠ 1 by decide), (show (2 : Int) ≠ 6 by decide), rfl⟩ hfp]
    rfl
end Go.Proofs.YtcefcglonooelaaGreatDoor

namespace Go.Proofs.YtcefcglonooelaaGreatDoor
open Go.RowKit

set_option linter.unusedVariables false


set_option maxRecDepth 100000 in
set_option maxHeartbeats 3200000 in
theorem likePlains_same (v v' : Value) (bs ms : List Pk) (w : World) (hp : ms.map bareK = bs.map bareK) (r : ReadsK w.heap.size w v bs) (r' : ReadsK w.heap.size w v' ms) :
    Calls Tryz.prog 12 #[v, v'] w fun e w' => e = .returned (.bool true) ∧ Below w.heap.size w w' := by
  have RM : Hid _ := r.maps
  have RM' : Hid _ := r'.maps
  have hl := bare_len hp
  have HP : Hid _ := hp
  obtain ⟨o1, cap1, rfl, m1, c1, -⟩ := r.row
  obtain ⟨o2, cap2, rfl, m2, c2, -⟩ := r'.row
  have C1 : Hid _ := five_cellsK c1
  have C2 : Hid _ := five_cellsK c2
  have HL : Hid (ms.length = bs.length) := hl
  rw [hl]
  unfold maxLen at m1
  clear c1 c2 m2 r r' hp hl
  go_enter Tryz.func12, Tryz.ntmps12
  go_wp2_with fail
  go_loopw [5] (fun i wr => ∃ k : Nat, k ≤ bs.length ∧ i = .int .i64 k ∧ Below w.heap.size w wr) (fun i _ => bs.length - (intOf i).toNat)
  case atStart => exact ⟨0, Nat.zero_le _, rfl, Below.refl _ _⟩
  case round =>
    obtain ⟨k, hk, rfl, hb⟩ := hrel
    by_cases hlt : k < bs.length
    · have hlt2 : k < ms.length := by have := HL.out; omega
      obtain ⟨g1, of1, rfl, q1, a0, a1, a2, a3, a4⟩ := C1.out k hlt
      obtain ⟨g2, of2, rfl, q2, b0, b1, b2, b3, b4⟩ := C2.out k hlt2
      have rm := ((RM.out bs[k] (List.getElem_mem hlt)).below hb).mono hb.size
      have rm' := ((RM'.out ms[k] (List.getElem_mem hlt2)).below hb).mono hb.size
      have hpk := bare_at HP.out k hlt2 hlt
      generalize bs[k] = x at a0 a1 a2 a3 a4 rm hpk
      generalize ms[k] = y at b0 b1 b2 b3 b4 rm' hpk
      obtain ⟨nm, sz, m, rs, fx, ep⟩ := x
      obtain ⟨nm', sz', m', rs', fx', ep'⟩ := y
      simp only [bareK, Prod.mk.injEq] at a0 a1 a2 a3 a4 b0 b1 b2 b3 b4 rm rm' hpk
      obtain ⟨rfl, rfl, rfl, rfl, rfl⟩ := hpk
      obtain ⟨oa, ca, hma⟩ := rm.form
      subst hma
      obtain ⟨ob, cb, hmb⟩ := rm'.form
      subst hmb
      replace a0 := (hb.cell (p := ⟨g1, of1 + k * 5, none⟩) q1).trans a0
      replace a1 := (hb.cell (p := ⟨g1, of1 + k * 5 + 1, none⟩) q1).trans a1
      replace a2 := (hb.cell (p := ⟨g1, of1 + k * 5 + 2, none⟩) q1).trans a2
      replace a3 := (hb.cell (p := ⟨g1, of1 + k * 5 + 3, none⟩) q1).trans a3
      replace a4 := (hb.cell (p := ⟨g1, of1 + k * 5 + 4, none⟩) q1).trans a4
      replace b0 := (hb.cell (p := ⟨g2, of2 + k * 5, none⟩) q2).trans b0
      replace b1 := (hb.cell (p := ⟨g2, of2 + k * 5 + 1, none⟩) q2).trans b1
      replace b2 := (hb.cell (p := ⟨g2, of2 + k * 5 + 2, none⟩) q2).trans b2
      replace b3 := (hb.cell (p := ⟨g2, of2 + k * 5 + 3, none⟩) q2).trans b3
      replace b4 := (hb.cell (p := ⟨g2, of2 + k * 5 + 4, none⟩) q2).trans b4
      obtain ⟨WA, hWA, -, dA, -⟩ := box1 wr #[.string nm', .int .i64 sz', .slice oa rs'.length ca, .bool fx', .int .i64 ep'] 51
      have l2 : g2 < wr.heap.size := Nat.lt_of_lt_of_le q2 hb.size
      replace b0 := (dA.cell (p := ⟨g2, of2 + k * 5, none⟩) l2).trans b0
      replace b1 := (dA.cell (p := ⟨g2, of2 + k * 5 + 1, none⟩) l2).trans b1
      replace b2 := (dA.cell (p := ⟨g2, of2 + k * 5 + 2, none⟩) l2).trans b2
      replace b3 := (dA.cell (p := ⟨g2, of2 + k * 5 + 3, none⟩) l2).trans b3
      replace b4 := (dA.cell (p := ⟨g2, of2 + k * 5 + 4, none⟩) l2).trans b4
      obtain ⟨W2, hW2, kA, kB, d2, z2⟩ := box2 wr #[.string nm', .int .i64 sz', .slice oa rs'.length ca, .bool fx', .int .i64 ep'] #[.string nm', .int .i64 sz', .slice ob rs'.length cb, .bool fx', .int .i64 ep'] 51 51
      have RA := readsK_to ((rm.below d2).mono d2.size)
      have RB := readsK_to ((rm'.below d2).mono d2.size)
      have hb2 := hb.trans (d2.mono hb.size)
      have u0 := at_cell kA 0
      have t0 := at_cell kB 0
      have u1 := at_cell kA 1
      have t1 := at_cell kB 1
      have u2 := at_cell kA 2
      have t2 := at_cell kB 2
      have u3 := at_cell kA 3
      have t3 := at_cell kB 3
      have u4 := at_cell kA 4
      have t4 := at_cell kB 4
      have i0 : (0 : Int) ≤ (k : Int) := by omega
      have i1 : (k : Int) < (bs.length : Int) := by omega
      have n1 : (nm'.toList != nm'.toList) = false := by simp
      have n2 : (sz' != sz') = false := by simp
      have n3 : (fx' != fx') = false := by simp
      have n4 : (ep' != ep') = false := by simp
      have D2 : Hid _ := And.intro RA (And.intro RB (And.intro hb2 (And.intro kA kB)))
      clear rm rm' kA kB d2 z2 RA RB hb2 dA
      subst hWA hW2
      clear C1 C2 RM RM' HP
      go_wp2_with fail
      refine (likeInts_any _ _ rs' rs' _ D2.out.1 D2.out.2.1).mono ?_
      rw [show decide (rs' = rs') = true by simp]
      rintro e w3 ⟨rfl, b3⟩
      have hb3 := D2.out.2.2.1.trans (b3.mono D2.out.2.2.1.size)
      have kA3 := (b3.block _ (heap_lt D2.out.2.2.2.1)).trans D2.out.2.2.2.1
      have kB3 := (b3.block _ (heap_lt D2.out.2.2.2.2)).trans D2.out.2.2.2.2
      have x3 := at_cell kA3 3
      have x4 := at_cell kA3 4
      have y3 := at_cell kB3 3
      have y4 := at_cell kB3 4
      clear a0 a1 a2 a3 a4 b0 b1 b2 b4 u0 u1 u2 u3 u4 t0 t1 t2 t3 t4 kA3 kB3 D2
      go_wp2_with fail
      go_roundw
      case rel => exact ⟨k + 1, by omega, by go_num, hb3⟩
      case measure => simp [intOf]; omega
    · have g2' : ¬ (k : Int) < (bs.length : Int) := by omega
      clear C1 C2 RM RM' HP
      go_wp2_with fail
      go_ret
      exact ⟨rfl, hb⟩
end Go.Proofs.YtcefcglonooelaaGreatDoor

