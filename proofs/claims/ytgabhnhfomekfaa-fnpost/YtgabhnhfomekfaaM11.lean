/-
  Contracts and plain laws, one chapter behind the other.
-/
import Derived.Deep.DeepCutAuto
import Derived.Test.YtgabhnhfomekfaaM01
import Derived.Test.YtgabhnhfomekfaaM05
import Derived.Test.YtgabhnhfomekfaaM06
import Derived.Test.YtgabhnhfomekfaaM07
import Derived.Test.YtgabhnhfomekfaaM10
namespace Go.Proofs.Ytgabhnhfomekfaa
open Go.RowKit

set_option linter.unusedVariables false


/-- An op that was drawn has small numbers and short names. -/
structure OpFit (o : Oq) : Prop where
  k : -1 ≤ o.k ∧ o.k ≤ 10
  nm : o.nm.size ≤ 5
  ot : o.ot.size ≤ 5
  at_ : -1 ≤ o.at_ ∧ o.at_ ≤ 256
  va : -1 ≤ o.va ∧ o.va ≤ 1000
  ep : -1 ≤ o.ep ∧ o.ep ≤ 1001

/-- While an op is drawn: its box at nB, the answer's at the start's end. -/
structure OpSt (c : Nat) (x : Option Addr) (len cap nB : Nat) (w W : World) (o : Oq) : Prop where
  kB : W.heap[nB]? = some (.cells #[.int .i64 o.k, .string o.nm, .string o.ot, .int .i64 o.at_, .int .i64 o.va, .int .i64 o.ep] 32 (0, 0))
  kR : W.heap[w.heap.size]? = some (.cells #[.int .i64 0, .string ⟨#[]⟩, .string ⟨#[]⟩, .int .i64 0, .int .i64 0, .int .i64 0] 32 (0, 0))
  kc : Cur W c x len cap
  u : Upto c w W
  lt : c < w.heap.size
  nb : w.heap.size < nB
  fit : OpFit o

theorem OpSt.step {c nB : Nat} {x : Option Addr} {len cap : Nat} {w W W' : World} {o : Oq} (h : OpSt c x len cap nB w W o) (u : Upto c W W') (kc : Cur W' c x len cap) : OpSt c x len cap nB w W' o := by
  have hlt := h.lt
  have hnb := h.nb
  exact ⟨(u.block _ (heap_lt h.kB) (by omega)).trans h.kB, (u.block _ (heap_lt h.kR) (by omega)).trans h.kR, kc, h.u.trans u, h.lt, h.nb, h.fit⟩

theorem OpSt.alloc {c nB : Nat} {x : Option Addr} {len cap : Nat} {w W : World} {o : Oq} (h : OpSt c x len cap nB w W o) (b : Obj) : OpSt c x len cap nB w (W.alloc b) o :=
  h.step ((Upto.refl c W).alloc b) (h.kc.alloc b)

theorem OpSt.put {c nB : Nat} {x : Option Addr} {len cap : Nat} {w W : World} {o : Oq} (h : OpSt c x len cap nB w W o) (i : Nat) (v : Value) (o' : Oq) (he : (#[Value.int .i64 o.k, .string o.nm, .string o.ot, .int .i64 o.at_, .int .i64 o.va, .int .i64 o.ep] : Array Value).setIfInBounds i v = #[.int .i64 o'.k, .string o'.nm, .string o'.ot, .int .i64 o'.at_, .int .i64 o'.va, .int .i64 o'.ep]) (hf : OpFit o') : OpSt c x len cap nB w (W.setCell ⟨nB, i, none⟩ v) o' := by
  have hlt := h.lt
  have hnb := h.nb
  have k1 := set_at h.kB i v
  rw [he] at k1
  have uu : Upto nB W (W.setCell ⟨nB, i, none⟩ v) := (Upto.refl nB W).setCell ⟨nB, i, none⟩ (.inl rfl) v
  exact ⟨k1, (uu.block _ (heap_lt h.kR) (by omega)).trans h.kR, h.kc.same (uu.toBelow h.kc.lt (by omega)), h.u.setCell ⟨nB, i, none⟩ (.inr (Nat.le_of_lt h.nb)) v, h.lt, h.nb, hf⟩

/-- The answer is written. -/
theorem OpSt.fin {c nB : Nat} {x : Option Addr} {len cap : Nat} {w W : World} {o : Oq} (h : OpSt c x len cap nB w W o) :
    ((((((W.setCell ⟨w.heap.size, 0, none⟩ (.int .i64 o.k)).setCell ⟨w.heap.size, 1, none⟩ (.string o.nm)).setCell ⟨w.heap.size, 2, none⟩ (.string o.ot)).setCell ⟨w.heap.size, 3, none⟩ (.int .i64 o.at_)).setCell ⟨w.heap.size, 4, none⟩ (.int .i64 o.va)).setCell ⟨w.heap.size, 5, none⟩ (.int .i64 o.ep)).heap[w.heap.size]? = some (.cells #[.int .i64 o.k, .string o.nm, .string o.ot, .int .i64 o.at_, .int .i64 o.va, .int .i64 o.ep] 32 (0, 0)) ∧
    Upto c w ((((((W.setCell ⟨w.heap.size, 0, none⟩ (.int .i64 o.k)).setCell ⟨w.heap.size, 1, none⟩ (.string o.nm)).setCell ⟨w.heap.size, 2, none⟩ (.string o.ot)).setCell ⟨w.heap.size, 3, none⟩ (.int .i64 o.at_)).setCell ⟨w.heap.size, 4, none⟩ (.int .i64 o.va)).setCell ⟨w.heap.size, 5, none⟩ (.int .i64 o.ep)) ∧
    Cur ((((((W.setCell ⟨w.heap.size, 0, none⟩ (.int .i64 o.k)).setCell ⟨w.heap.size, 1, none⟩ (.string o.nm)).setCell ⟨w.heap.size, 2, none⟩ (.string o.ot)).setCell ⟨w.heap.size, 3, none⟩ (.int .i64 o.at_)).setCell ⟨w.heap.size, 4, none⟩ (.int .i64 o.va)).setCell ⟨w.heap.size, 5, none⟩ (.int .i64 o.ep)) c x len cap := by
  have hlt := h.lt
  have uu : Upto w.heap.size W ((((((W.setCell ⟨w.heap.size, 0, none⟩ (.int .i64 o.k)).setCell ⟨w.heap.size, 1, none⟩ (.string o.nm)).setCell ⟨w.heap.size, 2, none⟩ (.string o.ot)).setCell ⟨w.heap.size, 3, none⟩ (.int .i64 o.at_)).setCell ⟨w.heap.size, 4, none⟩ (.int .i64 o.va)).setCell ⟨w.heap.size, 5, none⟩ (.int .i64 o.ep)) := ((((((Upto.refl _ _).setCell ⟨w.heap.size, 0, none⟩ (.inl rfl) _).setCell ⟨w.heap.size, 1, none⟩ (.inl rfl) _).setCell ⟨w.heap.size, 2, none⟩ (.inl rfl) _).setCell ⟨w.heap.size, 3, none⟩ (.inl rfl) _).setCell ⟨w.heap.size, 4, none⟩ (.inl rfl) _).setCell ⟨w.heap.size, 5, none⟩ (.inl rfl) _
  refine ⟨set_at (set_at (set_at (set_at (set_at (set_at h.kR 0 _) 1 _) 2 _) 3 _) 4 _) 5 _, ?_, h.kc.same (uu.toBelow h.kc.lt (by omega))⟩
  exact (((((h.u.setCell ⟨w.heap.size, 0, none⟩ (.inr (Nat.le_refl _)) _).setCell ⟨w.heap.size, 1, none⟩ (.inr (Nat.le_refl _)) _).setCell ⟨w.heap.size, 2, none⟩ (.inr (Nat.le_refl _)) _).setCell ⟨w.heap.size, 3, none⟩ (.inr (Nat.le_refl _)) _).setCell ⟨w.heap.size, 4, none⟩ (.inr (Nat.le_refl _)) _).setCell ⟨w.heap.size, 5, none⟩ (.inr (Nat.le_refl _)) _

set_option maxRecDepth 100000 in
set_option maxHeartbeats 6400000 in
theorem draw7_any (c : Nat) (x : Option Addr) (len cap : Nat) (w : World) (hc : Cur w c x len cap) :
    Calls Try.prog 47 #[.pointer (some ⟨c, 0, none⟩)] w fun e w' => ∃ o : Oq, e = .returned (.agg #[.int .i64 o.k, .string o.nm, .string o.ot, .int .i64 o.at_, .int .i64 o.va, .int .i64 o.ep]) ∧ OpFit o ∧ Upto c w w' ∧ Cur w' c x len cap := by
  have hlt := hc.lt
  obtain ⟨W0, hW0, kR, d0, z0⟩ := box1 w #[.int .i64 0, .string ⟨#[]⟩, .string ⟨#[]⟩, .int .i64 0, .int .i64 0, .int .i64 0] 32
  have kc : Cur W0 c x len cap := hc.below d0
  have u : Upto c w W0 := Upto.ofBelow d0
  have HW0 : Hid (W0 = _) := hW0
  have sR : w.heap.size < W0.heap.size := by omega
  clear hW0 hc d0 z0
  go_enter Try.func47, Try.ntmps47
  go_wp2_with fail
  rw [← HW0.out]
  clear HW0
  refine (below_any c x len cap 9 _ (by omega) kc).mono ?_
  rintro e w1 ⟨m, rfl, hm, u1, k1⟩
  have hm9 : m < 9 := hm.2.1 (by omega)
  have hm0 := hm.1
  replace kR := (u1.block _ sR (by omega)).trans kR
  replace sR := Nat.lt_of_lt_of_le sR u1.size
  replace u := u.trans u1
  clear u1 kc hm
  go_wp2_with fail
  refine (name_any c x len cap _ k1).mono ?_
  rintro e w2 ⟨nm, rfl, hnm, u1, k2⟩
  replace kR := (u1.block _ sR (by omega)).trans kR
  replace sR := Nat.lt_of_lt_of_le sR u1.size
  replace u := u.trans u1
  clear u1 k1
  have bP : Below w2.heap.size w2 (w2.alloc (.cells #[.int .i64 (1 + m), .string nm, .string ⟨#[]⟩, .int .i64 0, .int .i64 0, .int .i64 0] 32)) := bw_alloc (Below.refl _ _)
  have kB := heap_alloc_new w2 (.cells #[.int .i64 (1 + m), .string nm, .string ⟨#[]⟩, .int .i64 0, .int .i64 0, .int .i64 0] 32)
  have st : OpSt c x len cap w2.heap.size w (w2.alloc (.cells #[.int .i64 (1 + m), .string nm, .string ⟨#[]⟩, .int .i64 0, .int .i64 0, .int .i64 0] 32)) ⟨1 + m, nm, ⟨#[]⟩, 0, 0, 0⟩ := ⟨kB, (bP.block _ sR).trans kR, k2.below bP, u.below bP, hlt, sR, ⟨by simp only; omega, hnm, by show (⟨#[]⟩ : ByteArray).size ≤ 5; decide, by simp only; omega, by simp only; omega, by simp only; omega⟩⟩
  have hk : 1 ≤ 1 + m ∧ 1 + m ≤ 9 := by omega
  clear bP kB kR u k2 hm9 hm0
  go_wp2_with fail
  generalize w2.alloc (.cells #[.int .i64 (1 + m), .string nm, .string ⟨#[]⟩, .int .i64 0, .int .i64 0, .int .i64 0] 32) = W3 at *
  generalize w2.heap.size = nB at *
  generalize 1 + m = kd at *
  refine (once_any c x len cap 2 _ (by omega) st.kc).mono ?_
  rintro e w4 ⟨y, rfl, u1, k1⟩
  replace st := st.step u1 k1
  clear u1 k1
  go_upto_if 11 with fail
  go_cut [] (fun wx => ∃ kd : Int, (1 ≤ kd ∧ kd ≤ 9) ∧ OpSt c x len cap nB w wx ⟨kd, nm, ⟨#[]⟩, 0, 0, 0⟩)
  case first =>
    cases y
    · go_wp2_with fail
      go_meet
      exact ⟨kd, hk, st⟩
    · go_wp2_with fail
      refine (below_any c x len cap 4 _ (by omega) (st.alloc _).kc).mono ?_
      rintro e wb ⟨y, rfl, hy, u1, k1⟩
      have stb := (st.alloc _).step u1 k1
      have hy3 := hy.2.1 (by omega)
      obtain ⟨jn, rfl⟩ := Int.eq_ofNat_of_zero_le hy.1
      obtain ⟨z, hz, hzs⟩ : ∃ z : Int, wb.cell? ⟨w4.heap.size, jn, none⟩ = some (.int .i64 z) ∧ (1 ≤ z ∧ z ≤ 9) := by
        rw [pick_cell u1 st.kc.lt jn]
        have h3 : jn = 0 ∨ jn = 1 ∨ jn = 2 ∨ jn = 3 := by omega
        rcases h3 with rfl | rfl | rfl | rfl <;> exact ⟨_, rfl, by decide⟩
      have p0 := at_cell stb.kB 0
      have f0 := at_open stb.kB 0
      have HS : Hid _ := stb.put 0 (.int .i64 z) ⟨z, nm, ⟨#[]⟩, 0, 0, 0⟩ rfl ⟨by simp only; omega, stb.fit.nm, stb.fit.ot, stb.fit.at_, stb.fit.va, stb.fit.ep⟩
      clear u1 k1 st stb hy
      go_wp2_with fail
      go_meet
      exact ⟨z, hzs, HS.out⟩
  case rest =>
    obtain ⟨k, hk9, sa⟩ := hcut
    clear st hk
    have hks : k = 1 ∨ k = 2 ∨ k = 3 ∨ k = 4 ∨ k = 5 ∨ k = 6 ∨ k = 7 ∨ k = 8 ∨ k = 9 := by omega
    rcases hks with rfl | rfl | rfl | rfl | rfl | rfl | rfl | rfl | rfl
    · have p0 := at_cell sa.kB 0
      have p1 := at_cell sa.kB 1
      have p2 := at_cell sa.kB 2
      have p3 := at_cell sa.kB 3
      have p4 := at_cell sa.kB 4
      have p5 := at_cell sa.kB 5
      simp only at p0 p1 p2 p3 p4 p5
      go_wp2_with fail
      refine (below_any c x len cap 8 _ (by omega) sa.kc).mono ?_
      rintro e w10 ⟨y0, rfl, hy0, u1, k1⟩
      have s0 := sa.step u1 k1
      have b0 := hy0.2.1 (by omega)
      have c0 := hy0.1
      clear u1 k1 sa p0 p1 p2 p3 p4 p5
      have p0 := at_cell s0.kB 0
      have p1 := at_cell s0.kB 1
      have p2 := at_cell s0.kB 2
      have p3 := at_cell s0.kB 3
      have p4 := at_cell s0.kB 4
      have p5 := at_cell s0.kB 5
      have f4 := at_open s0.kB 4
      have t0 := s0.put 4 (.int .i64 (1 + y0)) ⟨1, nm, ⟨#[]⟩, 0, 1 + y0, 0⟩ rfl ⟨s0.fit.k, s0.fit.nm, s0.fit.ot, s0.fit.at_, by simp only; omega, s0.fit.ep⟩
      simp only at p0 p1 p2 p3 p4 p5 t0
      have q0 := at_cell s0.kR 0
      have g0 := at_open s0.kR 0
      have q1 := at_cell s0.kR 1
      have g1 := at_open s0.kR 1
      have q2 := at_cell s0.kR 2
      have g2 := at_open s0.kR 2
      have q3 := at_cell s0.kR 3
      have g3 := at_open s0.kR 3
      have q4 := at_cell s0.kR 4
      have g4 := at_open s0.kR 4
      have q5 := at_cell s0.kR 5
      have g5 := at_open s0.kR 5
      have HS : Hid _ := t0.fin
      have HF : Hid _ := t0.fit
      simp only at HS HF
      clear s0 t0
      go_wp2_with fail
      exact bodyPost_ret (v := .agg #[.int .i64 (1), .string nm, .string ⟨#[]⟩, .int .i64 (0), .int .i64 (1 + y0), .int .i64 (0)]) (by simp [results, Try.results47, go_sem, at_cell HS.out.1]) rfl ⟨⟨1, nm, ⟨#[]⟩, 0, 1 + y0, 0⟩, rfl, HF.out, HS.out.2.1, HS.out.2.2⟩
    · have p0 := at_cell sa.kB 0
      have p1 := at_cell sa.kB 1
      have p2 := at_cell sa.kB 2
      have p3 := at_cell sa.kB 3
      have p4 := at_cell sa.kB 4
      have p5 := at_cell sa.kB 5
      simp only at p0 p1 p2 p3 p4 p5
      go_wp2_with fail
      refine (below_any c x len cap 6 _ (by omega) sa.kc).mono ?_
      rintro e w10 ⟨y0, rfl, hy0, u1, k1⟩
      have s0 := sa.step u1 k1
      have b0 := hy0.2.1 (by omega)
      have c0 := hy0.1
      clear u1 k1 sa p0 p1 p2 p3 p4 p5
      have p0 := at_cell s0.kB 0
      have p1 := at_cell s0.kB 1
      have p2 := at_cell s0.kB 2
      have p3 := at_cell s0.kB 3
      have p4 := at_cell s0.kB 4
      have p5 := at_cell s0.kB 5
      have f3 := at_open s0.kB 3
      have t0 := s0.put 3 (.int .i64 (y0)) ⟨2, nm, ⟨#[]⟩, y0, 0, 0⟩ rfl ⟨s0.fit.k, s0.fit.nm, s0.fit.ot, by simp only; omega, s0.fit.va, s0.fit.ep⟩
      simp only at p0 p1 p2 p3 p4 p5 t0
      go_wp2_with fail
      refine (below_any c x len cap 1000 _ (by omega) t0.kc).mono ?_
      rintro e w11 ⟨y1, rfl, hy1, u1, k1⟩
      have s1 := t0.step u1 k1
      have b1 := hy1.2.1 (by omega)
      have c1 := hy1.1
      clear u1 k1 t0 p0 p1 p2 p3 p4 p5
      have p0 := at_cell s1.kB 0
      have p1 := at_cell s1.kB 1
      have p2 := at_cell s1.kB 2
      have p3 := at_cell s1.kB 3
      have p4 := at_cell s1.kB 4
      have p5 := at_cell s1.kB 5
      have f4 := at_open s1.kB 4
      have t1 := s1.put 4 (.int .i64 (y1)) ⟨2, nm, ⟨#[]⟩, y0, y1, 0⟩ rfl ⟨s1.fit.k, s1.fit.nm, s1.fit.ot, s1.fit.at_, by simp only; omega, s1.fit.ep⟩
      simp only at p0 p1 p2 p3 p4 p5 t1
      go_wp2_with fail
      refine (once_any c x len cap 2 _ (by omega) t1.kc).mono ?_
      rintro e w20 ⟨y, rfl, u1, k1⟩
      have sz := t1.step u1 k1
      clear u1 k1 t1 s1 p0 p1 p2 p3 p4 p5
      have p0 := at_cell sz.kB 0
      have p1 := at_cell sz.kB 1
      have p2 := at_cell sz.kB 2
      have p3 := at_cell sz.kB 3
      have p4 := at_cell sz.kB 4
      have p5 := at_cell sz.kB 5
      simp only at p0 p1 p2 p3 p4 p5 sz
      cases y
      · skip
        have q0 := at_cell sz.kR 0
        have g0 := at_open sz.kR 0
        have q1 := at_cell sz.kR 1
        have g1 := at_open sz.kR 1
        have q2 := at_cell sz.kR 2
        have g2 := at_open sz.kR 2
        have q3 := at_cell sz.kR 3
        have g3 := at_open sz.kR 3
        have q4 := at_cell sz.kR 4
        have g4 := at_open sz.kR 4
        have q5 := at_cell sz.kR 5
        have g5 := at_open sz.kR 5
        have HS : Hid _ := sz.fin
        have HF : Hid _ := sz.fit
        simp only at HS HF
        clear sz
        go_wp2_with fail
        exact bodyPost_ret (v := .agg #[.int .i64 (2), .string nm, .string ⟨#[]⟩, .int .i64 (y0), .int .i64 (y1), .int .i64 (0)]) (by simp [results, Try.results47, go_sem, at_cell HS.out.1]) rfl ⟨⟨2, nm, ⟨#[]⟩, y0, y1, 0⟩, rfl, HF.out, HS.out.2.1, HS.out.2.2⟩
      · go_wp2_with fail
        refine (below_any c x len cap 3 _ (by omega) sz.kc).mono ?_
        rintro e w21 ⟨y9, rfl, hy9, u1, k1⟩
        have b9 := hy9.2.1 (by omega)
        have c9 := hy9.1
        have sy := sz.step u1 k1
        clear u1 k1 sz p0 p1 p2 p3 p4 p5
        have p0 := at_cell sy.kB 0
        have p1 := at_cell sy.kB 1
        have p2 := at_cell sy.kB 2
        have p3 := at_cell sy.kB 3
        have p4 := at_cell sy.kB 4
        have p5 := at_cell sy.kB 5
        have f5 := at_open sy.kB 5
        have ty := sy.put 5 (.int .i64 y9) ⟨2, nm, ⟨#[]⟩, y0, y1, y9⟩ rfl ⟨sy.fit.k, sy.fit.nm, sy.fit.ot, sy.fit.at_, sy.fit.va, by simp only; omega⟩
        simp only at p0 p1 p2 p3 p4 p5 ty
        have q0 := at_cell sy.kR 0
        have g0 := at_open sy.kR 0
        have q1 := at_cell sy.kR 1
        have g1 := at_open sy.kR 1
        have q2 := at_cell sy.kR 2
        have g2 := at_open sy.kR 2
        have q3 := at_cell sy.kR 3
        have g3 := at_open sy.kR 3
        have q4 := at_cell sy.kR 4
        have g4 := at_open sy.kR 4
        have q5 := at_cell sy.kR 5
        have g5 := at_open sy.kR 5
        have HS : Hid _ := ty.fin
        have HF : Hid _ := ty.fit
        simp only at HS HF
        clear sy ty
        go_wp2_with fail
        exact bodyPost_ret (v := .agg #[.int .i64 (2), .string nm, .string ⟨#[]⟩, .int .i64 (y0), .int .i64 (y1), .int .i64 (y9)]) (by simp [results, Try.results47, go_sem, at_cell HS.out.1]) rfl ⟨⟨2, nm, ⟨#[]⟩, y0, y1, y9⟩, rfl, HF.out, HS.out.2.1, HS.out.2.2⟩
    · have p0 := at_cell sa.kB 0
      have p1 := at_cell sa.kB 1
      have p2 := at_cell sa.kB 2
      have p3 := at_cell sa.kB 3
      have p4 := at_cell sa.kB 4
      have p5 := at_cell sa.kB 5
      simp only at p0 p1 p2 p3 p4 p5
      go_wp2_with fail
      refine (below_any c x len cap 7 _ (by omega) sa.kc).mono ?_
      rintro e w10 ⟨y0, rfl, hy0, u1, k1⟩
      have s0 := sa.step u1 k1
      have b0 := hy0.2.1 (by omega)
      have c0 := hy0.1
      clear u1 k1 sa p0 p1 p2 p3 p4 p5
      have p0 := at_cell s0.kB 0
      have p1 := at_cell s0.kB 1
      have p2 := at_cell s0.kB 2
      have p3 := at_cell s0.kB 3
      have p4 := at_cell s0.kB 4
      have p5 := at_cell s0.kB 5
      have f3 := at_open s0.kB 3
      have t0 := s0.put 3 (.int .i64 (y0)) ⟨3, nm, ⟨#[]⟩, y0, 0, 0⟩ rfl ⟨s0.fit.k, s0.fit.nm, s0.fit.ot, by simp only; omega, s0.fit.va, s0.fit.ep⟩
      simp only at p0 p1 p2 p3 p4 p5 t0
      go_wp2_with fail
      refine (once_any c x len cap 2 _ (by omega) t0.kc).mono ?_
      rintro e w20 ⟨y, rfl, u1, k1⟩
      have sz := t0.step u1 k1
      clear u1 k1 t0 s0 p0 p1 p2 p3 p4 p5
      have p0 := at_cell sz.kB 0
      have p1 := at_cell sz.kB 1
      have p2 := at_cell sz.kB 2
      have p3 := at_cell sz.kB 3
      have p4 := at_cell sz.kB 4
      have p5 := at_cell sz.kB 5
      simp only at p0 p1 p2 p3 p4 p5 sz
      cases y
      · skip
        have q0 := at_cell sz.kR 0
        have g0 := at_open sz.kR 0
        have q1 := at_cell sz.kR 1
        have g1 := at_open sz.kR 1
        have q2 := at_cell sz.kR 2
        have g2 := at_open sz.kR 2
        have q3 := at_cell sz.kR 3
        have g3 := at_open sz.kR 3
        have q4 := at_cell sz.kR 4
        have g4 := at_open sz.kR 4
        have q5 := at_cell sz.kR 5
        have g5 := at_open sz.kR 5
        have HS : Hid _ := sz.fin
        have HF : Hid _ := sz.fit
        simp only at HS HF
        clear sz
        go_wp2_with fail
        exact bodyPost_ret (v := .agg #[.int .i64 (3), .string nm, .string ⟨#[]⟩, .int .i64 (y0), .int .i64 (0), .int .i64 (0)]) (by simp [results, Try.results47, go_sem, at_cell HS.out.1]) rfl ⟨⟨3, nm, ⟨#[]⟩, y0, 0, 0⟩, rfl, HF.out, HS.out.2.1, HS.out.2.2⟩
      · go_wp2_with fail
        refine (below_any c x len cap 3 _ (by omega) sz.kc).mono ?_
        rintro e w21 ⟨y9, rfl, hy9, u1, k1⟩
        have b9 := hy9.2.1 (by omega)
        have c9 := hy9.1
        have sy := sz.step u1 k1
        clear u1 k1 sz p0 p1 p2 p3 p4 p5
        have p0 := at_cell sy.kB 0
        have p1 := at_cell sy.kB 1
        have p2 := at_cell sy.kB 2
        have p3 := at_cell sy.kB 3
        have p4 := at_cell sy.kB 4
        have p5 := at_cell sy.kB 5
        have f5 := at_open sy.kB 5
        have ty := sy.put 5 (.int .i64 y9) ⟨3, nm, ⟨#[]⟩, y0, 0, y9⟩ rfl ⟨sy.fit.k, sy.fit.nm, sy.fit.ot, sy.fit.at_, sy.fit.va, by simp only; omega⟩
        simp only at p0 p1 p2 p3 p4 p5 ty
        have q0 := at_cell sy.kR 0
        have g0 := at_open sy.kR 0
        have q1 := at_cell sy.kR 1
        have g1 := at_open sy.kR 1
        have q2 := at_cell sy.kR 2
        have g2 := at_open sy.kR 2
        have q3 := at_cell sy.kR 3
        have g3 := at_open sy.kR 3
        have q4 := at_cell sy.kR 4
        have g4 := at_open sy.kR 4
        have q5 := at_cell sy.kR 5
        have g5 := at_open sy.kR 5
        have HS : Hid _ := ty.fin
        have HF : Hid _ := ty.fit
        simp only at HS HF
        clear sy ty
        go_wp2_with fail
        exact bodyPost_ret (v := .agg #[.int .i64 (3), .string nm, .string ⟨#[]⟩, .int .i64 (y0), .int .i64 (0), .int .i64 (y9)]) (by simp [results, Try.results47, go_sem, at_cell HS.out.1]) rfl ⟨⟨3, nm, ⟨#[]⟩, y0, 0, y9⟩, rfl, HF.out, HS.out.2.1, HS.out.2.2⟩
    · have p0 := at_cell sa.kB 0
      have p1 := at_cell sa.kB 1
      have p2 := at_cell sa.kB 2
      have p3 := at_cell sa.kB 3
      have p4 := at_cell sa.kB 4
      have p5 := at_cell sa.kB 5
      simp only at p0 p1 p2 p3 p4 p5
      go_wp2_with fail
      refine (name_any c x len cap _ sa.kc).mono ?_
      rintro e w10 ⟨ot, rfl, hot, u1, k1⟩
      have s0 := sa.step u1 k1
      clear u1 k1 sa p0 p1 p2 p3 p4 p5
      have p0 := at_cell s0.kB 0
      have p1 := at_cell s0.kB 1
      have p2 := at_cell s0.kB 2
      have p3 := at_cell s0.kB 3
      have p4 := at_cell s0.kB 4
      have p5 := at_cell s0.kB 5
      have f2 := at_open s0.kB 2
      have t0 := s0.put 2 (.string ot) ⟨4, nm, ot, 0, 0, 0⟩ rfl ⟨s0.fit.k, s0.fit.nm, hot, s0.fit.at_, s0.fit.va, s0.fit.ep⟩
      simp only at p0 p1 p2 p3 p4 p5 t0
      have q0 := at_cell s0.kR 0
      have g0 := at_open s0.kR 0
      have q1 := at_cell s0.kR 1
      have g1 := at_open s0.kR 1
      have q2 := at_cell s0.kR 2
      have g2 := at_open s0.kR 2
      have q3 := at_cell s0.kR 3
      have g3 := at_open s0.kR 3
      have q4 := at_cell s0.kR 4
      have g4 := at_open s0.kR 4
      have q5 := at_cell s0.kR 5
      have g5 := at_open s0.kR 5
      have HS : Hid _ := t0.fin
      have HF : Hid _ := t0.fit
      simp only at HS HF
      clear s0 t0
      go_wp2_with fail
      exact bodyPost_ret (v := .agg #[.int .i64 (4), .string nm, .string ot, .int .i64 (0), .int .i64 (0), .int .i64 (0)]) (by simp [results, Try.results47, go_sem, at_cell HS.out.1]) rfl ⟨⟨4, nm, ot, 0, 0, 0⟩, rfl, HF.out, HS.out.2.1, HS.out.2.2⟩
    · have p0 := at_cell sa.kB 0
      have p1 := at_cell sa.kB 1
      have p2 := at_cell sa.kB 2
      have p3 := at_cell sa.kB 3
      have p4 := at_cell sa.kB 4
      have p5 := at_cell sa.kB 5
      simp only at p0 p1 p2 p3 p4 p5
      go_wp2_with fail
      refine (name_any c x len cap _ sa.kc).mono ?_
      rintro e w10 ⟨ot, rfl, hot, u1, k1⟩
      have s0 := sa.step u1 k1
      clear u1 k1 sa p0 p1 p2 p3 p4 p5
      have p0 := at_cell s0.kB 0
      have p1 := at_cell s0.kB 1
      have p2 := at_cell s0.kB 2
      have p3 := at_cell s0.kB 3
      have p4 := at_cell s0.kB 4
      have p5 := at_cell s0.kB 5
      have f2 := at_open s0.kB 2
      have t0 := s0.put 2 (.string ot) ⟨5, nm, ot, 0, 0, 0⟩ rfl ⟨s0.fit.k, s0.fit.nm, hot, s0.fit.at_, s0.fit.va, s0.fit.ep⟩
      simp only at p0 p1 p2 p3 p4 p5 t0
      have q0 := at_cell s0.kR 0
      have g0 := at_open s0.kR 0
      have q1 := at_cell s0.kR 1
      have g1 := at_open s0.kR 1
      have q2 := at_cell s0.kR 2
      have g2 := at_open s0.kR 2
      have q3 := at_cell s0.kR 3
      have g3 := at_open s0.kR 3
      have q4 := at_cell s0.kR 4
      have g4 := at_open s0.kR 4
      have q5 := at_cell s0.kR 5
      have g5 := at_open s0.kR 5
      have HS : Hid _ := t0.fin
      have HF : Hid _ := t0.fit
      simp only at HS HF
      clear s0 t0
      go_wp2_with fail
      exact bodyPost_ret (v := .agg #[.int .i64 (5), .string nm, .string ot, .int .i64 (0), .int .i64 (0), .int .i64 (0)]) (by simp [results, Try.results47, go_sem, at_cell HS.out.1]) rfl ⟨⟨5, nm, ot, 0, 0, 0⟩, rfl, HF.out, HS.out.2.1, HS.out.2.2⟩
    · have p0 := at_cell sa.kB 0
      have p1 := at_cell sa.kB 1
      have p2 := at_cell sa.kB 2
      have p3 := at_cell sa.kB 3
      have p4 := at_cell sa.kB 4
      have p5 := at_cell sa.kB 5
      simp only at p0 p1 p2 p3 p4 p5
      go_wp2_with fail
      refine (once_any c x len cap 2 _ (by omega) sa.kc).mono ?_
      rintro e w20 ⟨y, rfl, u1, k1⟩
      have sz := sa.step u1 k1
      clear u1 k1 sa p0 p1 p2 p3 p4 p5
      have p0 := at_cell sz.kB 0
      have p1 := at_cell sz.kB 1
      have p2 := at_cell sz.kB 2
      have p3 := at_cell sz.kB 3
      have p4 := at_cell sz.kB 4
      have p5 := at_cell sz.kB 5
      simp only at p0 p1 p2 p3 p4 p5 sz
      cases y
      · skip
        have q0 := at_cell sz.kR 0
        have g0 := at_open sz.kR 0
        have q1 := at_cell sz.kR 1
        have g1 := at_open sz.kR 1
        have q2 := at_cell sz.kR 2
        have g2 := at_open sz.kR 2
        have q3 := at_cell sz.kR 3
        have g3 := at_open sz.kR 3
        have q4 := at_cell sz.kR 4
        have g4 := at_open sz.kR 4
        have q5 := at_cell sz.kR 5
        have g5 := at_open sz.kR 5
        have HS : Hid _ := sz.fin
        have HF : Hid _ := sz.fit
        simp only at HS HF
        clear sz
        go_wp2_with fail
        exact bodyPost_ret (v := .agg #[.int .i64 (6), .string nm, .string ⟨#[]⟩, .int .i64 (0), .int .i64 (0), .int .i64 (0)]) (by simp [results, Try.results47, go_sem, at_cell HS.out.1]) rfl ⟨⟨6, nm, ⟨#[]⟩, 0, 0, 0⟩, rfl, HF.out, HS.out.2.1, HS.out.2.2⟩
      · go_wp2_with fail
        refine (below_any c x len cap 3 _ (by omega) sz.kc).mono ?_
        rintro e w21 ⟨y9, rfl, hy9, u1, k1⟩
        have b9 := hy9.2.1 (by omega)
        have c9 := hy9.1
        have sy := sz.step u1 k1
        clear u1 k1 sz p0 p1 p2 p3 p4 p5
        have p0 := at_cell sy.kB 0
        have p1 := at_cell sy.kB 1
        have p2 := at_cell sy.kB 2
        have p3 := at_cell sy.kB 3
        have p4 := at_cell sy.kB 4
        have p5 := at_cell sy.kB 5
        have f5 := at_open sy.kB 5
        have ty := sy.put 5 (.int .i64 y9) ⟨6, nm, ⟨#[]⟩, 0, 0, y9⟩ rfl ⟨sy.fit.k, sy.fit.nm, sy.fit.ot, sy.fit.at_, sy.fit.va, by simp only; omega⟩
        simp only at p0 p1 p2 p3 p4 p5 ty
        have q0 := at_cell sy.kR 0
        have g0 := at_open sy.kR 0
        have q1 := at_cell sy.kR 1
        have g1 := at_open sy.kR 1
        have q2 := at_cell sy.kR 2
        have g2 := at_open sy.kR 2
        have q3 := at_cell sy.kR 3
        have g3 := at_open sy.kR 3
        have q4 := at_cell sy.kR 4
        have g4 := at_open sy.kR 4
        have q5 := at_cell sy.kR 5
        have g5 := at_open sy.kR 5
        have HS : Hid _ := ty.fin
        have HF : Hid _ := ty.fit
        simp only at HS HF
        clear sy ty
        go_wp2_with fail
        exact bodyPost_ret (v := .agg #[.int .i64 (6), .string nm, .string ⟨#[]⟩, .int .i64 (0), .int .i64 (0), .int .i64 (y9)]) (by simp [results, Try.results47, go_sem, at_cell HS.out.1]) rfl ⟨⟨6, nm, ⟨#[]⟩, 0, 0, y9⟩, rfl, HF.out, HS.out.2.1, HS.out.2.2⟩
    · have p0 := at_cell sa.kB 0
      have p1 := at_cell sa.kB 1
      have p2 := at_cell sa.kB 2
      have p3 := at_cell sa.kB 3
      have p4 := at_cell sa.kB 4
      have p5 := at_cell sa.kB 5
      simp only at p0 p1 p2 p3 p4 p5
      go_wp2_with fail
      refine (below_any c x len cap 8 _ (by omega) sa.kc).mono ?_
      rintro e w10 ⟨y0, rfl, hy0, u1, k1⟩
      have s0 := sa.step u1 k1
      have b0 := hy0.2.1 (by omega)
      have c0 := hy0.1
      clear u1 k1 sa p0 p1 p2 p3 p4 p5
      have p0 := at_cell s0.kB 0
      have p1 := at_cell s0.kB 1
      have p2 := at_cell s0.kB 2
      have p3 := at_cell s0.kB 3
      have p4 := at_cell s0.kB 4
      have p5 := at_cell s0.kB 5
      have f4 := at_open s0.kB 4
      have t0 := s0.put 4 (.int .i64 (1 + y0)) ⟨7, nm, ⟨#[]⟩, 0, 1 + y0, 0⟩ rfl ⟨s0.fit.k, s0.fit.nm, s0.fit.ot, s0.fit.at_, by simp only; omega, s0.fit.ep⟩
      simp only at p0 p1 p2 p3 p4 p5 t0
      go_wp2_with fail
      refine (once_any c x len cap 2 _ (by omega) t0.kc).mono ?_
      rintro e w20 ⟨y, rfl, u1, k1⟩
      have sz := t0.step u1 k1
      clear u1 k1 t0 s0 p0 p1 p2 p3 p4 p5
      have p0 := at_cell sz.kB 0
      have p1 := at_cell sz.kB 1
      have p2 := at_cell sz.kB 2
      have p3 := at_cell sz.kB 3
      have p4 := at_cell sz.kB 4
      have p5 := at_cell sz.kB 5
      simp only at p0 p1 p2 p3 p4 p5 sz
      cases y
      · skip
        have q0 := at_cell sz.kR 0
        have g0 := at_open sz.kR 0
        have q1 := at_cell sz.kR 1
        have g1 := at_open sz.kR 1
        have q2 := at_cell sz.kR 2
        have g2 := at_open sz.kR 2
        have q3 := at_cell sz.kR 3
        have g3 := at_open sz.kR 3
        have q4 := at_cell sz.kR 4
        have g4 := at_open sz.kR 4
        have q5 := at_cell sz.kR 5
        have g5 := at_open sz.kR 5
        have HS : Hid _ := sz.fin
        have HF : Hid _ := sz.fit
        simp only at HS HF
        clear sz
        go_wp2_with fail
        exact bodyPost_ret (v := .agg #[.int .i64 (7), .string nm, .string ⟨#[]⟩, .int .i64 (0), .int .i64 (1 + y0), .int .i64 (0)]) (by simp [results, Try.results47, go_sem, at_cell HS.out.1]) rfl ⟨⟨7, nm, ⟨#[]⟩, 0, 1 + y0, 0⟩, rfl, HF.out, HS.out.2.1, HS.out.2.2⟩
      · go_wp2_with fail
        refine (below_any c x len cap 3 _ (by omega) sz.kc).mono ?_
        rintro e w21 ⟨y9, rfl, hy9, u1, k1⟩
        have b9 := hy9.2.1 (by omega)
        have c9 := hy9.1
        have sy := sz.step u1 k1
        clear u1 k1 sz p0 p1 p2 p3 p4 p5
        have p0 := at_cell sy.kB 0
        have p1 := at_cell sy.kB 1
        have p2 := at_cell sy.kB 2
        have p3 := at_cell sy.kB 3
        have p4 := at_cell sy.kB 4
        have p5 := at_cell sy.kB 5
        have f5 := at_open sy.kB 5
        have ty := sy.put 5 (.int .i64 y9) ⟨7, nm, ⟨#[]⟩, 0, 1 + y0, y9⟩ rfl ⟨sy.fit.k, sy.fit.nm, sy.fit.ot, sy.fit.at_, sy.fit.va, by simp only; omega⟩
        simp only at p0 p1 p2 p3 p4 p5 ty
        have q0 := at_cell sy.kR 0
        have g0 := at_open sy.kR 0
        have q1 := at_cell sy.kR 1
        have g1 := at_open sy.kR 1
        have q2 := at_cell sy.kR 2
        have g2 := at_open sy.kR 2
        have q3 := at_cell sy.kR 3
        have g3 := at_open sy.kR 3
        have q4 := at_cell sy.kR 4
        have g4 := at_open sy.kR 4
        have q5 := at_cell sy.kR 5
        have g5 := at_open sy.kR 5
        have HS : Hid _ := ty.fin
        have HF : Hid _ := ty.fit
        simp only at HS HF
        clear sy ty
        go_wp2_with fail
        exact bodyPost_ret (v := .agg #[.int .i64 (7), .string nm, .string ⟨#[]⟩, .int .i64 (0), .int .i64 (1 + y0), .int .i64 (y9)]) (by simp [results, Try.results47, go_sem, at_cell HS.out.1]) rfl ⟨⟨7, nm, ⟨#[]⟩, 0, 1 + y0, y9⟩, rfl, HF.out, HS.out.2.1, HS.out.2.2⟩
    · have p0 := at_cell sa.kB 0
      have p1 := at_cell sa.kB 1
      have p2 := at_cell sa.kB 2
      have p3 := at_cell sa.kB 3
      have p4 := at_cell sa.kB 4
      have p5 := at_cell sa.kB 5
      simp only at p0 p1 p2 p3 p4 p5
      have q0 := at_cell sa.kR 0
      have g0 := at_open sa.kR 0
      have q1 := at_cell sa.kR 1
      have g1 := at_open sa.kR 1
      have q2 := at_cell sa.kR 2
      have g2 := at_open sa.kR 2
      have q3 := at_cell sa.kR 3
      have g3 := at_open sa.kR 3
      have q4 := at_cell sa.kR 4
      have g4 := at_open sa.kR 4
      have q5 := at_cell sa.kR 5
      have g5 := at_open sa.kR 5
      have HS : Hid _ := sa.fin
      have HF : Hid _ := sa.fit
      simp only at HS HF
      clear sa
      go_wp2_with fail
      exact bodyPost_ret (v := .agg #[.int .i64 (8), .string nm, .string ⟨#[]⟩, .int .i64 (0), .int .i64 (0), .int .i64 (0)]) (by simp [results, Try.results47, go_sem, at_cell HS.out.1]) rfl ⟨⟨8, nm, ⟨#[]⟩, 0, 0, 0⟩, rfl, HF.out, HS.out.2.1, HS.out.2.2⟩
    · have p0 := at_cell sa.kB 0
      have p1 := at_cell sa.kB 1
      have p2 := at_cell sa.kB 2
      have p3 := at_cell sa.kB 3
      have p4 := at_cell sa.kB 4
      have p5 := at_cell sa.kB 5
      simp only at p0 p1 p2 p3 p4 p5
      go_wp2_with fail
      refine (below_any c x len cap 7 _ (by omega) sa.kc).mono ?_
      rintro e w10 ⟨y0, rfl, hy0, u1, k1⟩
      have s0 := sa.step u1 k1
      have b0 := hy0.2.1 (by omega)
      have c0 := hy0.1
      clear u1 k1 sa p0 p1 p2 p3 p4 p5
      have p0 := at_cell s0.kB 0
      have p1 := at_cell s0.kB 1
      have p2 := at_cell s0.kB 2
      have p3 := at_cell s0.kB 3
      have p4 := at_cell s0.kB 4
      have p5 := at_cell s0.kB 5
      have f3 := at_open s0.kB 3
      have t0 := s0.put 3 (.int .i64 (y0)) ⟨9, nm, ⟨#[]⟩, y0, 0, 0⟩ rfl ⟨s0.fit.k, s0.fit.nm, s0.fit.ot, by simp only; omega, s0.fit.va, s0.fit.ep⟩
      simp only at p0 p1 p2 p3 p4 p5 t0
      have q0 := at_cell s0.kR 0
      have g0 := at_open s0.kR 0
      have q1 := at_cell s0.kR 1
      have g1 := at_open s0.kR 1
      have q2 := at_cell s0.kR 2
      have g2 := at_open s0.kR 2
      have q3 := at_cell s0.kR 3
      have g3 := at_open s0.kR 3
      have q4 := at_cell s0.kR 4
      have g4 := at_open s0.kR 4
      have q5 := at_cell s0.kR 5
      have g5 := at_open s0.kR 5
      have HS : Hid _ := t0.fin
      have HF : Hid _ := t0.fit
      simp only at HS HF
      clear s0 t0
      go_wp2_with fail
      exact bodyPost_ret (v := .agg #[.int .i64 (9), .string nm, .string ⟨#[]⟩, .int .i64 (y0), .int .i64 (0), .int .i64 (0)]) (by simp [results, Try.results47, go_sem, at_cell HS.out.1]) rfl ⟨⟨9, nm, ⟨#[]⟩, y0, 0, 0⟩, rfl, HF.out, HS.out.2.1, HS.out.2.2⟩
end Go.Proofs.Ytgabhnhfomekfaa

