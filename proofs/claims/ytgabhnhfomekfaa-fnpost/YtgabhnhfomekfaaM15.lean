/-
  Contracts and plain laws, one chapter behind the other.
-/
import Derived.Deep.DeepCutAuto
import Derived.Test.YtgabhnhfomekfaaM05
import Derived.Test.YtgabhnhfomekfaaM10
import Derived.Test.YtgabhnhfomekfaaM14
namespace Go.Proofs.Ytgabhnhfomekfaa
open Go.RowKit

set_option linter.unusedVariables false


/-- While a reply is drawn: its box at nB, the answer's at the start's end. -/
structure RepSt (c : Nat) (x : Option Addr) (len cap nB : Nat) (w W : World) (a v : Int) : Prop where
  kB : W.heap[nB]? = some (.cells #[.int .i64 a, .int .i64 v] 36 (0, 0))
  kR : W.heap[w.heap.size]? = some (.cells #[.int .i64 0, .int .i64 0] 36 (0, 0))
  kc : Cur W c x len cap
  u : Upto c w W
  lt : c < w.heap.size
  nb : w.heap.size < nB
  fa : -1 ≤ a ∧ a ≤ 10
  fv : -1 ≤ v ∧ v ≤ 1001

theorem RepSt.step {c nB : Nat} {x : Option Addr} {len cap : Nat} {w W W' : World} {a v : Int} (h : RepSt c x len cap nB w W a v) (u : Upto c W W') (kc : Cur W' c x len cap) : RepSt c x len cap nB w W' a v := by
  have hlt := h.lt
  have hnb := h.nb
  exact ⟨(u.block _ (heap_lt h.kB) (by omega)).trans h.kB, (u.block _ (heap_lt h.kR) (by omega)).trans h.kR, kc, h.u.trans u, h.lt, h.nb, h.fa, h.fv⟩

theorem RepSt.alloc {c nB : Nat} {x : Option Addr} {len cap : Nat} {w W : World} {a v : Int} (h : RepSt c x len cap nB w W a v) (b : Obj) : RepSt c x len cap nB w (W.alloc b) a v :=
  h.step ((Upto.refl c W).alloc b) (h.kc.alloc b)

theorem RepSt.put0 {c nB : Nat} {x : Option Addr} {len cap : Nat} {w W : World} {a v : Int} (h : RepSt c x len cap nB w W a v) (z : Int) (hz : -1 ≤ z ∧ z ≤ 10) : RepSt c x len cap nB w (W.setCell ⟨nB, 0, none⟩ (.int .i64 z)) z v := by
  have hlt := h.lt
  have hnb := h.nb
  have uu : Upto nB W (W.setCell ⟨nB, 0, none⟩ (.int .i64 z)) := (Upto.refl nB W).setCell ⟨nB, 0, none⟩ (.inl rfl) _
  exact ⟨set_0 h.kB _, (uu.block _ (heap_lt h.kR) (by omega)).trans h.kR, h.kc.same (uu.toBelow h.kc.lt (by omega)), h.u.setCell ⟨nB, 0, none⟩ (.inr (Nat.le_of_lt h.nb)) _, h.lt, h.nb, hz, h.fv⟩

theorem RepSt.put1 {c nB : Nat} {x : Option Addr} {len cap : Nat} {w W : World} {a v : Int} (h : RepSt c x len cap nB w W a v) (z : Int) (hz : -1 ≤ z ∧ z ≤ 1001) : RepSt c x len cap nB w (W.setCell ⟨nB, 1, none⟩ (.int .i64 z)) a z := by
  have hlt := h.lt
  have hnb := h.nb
  have uu : Upto nB W (W.setCell ⟨nB, 1, none⟩ (.int .i64 z)) := (Upto.refl nB W).setCell ⟨nB, 1, none⟩ (.inl rfl) _
  exact ⟨set_1 h.kB _, (uu.block _ (heap_lt h.kR) (by omega)).trans h.kR, h.kc.same (uu.toBelow h.kc.lt (by omega)), h.u.setCell ⟨nB, 1, none⟩ (.inr (Nat.le_of_lt h.nb)) _, h.lt, h.nb, h.fa, hz⟩

/-- The answer is written. -/
theorem RepSt.fin {c nB : Nat} {x : Option Addr} {len cap : Nat} {w W : World} {a v : Int} (h : RepSt c x len cap nB w W a v) :
    ((W.setCell ⟨w.heap.size, 0, none⟩ (.int .i64 a)).setCell ⟨w.heap.size, 1, none⟩ (.int .i64 v)).heap[w.heap.size]? = some (.cells #[.int .i64 a, .int .i64 v] 36 (0, 0)) ∧
    Upto c w ((W.setCell ⟨w.heap.size, 0, none⟩ (.int .i64 a)).setCell ⟨w.heap.size, 1, none⟩ (.int .i64 v)) ∧
    Cur ((W.setCell ⟨w.heap.size, 0, none⟩ (.int .i64 a)).setCell ⟨w.heap.size, 1, none⟩ (.int .i64 v)) c x len cap := by
  have hlt := h.lt
  obtain ⟨k, uu⟩ := set_two h.kR (.int .i64 a) (.int .i64 v)
  refine ⟨k, ?_, h.kc.same (uu.toBelow h.kc.lt (by omega))⟩
  exact (h.u.setCell ⟨w.heap.size, 0, none⟩ (.inr (Nat.le_refl _)) _).setCell ⟨w.heap.size, 1, none⟩ (.inr (Nat.le_refl _)) _

set_option maxRecDepth 100000 in
set_option maxHeartbeats 3200000 in
theorem draw10_any (c : Nat) (x : Option Addr) (len cap : Nat) (w : World) (hc : Cur w c x len cap) :
    Calls Try.prog 49 #[.pointer (some ⟨c, 0, none⟩)] w fun e w' => ∃ a v : Int, e = .returned (.agg #[.int .i64 a, .int .i64 v]) ∧ (-1 ≤ a ∧ a ≤ 10) ∧ (-1 ≤ v ∧ v ≤ 1001) ∧ Upto c w w' ∧ Cur w' c x len cap := by
  have hlt := hc.lt
  obtain ⟨W0, hW0, kR, d0, z0⟩ := box1 w #[.int .i64 0, .int .i64 0] 36
  have kc : Cur W0 c x len cap := hc.below d0
  have u : Upto c w W0 := Upto.ofBelow d0
  have HW0 : Hid (W0 = _) := hW0
  have sR : w.heap.size < W0.heap.size := by omega
  clear hW0 hc d0 z0
  go_enter Try.func49, Try.ntmps49
  go_wp2_with fail
  rw [← HW0.out]
  clear HW0
  refine (below_any c x len cap 10 _ (by omega) kc).mono ?_
  rintro e w1 ⟨m, rfl, hm, u1, k1⟩
  have hm9 : m < 10 := hm.2.1 (by omega)
  have hm0 := hm.1
  replace kR := (u1.block _ sR (by omega)).trans kR
  replace sR := Nat.lt_of_lt_of_le sR u1.size
  replace u := u.trans u1
  clear u1 kc hm
  have bP : Below w1.heap.size w1 (w1.alloc (.cells #[.int .i64 m, .int .i64 0] 36)) := bw_alloc (Below.refl _ _)
  have kB := heap_alloc_new w1 (.cells #[.int .i64 m, .int .i64 0] 36)
  have st : RepSt c x len cap w1.heap.size w (w1.alloc (.cells #[.int .i64 m, .int .i64 0] 36)) m 0 := ⟨kB, (bP.block _ sR).trans kR, k1.below bP, u.below bP, hlt, sR, by omega, by omega⟩
  clear bP kB kR u k1
  go_upto_if 9 with fail
  generalize w1.alloc (.cells #[.int .i64 m, .int .i64 0] 36) = W3 at *
  generalize w1.heap.size = nB at *
  go_cut [] (fun wx => ∃ a v : Int, RepSt c x len cap nB w wx a v)
  case first =>
    by_cases h0 : m = 0
    · subst h0
      go_wp2_with fail
      refine (below_any c x len cap 6 _ (by omega) (st.alloc _).kc).mono ?_
      rintro e wb ⟨y, rfl, hy, u1, k1⟩
      have stb := (st.alloc _).step u1 k1
      have hy3 := hy.2.1 (by omega)
      obtain ⟨jn, rfl⟩ := Int.eq_ofNat_of_zero_le hy.1
      obtain ⟨z, hz, hzs⟩ : ∃ z : Int, wb.cell? ⟨W3.heap.size, jn, none⟩ = some (.int .i64 z) ∧ (-1 ≤ z ∧ z ≤ 1001) := by
        rw [pick_cell u1 st.kc.lt jn]
        have h3 : jn = 0 ∨ jn = 1 ∨ jn = 2 ∨ jn = 3 ∨ jn = 4 ∨ jn = 5 := by omega
        rcases h3 with rfl | rfl | rfl | rfl | rfl | rfl <;> exact ⟨_, rfl, by decide⟩
      have p0 := at_cell stb.kB 1
      have f0 := at_open stb.kB 1
      have HS : Hid _ := stb.put1 z hzs
      clear u1 k1 st stb hy
      go_wp2_with fail
      go_meet
      exact ⟨0, z, HS.out⟩
    · have h0b : (m == 0) = false := by rw [beq_eq_false_iff_ne]; exact h0
      go_wp2_with fail
      go_meet
      exact ⟨m, 0, st⟩
  case rest =>
    obtain ⟨a, v, sa⟩ := hcut
    clear st hm9 hm0
    go_wp2_with fail
    refine (once_any c x len cap 8 _ (by omega) sa.kc).mono ?_
    rintro e w4 ⟨y, rfl, u1, k1⟩
    replace sa := sa.step u1 k1
    clear u1 k1
    go_upto_if 17 with fail
    go_cut [] (fun wx => ∃ a v : Int, RepSt c x len cap nB w wx a v)
    case first =>
      cases y
      · go_wp2_with fail
        go_meet
        exact ⟨a, v, sa⟩
      · go_wp2_with fail
        refine (below_any c x len cap 2 _ (by omega) sa.kc).mono ?_
        rintro e w5 ⟨y, rfl, hy, u1, k1⟩
        replace sa := sa.step u1 k1
        have hy3 : y = 0 ∨ y = 1 := by have h1 := hy.2.1 (by omega); have h2 := hy.1; omega
        clear u1 k1 hy
        rcases hy3 with rfl | rfl
        · go_wp2_with fail
          refine (below_any c x len cap 2 _ (by omega) (sa.alloc _).kc).mono ?_
          rintro e wb ⟨y, rfl, hy, u1, k1⟩
          have stb := (sa.alloc _).step u1 k1
          have hy3 := hy.2.1 (by omega)
          obtain ⟨jn, rfl⟩ := Int.eq_ofNat_of_zero_le hy.1
          obtain ⟨z, hz, hzs⟩ : ∃ z : Int, wb.cell? ⟨w5.heap.size, jn, none⟩ = some (.int .i64 z) ∧ (-1 ≤ z ∧ z ≤ 10) := by
            rw [pick_cell u1 sa.kc.lt jn]
            have h3 : jn = 0 ∨ jn = 1 := by omega
            rcases h3 with rfl | rfl <;> exact ⟨_, rfl, by decide⟩
          have p0 := at_cell stb.kB 0
          have f0 := at_open stb.kB 0
          have HS : Hid _ := stb.put0 z hzs
          clear u1 k1 sa stb hy
          go_wp2_with fail
          go_meet
          exact ⟨z, v, HS.out⟩
        · go_wp2_with fail
          refine (below_any c x len cap 3 _ (by omega) (sa.alloc _).kc).mono ?_
          rintro e wb ⟨y, rfl, hy, u1, k1⟩
          have stb := (sa.alloc _).step u1 k1
          have hy3 := hy.2.1 (by omega)
          obtain ⟨jn, rfl⟩ := Int.eq_ofNat_of_zero_le hy.1
          obtain ⟨z, hz, hzs⟩ : ∃ z : Int, wb.cell? ⟨w5.heap.size, jn, none⟩ = some (.int .i64 z) ∧ (-1 ≤ z ∧ z ≤ 1001) := by
            rw [pick_cell u1 sa.kc.lt jn]
            have h3 : jn = 0 ∨ jn = 1 ∨ jn = 2 := by omega
            rcases h3 with rfl | rfl | rfl <;> exact ⟨_, rfl, by decide⟩
          have p0 := at_cell stb.kB 1
          have f0 := at_open stb.kB 1
          have HS : Hid _ := stb.put1 z hzs
          clear u1 k1 sa stb hy
          go_wp2_with fail
          go_meet
          exact ⟨a, z, HS.out⟩
    case rest =>
      clear sa
      obtain ⟨a, v, sa⟩ := hcut
      have p0 := at_cell sa.kB 0
      have p1 := at_cell sa.kB 1
      have q0 := at_cell sa.kR 0
      have g0 := at_open sa.kR 0
      have q1 := at_cell sa.kR 1
      have g1 := at_open sa.kR 1
      have HS : Hid _ := sa.fin
      have HF : Hid _ := And.intro sa.fa sa.fv
      clear sa
      go_wp2_with fail
      exact bodyPost_ret (v := .agg #[.int .i64 a, .int .i64 v]) (by simp [results, Try.results49, go_sem, at_cell HS.out.1]) rfl ⟨a, v, rfl, HF.out.1, HF.out.2, HS.out.2.1, HS.out.2.2⟩
end Go.Proofs.Ytgabhnhfomekfaa

