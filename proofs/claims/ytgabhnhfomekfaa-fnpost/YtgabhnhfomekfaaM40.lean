/-
  Contracts and plain laws, one chapter behind the other.
-/
import Derived.Deep.CutBlock
import Derived.Test.YtgabhnhfomekfaaM13
import Derived.Test.YtgabhnhfomekfaaM15
import Derived.Test.YtgabhnhfomekfaaM39
namespace Go.Proofs.Ytgabhnhfomekfaa
open Go.RowKit

set_option linter.unusedVariables false


/-- What is drawn is small. -/
structure MgD (m : Mg) : Prop where
  kd : -2000 ≤ m.kd ∧ m.kd ≤ 2000
  ds : -2000 ≤ m.ds ∧ m.ds ≤ 2000
  vw : -2000 ≤ m.vw ∧ m.vw ≤ 2000
  sq : -2000 ≤ m.e.sq ∧ m.e.sq ≤ 2000
  cl : -2000 ≤ m.e.cl ∧ m.e.cl ≤ 2000
  tg : -2000 ≤ m.e.tg ∧ m.e.tg ≤ 2000
  o : OpFit m.e.o
  s : -2000 ≤ m.s ∧ m.s ≤ 2000
  rc : -2000 ≤ m.rc ∧ m.rc ≤ 2000
  rv : -2000 ≤ m.rv ∧ m.rv ≤ 2000

theorem MgD.fit {m : Mg} (h : MgD m) : FitMsg m := by
  obtain ⟨⟨a1, b1⟩, ⟨a2, b2⟩, ⟨a3, b3⟩, ⟨a4, b4⟩, ⟨a5, b5⟩, ⟨a6, b6⟩, ⟨⟨k1, k2⟩, nm, ot, ⟨at1, at2⟩, ⟨va1, va2⟩, ⟨ep1, ep2⟩⟩, ⟨a7, b7⟩, ⟨a8, b8⟩, ⟨a9, b9⟩⟩ := h
  refine ⟨⟨⟨?_, ?_⟩, ?_, ?_, ?_, ?_, ?_, ?_, ?_⟩, ?_, ?_, ?_, ?_, ?_, ?_⟩
  all_goals first | (unfold I64; omega) | (unfold maxLen; omega)

theorem opZ : OpFit ⟨0, ⟨#[]⟩, ⟨#[]⟩, 0, 0, 0⟩ := ⟨by simp, sz0, sz0, by simp, by simp, by simp⟩

/-- While a letter is drawn: its box at nB, its entry's at nE, the answer's at the start's end. -/
structure MsSt (c : Nat) (x : Option Addr) (len cap nB nE : Nat) (w W : World) (m : Mg) (e : Ent) : Prop where
  kB : W.heap[nB]? = some (.cells (mgC m).toArray 38 (0, 0))
  kE : W.heap[nE]? = some (.cells (entC e).toArray 34 (0, 0))
  kR : W.heap[w.heap.size]? = some (.cells #[.int .i64 0, .int .i64 0, .int .i64 0, .int .i64 0, .int .i64 0, .int .i64 0, .int .i64 0, .string ⟨#[]⟩, .string ⟨#[]⟩, .int .i64 0, .int .i64 0, .int .i64 0, .int .i64 0, .int .i64 0, .int .i64 0] 38 (0, 0))
  kc : Cur W c x len cap
  u : Upto c w W
  lt : c < w.heap.size
  nb : w.heap.size < nB
  ne : nB < nE
  fit : MgD m

theorem MsSt.step {c nB nE : Nat} {x : Option Addr} {len cap : Nat} {w W W' : World} {m : Mg} {e : Ent} (h : MsSt c x len cap nB nE w W m e) (u : Upto c W W') (kc : Cur W' c x len cap) : MsSt c x len cap nB nE w W' m e := by
  have hlt := h.lt
  have hnb := h.nb
  have hne := h.ne
  exact ⟨(u.block _ (heap_lt h.kB) (by omega)).trans h.kB, (u.block _ (heap_lt h.kE) (by omega)).trans h.kE, (u.block _ (heap_lt h.kR) (by omega)).trans h.kR, kc, h.u.trans u, h.lt, h.nb, h.ne, h.fit⟩

theorem MsSt.alloc {c nB nE : Nat} {x : Option Addr} {len cap : Nat} {w W : World} {m : Mg} {e : Ent} (h : MsSt c x len cap nB nE w W m e) (b : Obj) : MsSt c x len cap nB nE w (W.alloc b) m e :=
  h.step ((Upto.refl c W).alloc b) (h.kc.alloc b)

theorem MsSt.row {c nB nE : Nat} {x : Option Addr} {len cap : Nat} {w W : World} {m : Mg} {e : Ent} (h : MsSt c x len cap nB nE w W m e) (m' : Mg) (hf : MgD m') : MsSt c x len cap nB nE w (W.setRow nB (mgC m').toArray) m' e := by
  have hlt := h.lt
  have hnb := h.nb
  have hne := h.ne
  have uu : Upto nB W (W.setRow nB (mgC m').toArray) := row_upto15
  exact ⟨setRow_row h.kB, (uu.block _ (heap_lt h.kE) (by omega)).trans h.kE, (uu.block _ (heap_lt h.kR) (by omega)).trans h.kR, h.kc.same (uu.toBelow h.kc.lt (by omega)), ⟨uu.os.trans h.u.os, uu.tape.trans h.u.tape, uu.output.trans h.u.output, Nat.le_trans h.u.size uu.size, fun k hk hkc => (uu.block k (Nat.lt_of_lt_of_le hk h.u.size) (by omega)).trans (h.u.block k hk hkc)⟩, h.lt, h.nb, h.ne, hf⟩

theorem MsSt.fin {c nB nE : Nat} {x : Option Addr} {len cap : Nat} {w W : World} {m : Mg} {e : Ent} (h : MsSt c x len cap nB nE w W m e) (cs : Array Value) : Upto c w (W.setRow w.heap.size cs) ∧ Cur (W.setRow w.heap.size cs) c x len cap := by
  have hlt := h.lt
  have uu : Upto w.heap.size W (W.setRow w.heap.size cs) := row_upto15
  exact ⟨⟨uu.os.trans h.u.os, uu.tape.trans h.u.tape, uu.output.trans h.u.output, Nat.le_trans h.u.size uu.size, fun k hk hkc => (uu.block k (Nat.lt_of_lt_of_le hk h.u.size) (by omega)).trans (h.u.block k hk hkc)⟩, h.kc.same (uu.toBelow h.kc.lt (by omega))⟩

theorem MsSt.put {c nB nE : Nat} {x : Option Addr} {len cap : Nat} {w W : World} {m : Mg} {e : Ent} (h : MsSt c x len cap nB nE w W m e) (i : Nat) (v : Value) (m' : Mg) (hv : (mgC m).set i v = mgC m') (hf : MgD m') : MsSt c x len cap nB nE w (W.setCell ⟨nB, i, none⟩ v) m' e := by
  have hlt := h.lt
  have hnb := h.nb
  have hne := h.ne
  have uu : Upto nB W (W.setCell ⟨nB, i, none⟩ v) := (Upto.refl nB W).setCell ⟨nB, i, none⟩ (.inl rfl) _
  have k := set_at h.kB i v
  rw [List.setIfInBounds_toArray, hv] at k
  exact ⟨k, (uu.block _ (heap_lt h.kE) (by omega)).trans h.kE, (uu.block _ (heap_lt h.kR) (by omega)).trans h.kR, h.kc.same (uu.toBelow h.kc.lt (by omega)), h.u.setCell ⟨nB, i, none⟩ (.inr (Nat.le_of_lt h.nb)) _, h.lt, h.nb, h.ne, hf⟩

theorem store_part15 (w : World) (g : Nat) (m : Mg) (hg : w.heap[g]? = some (.cells (mgC m).toArray 38 (0, 0))) (o : Nat) (xs : List Value) (ty : TypeId) (hty : (Try.prog.info? ty).map (·.size) = some xs.length) (ho : o + xs.length ≤ 15) (h1 : ∀ v ∈ xs, v.oneCell' = true) (m' : Mg) (he : (mgC m).take o ++ xs ++ (mgC m).drop (o + xs.length) = mgC m') :
    (Instr.storeAt ty (.pointer (some ⟨g, o, none⟩)) (.agg xs.toArray)).run Try.prog w = .ok () (w.setRow g (mgC m').toArray) := by
  have h := run_storeCells_at (P := Try.prog) g o 38 xs 0 (mgC m).toArray w hg (by simp [mgC_len]; omega) h1
  rw [show ((mgC m).toArray.toList.take (o + 0) ++ xs ++ (mgC m).toArray.toList.drop (o + 0 + xs.length)) = mgC m' from he] at h
  cases hq : Try.prog.info? ty with
  | none => rw [hq] at hty; cases hty
  | some i0 =>
    rw [hq] at hty
    simp only [Option.map_some, Option.some.injEq] at hty
    simp [Instr.storeAt, Instr.sureAddr, storeVar, sizeOf, typeInfo, hq, hty, Value.cells, h]

set_option maxRecDepth 100000 in
set_option maxHeartbeats 6400000 in
theorem drawMsg_any (c : Nat) (x : Option Addr) (len cap : Nat) (w : World) (hc : Cur w c x len cap) :
    Calls Try.prog 26 #[.pointer (some ⟨c, 0, none⟩)] w fun e w' => ∃ m : Mg, e = .returned (mgV m) ∧ MgD m ∧ Upto c w w' ∧ Cur w' c x len cap := by
  have hlt := hc.lt
  obtain ⟨W0, hW0, kR, d0, z0⟩ := box1 w #[.int .i64 0, .int .i64 0, .int .i64 0, .int .i64 0, .int .i64 0, .int .i64 0, .int .i64 0, .string ⟨#[]⟩, .string ⟨#[]⟩, .int .i64 0, .int .i64 0, .int .i64 0, .int .i64 0, .int .i64 0, .int .i64 0] 38
  have kc : Cur W0 c x len cap := hc.below d0
  have u : Upto c w W0 := Upto.ofBelow d0
  have HW0 : Hid (W0 = _) := hW0
  have sR : w.heap.size < W0.heap.size := by omega
  clear hW0 hc d0 z0
  go_enter Try.func26, Try.ntmps26
  go_wp2_with fail
  rw [← HW0.out]
  clear HW0
  refine (below_any c x len cap 4 _ (by omega) kc).mono ?_
  rintro e w1 ⟨a, rfl, ha, u1, k1⟩
  have ha4 := ha.2.1 (by omega)
  have ha0 := ha.1
  clear ha
  go_wp2_with fail
  refine (below_any c x len cap 4 _ (by omega) k1).mono ?_
  rintro e w2 ⟨b, rfl, hb, u2, k2⟩
  have hb4 := hb.2.1 (by omega)
  have hb0 := hb.1
  clear hb
  go_wp2_with fail
  refine (below_any c x len cap 2 _ (by omega) k2).mono ?_
  rintro e w3 ⟨v, rfl, hv, u3, k3⟩
  have hv2 := hv.2.1 (by omega)
  have hv0 := hv.1
  have u123 := (u1.trans u2).trans u3
  replace kR := (u123.block _ sR (by omega)).trans kR
  replace sR := Nat.lt_of_lt_of_le sR u123.size
  replace u := u.trans u123
  clear u1 u2 u3 u123 kc k1 k2 hv
  have bP : Below w3.heap.size w3 (w3.alloc (.cells #[.int .i64 (1 + a), .int .i64 b, .int .i64 (1 + v), .int .i64 0, .int .i64 0, .int .i64 0, .int .i64 0, .string ⟨#[]⟩, .string ⟨#[]⟩, .int .i64 0, .int .i64 0, .int .i64 0, .int .i64 0, .int .i64 0, .int .i64 0] 38)) := bw_alloc (Below.refl _ _)
  have kB := heap_alloc_new w3 (.cells #[.int .i64 (1 + a), .int .i64 b, .int .i64 (1 + v), .int .i64 0, .int .i64 0, .int .i64 0, .int .i64 0, .string ⟨#[]⟩, .string ⟨#[]⟩, .int .i64 0, .int .i64 0, .int .i64 0, .int .i64 0, .int .i64 0, .int .i64 0] 38)
  replace kR := (bP.block _ sR).trans kR
  replace u := u.below bP
  have kc := k3.below bP
  have sB := heap_lt kB
  clear k3
  go_wp2_with fail
  generalize w3.alloc (.cells #[.int .i64 (1 + a), .int .i64 b, .int .i64 (1 + v), .int .i64 0, .int .i64 0, .int .i64 0, .int .i64 0, .string ⟨#[]⟩, .string ⟨#[]⟩, .int .i64 0, .int .i64 0, .int .i64 0, .int .i64 0, .int .i64 0, .int .i64 0] 38) = W4 at *
  generalize hnB : w3.heap.size = nB at *
  clear bP hnB
  refine (below_any c x len cap 4 _ (by omega) kc).mono ?_
  rintro e w5 ⟨cl, rfl, hcl, u1, k1⟩
  have hcl4 := hcl.2.1 (by omega)
  have hcl0 := hcl.1
  clear hcl
  go_wp2_with fail
  refine (below_any c x len cap 9 _ (by omega) k1).mono ?_
  rintro e w6 ⟨tg, rfl, htg, u2, k2⟩
  have htg9 := htg.2.1 (by omega)
  have htg0 := htg.1
  clear htg
  go_wp2_with fail
  refine (draw7_any c x len cap _ k2).mono ?_
  rintro e w7 ⟨⟨ko, on, oo, oa, ov, oe⟩, rfl, fo, u3, k3⟩
  simp only
  have u123 := (u1.trans u2).trans u3
  have sR4 : w.heap.size < W4.heap.size := heap_lt kR
  replace kR := (u123.block _ (heap_lt kR) (by omega)).trans kR
  replace kB := (u123.block _ sB (by omega)).trans kB
  replace u := u.trans u123
  have sB7 := heap_lt kB
  clear u1 u2 u3 u123 kc k1 k2
  have bP : Below w7.heap.size w7 (w7.alloc (.cells #[.int .i64 0, .int .i64 cl, .int .i64 (1 + tg), .int .i64 ko, .string on, .string oo, .int .i64 oa, .int .i64 ov, .int .i64 oe] 34)) := bw_alloc (Below.refl _ _)
  have kE := heap_alloc_new w7 (.cells #[.int .i64 0, .int .i64 cl, .int .i64 (1 + tg), .int .i64 ko, .string on, .string oo, .int .i64 oa, .int .i64 ov, .int .i64 oe] 34)
  have HKD : Hid _ := And.intro ha0 ha4
  have st : MsSt c x len cap nB w7.heap.size w (w7.alloc (.cells #[.int .i64 0, .int .i64 cl, .int .i64 (1 + tg), .int .i64 ko, .string on, .string oo, .int .i64 oa, .int .i64 ov, .int .i64 oe] 34)) (⟨(1 + a), b, (1 + v), ⟨0, 0, 0, ⟨0, ⟨#[]⟩, ⟨#[]⟩, 0, 0, 0⟩⟩, 0, 0, 0⟩ : Mg) (⟨0, cl, 1 + tg, ⟨ko, on, oo, oa, ov, oe⟩⟩ : Ent) := ⟨(bP.block _ sB7).trans kB, kE, (bP.block _ (heap_lt kR)).trans kR, k3.below bP, u.below bP, hlt, sR, sB7, ⟨by simp only; omega, by simp only; omega, by simp only; omega, by simp only; omega, by simp only; omega, by simp only; omega, opZ, by simp only; omega, by simp only; omega, by simp only; omega⟩⟩
  have p0 : (w7.alloc (.cells #[.int .i64 0, .int .i64 cl, .int .i64 (1 + tg), .int .i64 ko, .string on, .string oo, .int .i64 oa, .int .i64 ov, .int .i64 oe] 34)).cell? ⟨nB, 0, none⟩ = some (.int .i64 (1 + a)) := at_cell st.kB 0
  clear bP kE kB kR u k3
  go_upto_block 0 with fail
  generalize w7.alloc (.cells #[.int .i64 0, .int .i64 cl, .int .i64 (1 + tg), .int .i64 ko, .string on, .string oo, .int .i64 oa, .int .i64 ov, .int .i64 oe] 34) = W8 at *
  generalize hnE : w7.heap.size = nE at *
  clear p0 hnE
  generalize hkd : 1 + a = kd at *
  generalize htg1 : 1 + tg = tg1 at *
  generalize hvw : 1 + v = vw at *
  have hkd4 : kd = 1 ∨ kd = 2 ∨ kd = 3 ∨ kd = 4 := by omega
  have ht1 : 1 ≤ tg1 ∧ tg1 ≤ 9 := by omega
  have hv1 : 1 ≤ vw ∧ vw ≤ 2 := by omega
  clear hkd htg1 hvw HKD ha0 ha4 htg9 htg0 hv0 hv2
  go_cut [] (fun wx => ∃ m : Mg, MsSt c x len cap nB nE w wx m (⟨0, cl, tg1, ⟨ko, on, oo, oa, ov, oe⟩⟩ : Ent))
  case first =>
    have p0 : _ = (some (.int .i64 kd) : Option Value) := at_cell st.kB 0
    rcases hkd4 with rfl | rfl | rfl | rfl
    · have HST : Hid _ := store_part15 _ nB (⟨1, b, vw, ⟨0, 0, 0, ⟨0, ⟨#[]⟩, ⟨#[]⟩, 0, 0, 0⟩⟩, 0, 0, 0⟩ : Mg) st.kB 3 [.int .i64 0, .int .i64 cl, .int .i64 tg1, .int .i64 ko, .string on, .string oo, .int .i64 oa, .int .i64 ov, .int .i64 oe] 34 (by kernel_rfl) (by simp) (by intro v hv; simp only [List.mem_cons, List.not_mem_nil, or_false] at hv; rcases hv with rfl | rfl | rfl | rfl | rfl | rfl | rfl | rfl | rfl <;> rfl) (⟨1, b, vw, ⟨0, cl, tg1, ⟨ko, on, oo, oa, ov, oe⟩⟩, 0, 0, 0⟩ : Mg) rfl
      have HKE : Hid ((_ : Option Obj) = some (.cells #[.int .i64 0, .int .i64 cl, .int .i64 tg1, .int .i64 ko, .string on, .string oo, .int .i64 oa, .int .i64 ov, .int .i64 oe] 34 (0, 0))) := st.kE
      have HI9 : Hid ((Try.prog.info? 34).map (·.size) = some (#[.int .i64 0, .int .i64 cl, .int .i64 tg1, .int .i64 ko, .string on, .string oo, .int .i64 oa, .int .i64 ov, .int .i64 oe] : Array Value).size) := sizeEnt15
      replace st := st.row (⟨1, b, vw, ⟨0, cl, tg1, ⟨ko, on, oo, oa, ov, oe⟩⟩, 0, 0, 0⟩ : Mg) ⟨by simp only; omega, by simp only; omega, by simp only; omega, by simp only; omega, by simp only; omega, by simp only; omega, fo, by simp only; omega, by simp only; omega, by simp only; omega⟩
      go_wp2_with (first
        | (with_reducible refine wpList_load_arr rfl _ 34 rfl nE rfl #[.int .i64 0, .int .i64 cl, .int .i64 tg1, .int .i64 ko, .string on, .string oo, .int .i64 oa, .int .i64 ov, .int .i64 oe] 34 (0, 0) HKE.out _ Try.underlying34 rfl HI9.out ?_)
        | (with_reducible refine wpList_storeAt_of rfl _ _ 34 rfl (.pointer (some ⟨nB, 3, none⟩)) (.agg #[.int .i64 0, .int .i64 cl, .int .i64 tg1, .int .i64 ko, .string on, .string oo, .int .i64 oa, .int .i64 ov, .int .i64 oe]) rfl rfl _ HST.out ?_)
        | fail)
      clear HST HKE HI9
      go_meet
      exact ⟨_, st⟩
    · have HST : Hid _ := store_part15 _ nB (⟨2, b, vw, ⟨0, 0, 0, ⟨0, ⟨#[]⟩, ⟨#[]⟩, 0, 0, 0⟩⟩, 0, 0, 0⟩ : Mg) st.kB 3 [.int .i64 0, .int .i64 cl, .int .i64 tg1, .int .i64 ko, .string on, .string oo, .int .i64 oa, .int .i64 ov, .int .i64 oe] 34 (by kernel_rfl) (by simp) (by intro v hv; simp only [List.mem_cons, List.not_mem_nil, or_false] at hv; rcases hv with rfl | rfl | rfl | rfl | rfl | rfl | rfl | rfl | rfl <;> rfl) (⟨2, b, vw, ⟨0, cl, tg1, ⟨ko, on, oo, oa, ov, oe⟩⟩, 0, 0, 0⟩ : Mg) rfl
      have HKE : Hid ((_ : Option Obj) = some (.cells #[.int .i64 0, .int .i64 cl, .int .i64 tg1, .int .i64 ko, .string on, .string oo, .int .i64 oa, .int .i64 ov, .int .i64 oe] 34 (0, 0))) := st.kE
      have HI9 : Hid ((Try.prog.info? 34).map (·.size) = some (#[.int .i64 0, .int .i64 cl, .int .i64 tg1, .int .i64 ko, .string on, .string oo, .int .i64 oa, .int .i64 ov, .int .i64 oe] : Array Value).size) := sizeEnt15
      replace st := st.row (⟨2, b, vw, ⟨0, cl, tg1, ⟨ko, on, oo, oa, ov, oe⟩⟩, 0, 0, 0⟩ : Mg) ⟨by simp only; omega, by simp only; omega, by simp only; omega, by simp only; omega, by simp only; omega, by simp only; omega, fo, by simp only; omega, by simp only; omega, by simp only; omega⟩
      go_wp2_with (first
        | (with_reducible refine wpList_load_arr rfl _ 34 rfl nE rfl #[.int .i64 0, .int .i64 cl, .int .i64 tg1, .int .i64 ko, .string on, .string oo, .int .i64 oa, .int .i64 ov, .int .i64 oe] 34 (0, 0) HKE.out _ Try.underlying34 rfl HI9.out ?_)
        | (with_reducible refine wpList_storeAt_of rfl _ _ 34 rfl (.pointer (some ⟨nB, 3, none⟩)) (.agg #[.int .i64 0, .int .i64 cl, .int .i64 tg1, .int .i64 ko, .string on, .string oo, .int .i64 oa, .int .i64 ov, .int .i64 oe]) rfl rfl _ HST.out ?_)
        | fail)
      clear HST HKE HI9
      refine (draw11Op_any c x len cap _ st.kc).mono ?_
      rintro e w9 ⟨⟨k2, n2, o2, a2, v2, p2⟩, rfl, fo2, u1, k1⟩
      simp only
      replace st := st.step u1 k1
      clear u1 k1
      have HST : Hid _ := store_part15 _ nB (⟨2, b, vw, ⟨0, cl, tg1, ⟨ko, on, oo, oa, ov, oe⟩⟩, 0, 0, 0⟩ : Mg) st.kB 6 [.int .i64 k2, .string n2, .string o2, .int .i64 a2, .int .i64 v2, .int .i64 p2] 32 (by kernel_rfl) (by simp) (by intro v hv; simp only [List.mem_cons, List.not_mem_nil, or_false] at hv; rcases hv with rfl | rfl | rfl | rfl | rfl | rfl <;> rfl) (⟨2, b, vw, ⟨0, cl, tg1, ⟨k2, n2, o2, a2, v2, p2⟩⟩, 0, 0, 0⟩ : Mg) rfl
      replace st := st.row (⟨2, b, vw, ⟨0, cl, tg1, ⟨k2, n2, o2, a2, v2, p2⟩⟩, 0, 0, 0⟩ : Mg) ⟨by simp only; omega, by simp only; omega, by simp only; omega, by simp only; omega, by simp only; omega, by simp only; omega, fo2, by simp only; omega, by simp only; omega, by simp only; omega⟩
      go_wp2_with (first
        | (with_reducible refine wpList_storeAt_of rfl _ _ 32 rfl (.pointer (some ⟨nB, 6, none⟩)) (.agg #[.int .i64 k2, .string n2, .string o2, .int .i64 a2, .int .i64 v2, .int .i64 p2]) rfl rfl _ HST.out ?_)
        | fail)
      clear HST
      refine (below_any c x len cap 12 _ (by omega) st.kc).mono ?_
      rintro e wb ⟨y, rfl, hy, u1, k1⟩
      have hy2 := hy.2.1 (by omega)
      have hy0 := hy.1
      replace st := st.step u1 k1
      clear u1 k1 hy
      have p3 : _ = (some (.int .i64 0) : Option Value) := at_cell st.kB 3
      have f3 := at_open st.kB 3
      replace st := st.put 3 (.int .i64 (1 + y)) (⟨2, b, vw, ⟨(1 + y), cl, tg1, ⟨k2, n2, o2, a2, v2, p2⟩⟩, 0, 0, 0⟩ : Mg) rfl ⟨by simp only; omega, by simp only; omega, by simp only; omega, by simp only; omega, by simp only; omega, by simp only; omega, fo2, by simp only; omega, by simp only; omega, by simp only; omega⟩
      go_wp2_with fail
      go_meet
      exact ⟨_, st⟩
    · go_wp2_with fail
      refine (below_any c x len cap 12 _ (by omega) st.kc).mono ?_
      rintro e wb ⟨y, rfl, hy, u1, k1⟩
      have hy2 := hy.2.1 (by omega)
      have hy0 := hy.1
      replace st := st.step u1 k1
      clear u1 k1 hy
      have p12 : _ = (some (.int .i64 0) : Option Value) := at_cell st.kB 12
      have f12 := at_open st.kB 12
      replace st := st.put 12 (.int .i64 (1 + y)) (⟨3, b, vw, ⟨0, 0, 0, ⟨0, ⟨#[]⟩, ⟨#[]⟩, 0, 0, 0⟩⟩, (1 + y), 0, 0⟩ : Mg) rfl ⟨by simp only; omega, by simp only; omega, by simp only; omega, by simp only; omega, by simp only; omega, by simp only; omega, opZ, by simp only; omega, by simp only; omega, by simp only; omega⟩
      go_wp2_with fail
      go_meet
      exact ⟨_, st⟩
    · have HST : Hid _ := store_part15 _ nB (⟨4, b, vw, ⟨0, 0, 0, ⟨0, ⟨#[]⟩, ⟨#[]⟩, 0, 0, 0⟩⟩, 0, 0, 0⟩ : Mg) st.kB 3 [.int .i64 0, .int .i64 cl, .int .i64 tg1, .int .i64 ko, .string on, .string oo, .int .i64 oa, .int .i64 ov, .int .i64 oe] 34 (by kernel_rfl) (by simp) (by intro v hv; simp only [List.mem_cons, List.not_mem_nil, or_false] at hv; rcases hv with rfl | rfl | rfl | rfl | rfl | rfl | rfl | rfl | rfl <;> rfl) (⟨4, b, vw, ⟨0, cl, tg1, ⟨ko, on, oo, oa, ov, oe⟩⟩, 0, 0, 0⟩ : Mg) rfl
      have HKE : Hid ((_ : Option Obj) = some (.cells #[.int .i64 0, .int .i64 cl, .int .i64 tg1, .int .i64 ko, .string on, .string oo, .int .i64 oa, .int .i64 ov, .int .i64 oe] 34 (0, 0))) := st.kE
      have HI9 : Hid ((Try.prog.info? 34).map (·.size) = some (#[.int .i64 0, .int .i64 cl, .int .i64 tg1, .int .i64 ko, .string on, .string oo, .int .i64 oa, .int .i64 ov, .int .i64 oe] : Array Value).size) := sizeEnt15
      replace st := st.row (⟨4, b, vw, ⟨0, cl, tg1, ⟨ko, on, oo, oa, ov, oe⟩⟩, 0, 0, 0⟩ : Mg) ⟨by simp only; omega, by simp only; omega, by simp only; omega, by simp only; omega, by simp only; omega, by simp only; omega, fo, by simp only; omega, by simp only; omega, by simp only; omega⟩
      have q1 : _ = (some (.int .i64 cl) : Option Value) := at_cell st.kE 1
      have p1 : _ = (some (.int .i64 b) : Option Value) := at_cell st.kB 1
      have f1 := at_open st.kB 1
      replace st := st.put 1 (.int .i64 cl) (⟨4, cl, vw, ⟨0, cl, tg1, ⟨ko, on, oo, oa, ov, oe⟩⟩, 0, 0, 0⟩ : Mg) rfl ⟨by simp only; omega, by simp only; omega, by simp only; omega, by simp only; omega, by simp only; omega, by simp only; omega, fo, by simp only; omega, by simp only; omega, by simp only; omega⟩
      go_wp2_with (first
        | (with_reducible refine wpList_load_arr rfl _ 34 rfl nE rfl #[.int .i64 0, .int .i64 cl, .int .i64 tg1, .int .i64 ko, .string on, .string oo, .int .i64 oa, .int .i64 ov, .int .i64 oe] 34 (0, 0) HKE.out _ Try.underlying34 rfl HI9.out ?_)
        | (with_reducible refine wpList_storeAt_of rfl _ _ 34 rfl (.pointer (some ⟨nB, 3, none⟩)) (.agg #[.int .i64 0, .int .i64 cl, .int .i64 tg1, .int .i64 ko, .string on, .string oo, .int .i64 oa, .int .i64 ov, .int .i64 oe]) rfl rfl _ HST.out ?_)
        | fail)
      clear HST HKE HI9
      clear q1 p1 f1
      refine (below_any c x len cap 12 _ (by omega) st.kc).mono ?_
      rintro e wb ⟨y, rfl, hy, u1, k1⟩
      have hy2 := hy.2.1 (by omega)
      have hy0 := hy.1
      replace st := st.step u1 k1
      clear u1 k1 hy
      have p12 : _ = (some (.int .i64 0) : Option Value) := at_cell st.kB 12
      have f12 := at_open st.kB 12
      replace st := st.put 12 (.int .i64 y) (⟨4, cl, vw, ⟨0, cl, tg1, ⟨ko, on, oo, oa, ov, oe⟩⟩, y, 0, 0⟩ : Mg) rfl ⟨by simp only; omega, by simp only; omega, by simp only; omega, by simp only; omega, by simp only; omega, by simp only; omega, fo, by simp only; omega, by simp only; omega, by simp only; omega⟩
      go_wp2_with fail
      clear p12 f12
      refine (draw10_any c x len cap _ st.kc).mono ?_
      rintro e wd ⟨ra, rb, rfl, hra, hrb, u1, k1⟩
      replace st := st.step u1 k1
      clear u1 k1
      have HST : Hid _ := store_part15 _ nB (⟨4, cl, vw, ⟨0, cl, tg1, ⟨ko, on, oo, oa, ov, oe⟩⟩, y, 0, 0⟩ : Mg) st.kB 13 [.int .i64 ra, .int .i64 rb] 36 (by kernel_rfl) (by simp) (by intro v hv; simp only [List.mem_cons, List.not_mem_nil, or_false] at hv; rcases hv with rfl | rfl <;> rfl) (⟨4, cl, vw, ⟨0, cl, tg1, ⟨ko, on, oo, oa, ov, oe⟩⟩, y, ra, rb⟩ : Mg) rfl
      replace st := st.row (⟨4, cl, vw, ⟨0, cl, tg1, ⟨ko, on, oo, oa, ov, oe⟩⟩, y, ra, rb⟩ : Mg) ⟨by simp only; omega, by simp only; omega, by simp only; omega, by simp only; omega, by simp only; omega, by simp only; omega, fo, by simp only; omega, by simp only; omega, by simp only; omega⟩
      go_wp2_with (first
        | (with_reducible refine wpList_storeAt_of rfl _ _ 36 rfl (.pointer (some ⟨nB, 13, none⟩)) (.agg #[.int .i64 ra, .int .i64 rb]) rfl rfl _ HST.out ?_)
        | fail)
      clear HST
      go_meet
      exact ⟨_, st⟩
  case rest =>
    obtain ⟨m, sa⟩ := hcut
    clear st hkd4 ht1 hv1 fo hb4 hb0 hcl4 hcl0
    go_wp2_with fail
    refine (once_any c x len cap 12 _ (by omega) sa.kc).mono ?_
    rintro e w4 ⟨y, rfl, u1, k1⟩
    replace sa := sa.step u1 k1
    clear u1 k1
    go_upto_if 61 with fail
    go_cut [] (fun wx => ∃ m : Mg, MsSt c x len cap nB nE w wx m (⟨0, cl, tg1, ⟨ko, on, oo, oa, ov, oe⟩⟩ : Ent))
    case first =>
      cases y
      · go_wp2_with fail
        go_meet
        exact ⟨m, sa⟩
      · go_wp2_with fail
        refine (below_any c x len cap 5 _ (by omega) sa.kc).mono ?_
        rintro e w5 ⟨y, rfl, hy, u1, k1⟩
        replace sa := sa.step u1 k1
        have hy5 : y = 0 ∨ y = 1 ∨ y = 2 ∨ y = 3 ∨ y = 4 := by have h1 := hy.2.1 (by omega); have h2 := hy.1; omega
        have hf := sa.fit
        clear u1 k1 hy
        rcases hy5 with rfl | rfl | rfl | rfl | rfl
        · go_wp2_with fail
          refine (from_any c x len cap (-1) 6 _ (by omega) (by omega) (by omega) sa.kc).mono ?_
          rintro e wb ⟨z, rfl, hz, u1, k1⟩
          replace sa := sa.step u1 k1
          clear u1 k1
          have p0 : _ = (some (.int .i64 m.kd) : Option Value) := at_cell sa.kB 0
          have f0 := at_open sa.kB 0
          have HS : Hid _ := sa.put 0 (.int .i64 z) (⟨z, m.ds, m.vw, ⟨m.e.sq, m.e.cl, m.e.tg, ⟨m.e.o.k, m.e.o.nm, m.e.o.ot, m.e.o.at_, m.e.o.va, m.e.o.ep⟩⟩, m.s, m.rc, m.rv⟩ : Mg) rfl ⟨by simp only; omega, hf.ds, hf.vw, hf.sq, hf.cl, hf.tg, hf.o, hf.s, hf.rc, hf.rv⟩
          clear sa hf
          go_wp2_with fail
          go_meet
          exact ⟨_, HS.out⟩
        · go_wp2_with fail
          refine (below_any c x len cap 3 _ (by omega) (sa.alloc _).kc).mono ?_
          rintro e wb ⟨y, rfl, hy, u1, k1⟩
          have sa0 := sa
          replace sa := (sa.alloc _).step u1 k1
          have hy3 := hy.2.1 (by omega)
          obtain ⟨jn, rfl⟩ := Int.eq_ofNat_of_zero_le hy.1
          have hy0 : (0 : Int) ≤ (jn : Int) := by omega
          obtain ⟨z, hz, hzs⟩ : ∃ z : Int, wb.cell? ⟨w5.heap.size, jn, none⟩ = some (.int .i64 z) ∧ (-1 ≤ z ∧ z ≤ 1001) := by
            rw [pick_cell u1 sa0.kc.lt jn]
            have h3 : jn = 0 ∨ jn = 1 ∨ jn = 2 := by omega
            rcases h3 with rfl | rfl | rfl <;> exact ⟨_, rfl, by decide⟩
          clear u1 k1 hy sa0
          have p1 : _ = (some (.int .i64 m.ds) : Option Value) := at_cell sa.kB 1
          have f1 := at_open sa.kB 1
          have HS : Hid _ := sa.put 1 (.int .i64 z) (⟨m.kd, z, m.vw, ⟨m.e.sq, m.e.cl, m.e.tg, ⟨m.e.o.k, m.e.o.nm, m.e.o.ot, m.e.o.at_, m.e.o.va, m.e.o.ep⟩⟩, m.s, m.rc, m.rv⟩ : Mg) rfl ⟨hf.kd, by simp only; omega, hf.vw, hf.sq, hf.cl, hf.tg, hf.o, hf.s, hf.rc, hf.rv⟩
          clear sa hf
          go_wp2_with fail
          go_meet
          exact ⟨_, HS.out⟩
        · go_wp2_with fail
          refine (below_any c x len cap 3 _ (by omega) (sa.alloc _).kc).mono ?_
          rintro e wb ⟨y, rfl, hy, u1, k1⟩
          have sa0 := sa
          replace sa := (sa.alloc _).step u1 k1
          have hy3 := hy.2.1 (by omega)
          obtain ⟨jn, rfl⟩ := Int.eq_ofNat_of_zero_le hy.1
          have hy0 : (0 : Int) ≤ (jn : Int) := by omega
          obtain ⟨z, hz, hzs⟩ : ∃ z : Int, wb.cell? ⟨w5.heap.size, jn, none⟩ = some (.int .i64 z) ∧ (-1 ≤ z ∧ z ≤ 1001) := by
            rw [pick_cell u1 sa0.kc.lt jn]
            have h3 : jn = 0 ∨ jn = 1 ∨ jn = 2 := by omega
            rcases h3 with rfl | rfl | rfl <;> exact ⟨_, rfl, by decide⟩
          clear u1 k1 hy sa0
          have p2 : _ = (some (.int .i64 m.vw) : Option Value) := at_cell sa.kB 2
          have f2 := at_open sa.kB 2
          have HS : Hid _ := sa.put 2 (.int .i64 z) (⟨m.kd, m.ds, z, ⟨m.e.sq, m.e.cl, m.e.tg, ⟨m.e.o.k, m.e.o.nm, m.e.o.ot, m.e.o.at_, m.e.o.va, m.e.o.ep⟩⟩, m.s, m.rc, m.rv⟩ : Mg) rfl ⟨hf.kd, hf.ds, by simp only; omega, hf.sq, hf.cl, hf.tg, hf.o, hf.s, hf.rc, hf.rv⟩
          clear sa hf
          go_wp2_with fail
          go_meet
          exact ⟨_, HS.out⟩
        · go_wp2_with fail
          refine (below_any c x len cap 4 _ (by omega) (sa.alloc _).kc).mono ?_
          rintro e wb ⟨y, rfl, hy, u1, k1⟩
          have sa0 := sa
          replace sa := (sa.alloc _).step u1 k1
          have hy3 := hy.2.1 (by omega)
          obtain ⟨jn, rfl⟩ := Int.eq_ofNat_of_zero_le hy.1
          have hy0 : (0 : Int) ≤ (jn : Int) := by omega
          obtain ⟨z, hz, hzs⟩ : ∃ z : Int, wb.cell? ⟨w5.heap.size, jn, none⟩ = some (.int .i64 z) ∧ (-1 ≤ z ∧ z ≤ 1001) := by
            rw [pick_cell u1 sa0.kc.lt jn]
            have h3 : jn = 0 ∨ jn = 1 ∨ jn = 2 ∨ jn = 3 := by omega
            rcases h3 with rfl | rfl | rfl | rfl <;> exact ⟨_, rfl, by decide⟩
          clear u1 k1 hy sa0
          have p12 : _ = (some (.int .i64 m.s) : Option Value) := at_cell sa.kB 12
          have f12 := at_open sa.kB 12
          have HS : Hid _ := sa.put 12 (.int .i64 z) (⟨m.kd, m.ds, m.vw, ⟨m.e.sq, m.e.cl, m.e.tg, ⟨m.e.o.k, m.e.o.nm, m.e.o.ot, m.e.o.at_, m.e.o.va, m.e.o.ep⟩⟩, z, m.rc, m.rv⟩ : Mg) rfl ⟨hf.kd, hf.ds, hf.vw, hf.sq, hf.cl, hf.tg, hf.o, by simp only; omega, hf.rc, hf.rv⟩
          clear sa hf
          go_wp2_with fail
          go_meet
          exact ⟨_, HS.out⟩
        · go_wp2_with fail
          refine (below_any c x len cap 3 _ (by omega) (sa.alloc _).kc).mono ?_
          rintro e wb ⟨y, rfl, hy, u1, k1⟩
          have sa0 := sa
          replace sa := (sa.alloc _).step u1 k1
          have hy3 := hy.2.1 (by omega)
          obtain ⟨jn, rfl⟩ := Int.eq_ofNat_of_zero_le hy.1
          have hy0 : (0 : Int) ≤ (jn : Int) := by omega
          obtain ⟨z, hz, hzs⟩ : ∃ z : Int, wb.cell? ⟨w5.heap.size, jn, none⟩ = some (.int .i64 z) ∧ (-1 ≤ z ∧ z ≤ 1001) := by
            rw [pick_cell u1 sa0.kc.lt jn]
            have h3 : jn = 0 ∨ jn = 1 ∨ jn = 2 := by omega
            rcases h3 with rfl | rfl | rfl <;> exact ⟨_, rfl, by decide⟩
          clear u1 k1 hy sa0
          have p5 : _ = (some (.int .i64 m.e.tg) : Option Value) := at_cell sa.kB 5
          have f5 := at_open sa.kB 5
          have HS : Hid _ := sa.put 5 (.int .i64 z) (⟨m.kd, m.ds, m.vw, ⟨m.e.sq, m.e.cl, z, ⟨m.e.o.k, m.e.o.nm, m.e.o.ot, m.e.o.at_, m.e.o.va, m.e.o.ep⟩⟩, m.s, m.rc, m.rv⟩ : Mg) rfl ⟨hf.kd, hf.ds, hf.vw, hf.sq, hf.cl, by simp only; omega, hf.o, hf.s, hf.rc, hf.rv⟩
          clear sa hf
          go_wp2_with fail
          go_meet
          exact ⟨_, HS.out⟩
    case rest =>
      clear sa
      obtain ⟨m, sb⟩ := hcut
      obtain ⟨kd, ds, vw, ⟨sq, cl, tg, ⟨k, nm, ot, at_, va, ep⟩⟩, s, rc, rv⟩ := m
      have HKB : Hid ((_ : Option Obj) = some (.cells #[.int .i64 kd, .int .i64 ds, .int .i64 vw, .int .i64 sq, .int .i64 cl, .int .i64 tg, .int .i64 k, .string nm, .string ot, .int .i64 at_, .int .i64 va, .int .i64 ep, .int .i64 s, .int .i64 rc, .int .i64 rv] 38 (0, 0))) := sb.kB
      have HI : Hid ((Try.prog.info? 38).map (·.size) = some (#[.int .i64 kd, .int .i64 ds, .int .i64 vw, .int .i64 sq, .int .i64 cl, .int .i64 tg, .int .i64 k, .string nm, .string ot, .int .i64 at_, .int .i64 va, .int .i64 ep, .int .i64 s, .int .i64 rc, .int .i64 rv] : Array Value).size) := sizeMsg15
      have HS15 : Hid ((#[.int .i64 0, .int .i64 0, .int .i64 0, .int .i64 0, .int .i64 0, .int .i64 0, .int .i64 0, .string ⟨#[]⟩, .string ⟨#[]⟩, .int .i64 0, .int .i64 0, .int .i64 0, .int .i64 0, .int .i64 0, .int .i64 0] : Array Value).size = (#[.int .i64 kd, .int .i64 ds, .int .i64 vw, .int .i64 sq, .int .i64 cl, .int .i64 tg, .int .i64 k, .string nm, .string ot, .int .i64 at_, .int .i64 va, .int .i64 ep, .int .i64 s, .int .i64 rc, .int .i64 rv] : Array Value).size) := rfl
      have H115 : Hid ((#[.int .i64 kd, .int .i64 ds, .int .i64 vw, .int .i64 sq, .int .i64 cl, .int .i64 tg, .int .i64 k, .string nm, .string ot, .int .i64 at_, .int .i64 va, .int .i64 ep, .int .i64 s, .int .i64 rc, .int .i64 rv] : Array Value).all (·.oneCell') = true) := msg_one15 ⟨kd, ds, vw, ⟨sq, cl, tg, ⟨k, nm, ot, at_, va, ep⟩⟩, s, rc, rv⟩
      have HKR : Hid _ := sb.kR
      have hrow := setRow_row (cs := #[.int .i64 kd, .int .i64 ds, .int .i64 vw, .int .i64 sq, .int .i64 cl, .int .i64 tg, .int .i64 k, .string nm, .string ot, .int .i64 at_, .int .i64 va, .int .i64 ep, .int .i64 s, .int .i64 rc, .int .i64 rv]) sb.kR
      have HLD : Hid _ := run_loadVar_row (P := Try.prog) _ w.heap.size 38 38 #[.int .i64 kd, .int .i64 ds, .int .i64 vw, .int .i64 sq, .int .i64 cl, .int .i64 tg, .int .i64 k, .string nm, .string ot, .int .i64 at_, .int .i64 va, .int .i64 ep, .int .i64 s, .int .i64 rc, .int .i64 rv] (0, 0) _ hrow Try.underlying38 rfl HI.out
      have HE : Hid _ := And.intro sb.fit (sb.fin #[.int .i64 kd, .int .i64 ds, .int .i64 vw, .int .i64 sq, .int .i64 cl, .int .i64 tg, .int .i64 k, .string nm, .string ot, .int .i64 at_, .int .i64 va, .int .i64 ep, .int .i64 s, .int .i64 rc, .int .i64 rv])
      clear sb hrow
      go_wp2_with (first
        | (with_reducible refine wpList_load_arr rfl _ 38 rfl nB rfl #[.int .i64 kd, .int .i64 ds, .int .i64 vw, .int .i64 sq, .int .i64 cl, .int .i64 tg, .int .i64 k, .string nm, .string ot, .int .i64 at_, .int .i64 va, .int .i64 ep, .int .i64 s, .int .i64 rc, .int .i64 rv] 38 (0, 0) HKB.out _ Try.underlying38 rfl HI.out ?_)
        | (with_reducible refine wpList_store_arr rfl _ _ 38 rfl w.heap.size rfl #[.int .i64 kd, .int .i64 ds, .int .i64 vw, .int .i64 sq, .int .i64 cl, .int .i64 tg, .int .i64 k, .string nm, .string ot, .int .i64 at_, .int .i64 va, .int .i64 ep, .int .i64 s, .int .i64 rc, .int .i64 rv] rfl #[.int .i64 0, .int .i64 0, .int .i64 0, .int .i64 0, .int .i64 0, .int .i64 0, .int .i64 0, .string ⟨#[]⟩, .string ⟨#[]⟩, .int .i64 0, .int .i64 0, .int .i64 0, .int .i64 0, .int .i64 0, .int .i64 0] 38 HKR.out HI.out HS15.out H115.out ?_)
        | fail)
      refine bodyPost_ret (v := .agg #[.int .i64 kd, .int .i64 ds, .int .i64 vw, .int .i64 sq, .int .i64 cl, .int .i64 tg, .int .i64 k, .string nm, .string ot, .int .i64 at_, .int .i64 va, .int .i64 ep, .int .i64 s, .int .i64 rc, .int .i64 rv]) ?_ rfl ⟨⟨kd, ds, vw, ⟨sq, cl, tg, ⟨k, nm, ot, at_, va, ep⟩⟩, s, rc, rv⟩, rfl, HE.out.1, HE.out.2.1, HE.out.2.2⟩
      simp [results, Try.results26, asAddr, Act.put, HLD.out]
end Go.Proofs.Ytgabhnhfomekfaa

