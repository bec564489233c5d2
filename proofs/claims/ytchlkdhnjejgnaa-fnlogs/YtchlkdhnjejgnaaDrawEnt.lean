/-
  Chapter 11's draws: an op that changes (l11DrawOp), a log (l11Draw).
-/
import Derived.Test.YtchlkdhnjejgnaaEntRow
import Derived.Test.YtchlkdhnjejgnaaDrawOp
import Derived.Test.YtchlkdhnjejgnaaSteps
import Derived.Test.YtchlkdhnjejgnaaDrawMap
import Derived.Deep.DeepCutAuto
namespace Go.Proofs.Ytchlkdhnjejgnaa
open Go.RowKit
set_option linter.unusedVariables false
set_option maxRecDepth 100000

theorem sz0 : (⟨#[]⟩ : ByteArray).size ≤ 5 := of_decide_eq_true rfl
theorem opfit_chg {nm : ByteArray} (h : nm.size ≤ 5) : OpFit ⟨1, nm, ByteArray.empty, 0, 5, 0⟩ := ⟨by simp, h, sz0, by simp, by simp, by simp⟩

set_option maxHeartbeats 3200000 in
theorem draw11Op_any (c : Nat) (x : Option Addr) (len cap : Nat) (w : World) (hc : Cur w c x len cap) :
    Calls Try.prog 101 #[.pointer (some ⟨c, 0, none⟩)] w fun e w' => ∃ o : Oq, e = .returned (.agg #[.int .i64 o.k, .string o.nm, .string o.ot, .int .i64 o.at_, .int .i64 o.va, .int .i64 o.ep]) ∧ OpFit o ∧ Upto c w w' ∧ Cur w' c x len cap := by
  have hlt := hc.lt
  obtain ⟨W0, hW0, kR, d0, z0⟩ := box1 w #[.int .i64 0, .string ⟨#[]⟩, .string ⟨#[]⟩, .int .i64 0, .int .i64 0, .int .i64 0] 31
  have kc : Cur W0 c x len cap := hc.below d0
  have u : Upto c w W0 := Upto.ofBelow d0
  have HW0 : Hid (W0 = _) := hW0
  have sR : w.heap.size < W0.heap.size := by omega
  clear hW0 hc d0 z0
  go_enter Try.func101, Try.ntmps101
  go_wp2_with fail
  rw [← HW0.out]
  clear HW0
  refine (draw7_any c x len cap _ kc).mono ?_
  rintro e w1 ⟨o, rfl, fit, u1, k1⟩
  obtain ⟨ko, nm, ot, at_, va, ep⟩ := o
  simp only
  replace kR := (u1.block _ sR (by omega)).trans kR
  replace sR := Nat.lt_of_lt_of_le sR u1.size
  replace u := u.trans u1
  clear u1 kc
  obtain ⟨W1, hW1, kB, d1, z1⟩ := box1 w1 #[.int .i64 ko, .string nm, .string ot, .int .i64 at_, .int .i64 va, .int .i64 ep] 31
  have HW1 : Hid (W1 = _) := hW1
  have st : OpSt c x len cap w1.heap.size w W1 ⟨ko, nm, ot, at_, va, ep⟩ := ⟨kB, (d1.block _ sR).trans kR, k1.below d1, u.below d1, hlt, sR, fit⟩
  clear kR u k1 kB d1 z1 hW1
  go_upto_region 2 with fail
  rw [← HW1.out]
  clear HW1
  generalize w1.heap.size = nB at *
  by_cases h9 : ko = 9
  · subst h9
    have p0 := at_cell st.kB 0
    have p1 := at_cell st.kB 1
    have p2 := at_cell st.kB 2
    have p3 := at_cell st.kB 3
    have p4 := at_cell st.kB 4
    have p5 := at_cell st.kB 5
    have g0 := at_open st.kB 0
    have g1 := at_open st.kB 1
    have g2 := at_open st.kB 2
    have g3 := at_open st.kB 3
    have g4 := at_open st.kB 4
    have g5 := at_open st.kB 5
    have f := st.fit
    have s0 := st.put 0 (.int .i64 1) ⟨1, nm, ot, at_, va, ep⟩ rfl ⟨by simp, f.nm, f.ot, f.at_, f.va, f.ep⟩
    have s1 := s0.put 1 (.string nm) ⟨1, nm, ot, at_, va, ep⟩ rfl s0.fit
    have s2 := s1.put 2 (.string ⟨#[]⟩) ⟨1, nm, ⟨#[]⟩, at_, va, ep⟩ rfl ⟨by simp, f.nm, sz0, f.at_, f.va, f.ep⟩
    have s3 := s2.put 3 (.int .i64 0) ⟨1, nm, ⟨#[]⟩, 0, va, ep⟩ rfl ⟨by simp, f.nm, sz0, by simp, f.va, f.ep⟩
    have s4 := s3.put 4 (.int .i64 5) ⟨1, nm, ⟨#[]⟩, 0, 5, ep⟩ rfl ⟨by simp, f.nm, sz0, by simp, by simp, f.ep⟩
    have s5 := s4.put 5 (.int .i64 0) ⟨1, nm, ⟨#[]⟩, 0, 5, 0⟩ rfl ⟨by simp, f.nm, sz0, by simp, by simp, by simp⟩
    clear s0 s1 s2 s3 s4 st f
    go_upto_region 4 with fail
    generalize (((((W1.setCell ⟨nB, 0, none⟩ (.int .i64 1)).setCell ⟨nB, 1, none⟩ (.string nm)).setCell ⟨nB, 2, none⟩ (.string ⟨#[]⟩)).setCell ⟨nB, 3, none⟩ (.int .i64 0)).setCell ⟨nB, 4, none⟩ (.int .i64 5)).setCell ⟨nB, 5, none⟩ (.int .i64 0) = W2 at *
    clear p0 p1 p2 p3 p4 p5 g0 g1 g2 g3 g4 g5
    have p0 := at_cell s5.kB 0
    have q0 := at_cell s5.kR 0
    have g0 := at_open s5.kR 0
    have p1 := at_cell s5.kB 1
    have q1 := at_cell s5.kR 1
    have g1 := at_open s5.kR 1
    have p2 := at_cell s5.kB 2
    have q2 := at_cell s5.kR 2
    have g2 := at_open s5.kR 2
    have p3 := at_cell s5.kB 3
    have q3 := at_cell s5.kR 3
    have g3 := at_open s5.kR 3
    have p4 := at_cell s5.kB 4
    have q4 := at_cell s5.kR 4
    have g4 := at_open s5.kR 4
    have p5 := at_cell s5.kB 5
    have q5 := at_cell s5.kR 5
    have g5 := at_open s5.kR 5
    have HF : Hid _ := s5.fin
    have HO : Hid _ := s5.fit
    clear s5
    go_wp2_with fail
    exact bodyPost_ret (v := .agg #[.int .i64 1, .string nm, .string ⟨#[]⟩, .int .i64 0, .int .i64 5, .int .i64 0]) (by simp [results, Try.results101, go_sem, at_cell HF.out.1]) rfl ⟨⟨1, nm, ⟨#[]⟩, 0, 5, 0⟩, rfl, HO.out, HF.out.2.1, HF.out.2.2⟩
  · have p0 := at_cell st.kB 0
    go_upto_region 4 with fail
    clear p0
    have p0 := at_cell st.kB 0
    have q0 := at_cell st.kR 0
    have g0 := at_open st.kR 0
    have p1 := at_cell st.kB 1
    have q1 := at_cell st.kR 1
    have g1 := at_open st.kR 1
    have p2 := at_cell st.kB 2
    have q2 := at_cell st.kR 2
    have g2 := at_open st.kR 2
    have p3 := at_cell st.kB 3
    have q3 := at_cell st.kR 3
    have g3 := at_open st.kR 3
    have p4 := at_cell st.kB 4
    have q4 := at_cell st.kR 4
    have g4 := at_open st.kR 4
    have p5 := at_cell st.kB 5
    have q5 := at_cell st.kR 5
    have g5 := at_open st.kR 5
    have HF : Hid _ := st.fin
    have HO : Hid _ := st.fit
    clear st
    go_wp2_with fail
    exact bodyPost_ret (v := .agg #[.int .i64 ko, .string nm, .string ot, .int .i64 at_, .int .i64 va, .int .i64 ep]) (by simp [results, Try.results101, go_sem, at_cell HF.out.1]) rfl ⟨⟨ko, nm, ot, at_, va, ep⟩, rfl, HO.out, HF.out.2.1, HF.out.2.2⟩

/-- An entry that was drawn. -/
structure EntFit (e : Ent) : Prop where
  sq : -1 ≤ e.sq ∧ e.sq ≤ 1001
  cl : -1 ≤ e.cl ∧ e.cl ≤ 5
  tg : -1 ≤ e.tg ∧ e.tg ≤ 1001
  o : OpFit e.o
theorem EntFit.fit {e : Ent} (h : EntFit e) : FitEnt e := by
  obtain ⟨h1, h2, h3, ⟨h4, h5, h6, h7, h8, h9⟩⟩ := h
  unfold FitEnt maxLen I64
  omega
/-- How memory lies while a log is drawn. -/
structure LgSt (c : Nat) (x : Option Addr) (len cap : Nat) (w W : World) (g cp : Nat) (l : List Ent) : Prop where
  own : W.ownsRow w.heap.size 56 9 (.slice (some ⟨g, 0, none⟩) l.length cp) l.length (l.flatMap entC)
  few : l.length ≤ 16
  fit : ∀ e ∈ l, EntFit e
  kc : Cur W c x len cap
  u : Upto c w W
  lt : c < w.heap.size
theorem LgSt.step {c g cp : Nat} {x : Option Addr} {len cap : Nat} {w W W' : World} {l : List Ent} (h : LgSt c x len cap w W g cp l) (u : Upto c W W') (kc : Cur W' c x len cap) : LgSt c x len cap w W' g cp l :=
  ⟨ownsRow_upto h.own u h.lt, h.few, h.fit, kc, h.u.trans u, h.lt⟩
theorem LgSt.below {c g cp : Nat} {x : Option Addr} {len cap : Nat} {w W W' : World} {l : List Ent} (h : LgSt c x len cap w W g cp l) (b : Below W.heap.size W W') : LgSt c x len cap w W' g cp l := h.step (Upto.ofBelow b) (h.kc.below b)
theorem LgSt.alloc {c g cp : Nat} {x : Option Addr} {len cap : Nat} {w W : World} {l : List Ent} (h : LgSt c x len cap w W g cp l) (o : Obj) : LgSt c x len cap w (W.alloc o) g cp l := h.step ((Upto.refl c W).alloc o) (h.kc.alloc o)
theorem LgSt.drew {c g cp : Nat} {x : Option Addr} {len cap : Nat} {w W : World} {l : List Ent} (h : LgSt c x len cap w W g cp l) : LgSt c x len cap w W.drew g cp l := h.step (Upto.drew (Upto.refl c W)) h.kc.drew
theorem LgSt.lo {c g cp : Nat} {x : Option Addr} {len cap : Nat} {w W : World} {l : List Ent} (h : LgSt c x len cap w W g cp l) : w.heap.size ≤ g ∧ g < W.heap.size := h.own.lt g rfl
theorem LgSt.reads {c g cp : Nat} {x : Option Addr} {len cap : Nat} {w W : World} {l : List Ent} (h : LgSt c x len cap w W g cp l) : ReadsR 9 entC W.heap.size W (.slice (some ⟨g, 0, none⟩) l.length cp) l := ReadsR.of_own entC_len h.own
theorem LgSt.fits {c g cp : Nat} {x : Option Addr} {len cap : Nat} {w W : World} {l : List Ent} (h : LgSt c x len cap w W g cp l) : FitLog l := fun e he => (h.fit e he).fit
/-- A field of an entry is written. -/
theorem LgSt.put {c g cp : Nat} {x : Option Addr} {len cap : Nat} {w W : World} {l : List Ent} (h : LgSt c x len cap w W g cp l) (i j : Nat) (hi : i < l.length) (y : Ent) (v : Value) (hj : j < 9) (hy : (entC l[i]).set j v = entC y) (hf : EntFit y) : LgSt c x len cap w (W.setCell ⟨g, i * 9 + j, none⟩ v) g cp (l.set i y) := by
  have h1 := own_put entC_len h.own i j l[i] y v (List.getElem?_eq_getElem hi) hj hy
  have hlo := h.lo
  have := h.lt
  refine ⟨by simpa using h1, by rw [List.length_set]; exact h.few, fun q hq => ?_, h.kc.same (((Upto.refl g W).setCell ⟨g, i * 9 + j, none⟩ (.inl rfl) _).toBelow h.kc.lt (by omega)), h.u.setCell ⟨g, i * 9 + j, none⟩ (.inr hlo.1) _, h.lt⟩
  rcases List.mem_or_eq_of_mem_set hq with hq | rfl
  · exact h.fit q hq
  · exact hf
theorem one_ent (e : Ent) : ∀ u ∈ entC e, u.oneCell' = true := fun u hu => by
  simp [entC] at hu
  rcases hu with rfl | rfl | rfl | rfl | rfl | rfl | rfl | rfl | rfl <;> rfl
theorem new_nine (w : World) (e : Ent) (t : TypeId) : ∀ (j : Nat) (u : Value), (entC e)[j]? = some u → (w.alloc (.cells #[.int .i64 e.sq, .int .i64 e.cl, .int .i64 e.tg, .int .i64 e.o.k, .string e.o.nm, .string e.o.ot, .int .i64 e.o.at_, .int .i64 e.o.va, .int .i64 e.o.ep] t)).cell? ((⟨w.heap.size, 0, none⟩ : Addr).add j) = some u := by
  intro j u hj
  rw [addr_add]
  exact (World.cell?_alloc_mark w #[.int .i64 e.sq, .int .i64 e.cl, .int .i64 e.tg, .int .i64 e.o.k, .string e.o.nm, .string e.o.ot, .int .i64 e.o.at_, .int .i64 e.o.va, .int .i64 e.o.ep] t (0, 0) j).trans (by simpa [entC] using hj)
/-- An entry more. -/
theorem LgSt.more {c g cp : Nat} {x : Option Addr} {len cap : Nat} {w W W' : World} {l : List Ent} {r : Ent} {v : Value} (h : LgSt c x len cap w W g cp l) (hl : l.length ≤ 15) (hf : EntFit r) (hown : W'.ownsRow w.heap.size 56 9 v (l.length + 1) (l.flatMap entC ++ entC r)) (hg : W.grownBy W' (some g)) (hn : v ≠ .slice none 0 0) :
    ∃ g' cp', v = .slice (some ⟨g', 0, none⟩) (l ++ [r]).length cp' ∧ LgSt c x len cap w W' g' cp' (l ++ [r]) := by
  have own3 : W'.ownsRow w.heap.size 56 9 v (l ++ [r]).length ((l ++ [r]).flatMap entC) := by simpa using hown
  have hlo := h.lo
  have hlt := h.lt
  have kl := h.kc.lt
  rcases own3.2 with ⟨e, _⟩ | ⟨g', cp', cur, e, h2⟩
  · exact absurd e hn
  · subst e
    refine ⟨g', cp', rfl, own3, by simp; omega, fun q hq => ?_, h.kc.same ((Below.refl _ _).grown hg kl (fun q hq => ?_)), h.u.grown hg (fun q hq => ?_), h.lt⟩
    · rcases List.mem_append.1 hq with hq | hq
      · exact h.fit q hq
      · simp at hq
        subst hq
        exact hf
    · simp at hq; omega
    · simp at hq; left; omega
/-- The tags while a log is drawn: four numbers in a block of their own, small ones. -/
structure TgSt (b : Nat) (W : World) (t : List Int) (n : Int) : Prop where
  k : ∃ cur : Array Value, W.heap[b]? = some (.cells cur 2 (0, 0)) ∧ cur.toList = t.map (Value.int .i64)
  len : t.length = 4
  bd : ∀ y ∈ t, 0 ≤ y ∧ y + 2 * n ≤ 32
theorem TgSt.lt {b : Nat} {W : World} {t : List Int} {n : Int} (h : TgSt b W t n) : b < W.heap.size := by
  obtain ⟨cur, k, -⟩ := h.k
  exact heap_lt k
theorem TgSt.keep {b : Nat} {W W' : World} {t : List Int} {n : Int} (h : TgSt b W t n) (k : W'.heap[b]? = W.heap[b]?) : TgSt b W' t n := by
  obtain ⟨cur, k1, k2⟩ := h.k
  exact ⟨⟨cur, k.trans k1, k2⟩, h.len, h.bd⟩
theorem TgSt.alloc {b : Nat} {W : World} {t : List Int} {n : Int} (h : TgSt b W t n) (o : Obj) : TgSt b (W.alloc o) t n := h.keep ((bw_alloc (o := o) (Below.refl W.heap.size W)).block b h.lt)
theorem TgSt.cell {b : Nat} {W : World} {t : List Int} {n : Int} (h : TgSt b W t n) (i : Nat) (hi : i < 4) : W.cell? ⟨b, i, none⟩ = some (.int .i64 (t[i]'(by rw [h.len]; exact hi))) ∧ W.frozen? ⟨b, i, none⟩ = false := by
  obtain ⟨cur, k1, k2⟩ := h.k
  refine ⟨(at_cell k1 i).trans ?_, at_open k1 i⟩
  rw [← Array.getElem?_toList, k2, List.getElem?_map, List.getElem?_eq_getElem (by rw [h.len]; exact hi)]
  rfl
theorem TgSt.put {b : Nat} {W : World} {t : List Int} {n : Int} (h : TgSt b W t n) (i : Nat) (y : Int) (hy : 0 ≤ y ∧ y + 2 * (n - 1) ≤ 32) : TgSt b (W.setCell ⟨b, i, none⟩ (.int .i64 y)) (t.set i y) (n - 1) := by
  obtain ⟨cur, k1, k2⟩ := h.k
  refine ⟨⟨_, set_at k1 i _, by rw [Array.toList_setIfInBounds, k2, List.map_set]⟩, by rw [List.length_set]; exact h.len, fun q hq => ?_⟩
  rcases List.mem_or_eq_of_mem_set hq with hq | rfl
  · have := h.bd q hq
    omega
  · exact hy
/-- A row of entries and the tags don't lie in one block. -/
theorem LgSt.apart {c g cp : Nat} {x : Option Addr} {len cap : Nat} {w W : World} {l : List Ent} (h : LgSt c x len cap w W g cp l) {b : Nat} {t : List Int} {n : Int} (k : TgSt b W t n) : g ≠ b := fun e => by
  obtain ⟨cur, k1, -⟩ := k.k
  exact own_not_box h.own k1 (by decide) (by rw [← e]; rfl)
theorem LgSt.tagged {c g cp : Nat} {x : Option Addr} {len cap : Nat} {w W : World} {l : List Ent} (h : LgSt c x len cap w W g cp l) {b : Nat} {t : List Int} {n : Int} (k : TgSt b W t n) (hb : w.heap.size ≤ b) (i : Nat) (v : Value) : LgSt c x len cap w (W.setCell ⟨b, i, none⟩ v) g cp l := by
  have uu : Upto b W (W.setCell ⟨b, i, none⟩ v) := (Upto.refl b W).setCell ⟨b, i, none⟩ (.inl rfl) v
  have hne := h.apart k
  have := h.lt
  exact ⟨own_rng_not h.own (fun q hq hqv => uu.block q hq (fun e => by simp [Value.ownBlock] at hqv; omega)), h.few, h.fit, h.kc.same (uu.toBelow h.kc.lt (by omega)), h.u.setCell ⟨b, i, none⟩ (.inr hb) v, h.lt⟩

set_option maxHeartbeats 6400000 in
theorem draw11_any (c : Nat) (x : Option Addr) (len cap : Nat) (w : World) (hc : Cur w c x len cap) :
    Calls Try.prog 82 #[.pointer (some ⟨c, 0, none⟩)] w fun e w' => ∃ (g cp : Nat) (l : List Ent), e = .returned (.slice (some ⟨g, 0, none⟩) l.length cp) ∧ LgSt c x len cap w w' g cp l := by
  obtain ⟨i1, hi, hz0, hz1, hz2⟩ := info_parts Try.infoEntry
  have hcw := hc.lt
  have own0 : (w.alloc (.cells #[] 56)).ownsRow w.heap.size 56 9 (.slice (some ⟨w.heap.size, 0, none⟩) 0 0) 0 [] := World.ownsRow_lit w #[] 0 (Nat.le_refl _) (Nat.zero_le _) rfl
  have st0 : LgSt c x len cap w (w.alloc (.cells #[] 56)) w.heap.size 0 [] := ⟨own0, by simp, fun e he => by simp at he, hc.alloc _, (Upto.refl c w).alloc _, hcw⟩
  obtain ⟨M, hM, hmk, hown⟩ := made_ints 4 (by omega)
  have e4 : ((4 : Nat) : Int) = 4 := rfl
  rw [e4] at hmk
  have st1 := st0.alloc (.cells M 2)
  have tg0 : TgSt (w.heap.size + 1) ((w.alloc (.cells #[] 56)).alloc (.cells M 2)) [0, 0, 0, 0] 16 := ⟨⟨M, by have h := heap_alloc_new (w.alloc (.cells #[] 56)) (.cells M 2); simpa using h, hM⟩, rfl, fun y hy => by simp at hy; omega⟩
  clear st0 own0 hown e4
  go_enter Try.func82, Try.ntmps82
  go_wp2_with fail
  generalize (w.alloc (.cells #[] 56)).alloc (.cells M 2) = W0 at st1 tg0 ⊢
  clear hmk
  refine (below_any c x len cap 16 _ (by omega) st1.kc).mono ?_
  rintro e w1 ⟨m, rfl, hm, u1, k1⟩
  have hm16 : m < 16 := hm.2.1 (by omega)
  have hm0 := hm.1
  have tg1 := tg0.keep (u1.block _ tg0.lt (by omega))
  have st2 := st1.step u1 k1
  clear st1 tg0 hm u1 k1
  go_wp2_with fail
  go_loopw [3, 5] (fun q i wr => ∃ (m : Int) (t : List Int) (g cp : Nat) (l : List Ent), (0 ≤ m ∧ m + l.length ≤ 15) ∧ i = .int .i64 m ∧ q = .slice (some ⟨g, 0, none⟩) l.length cp ∧ LgSt c x len cap w wr g cp l ∧ TgSt (w.heap.size + 1) wr t m) (fun _ i _ => (intOf i).toNat)
  case atStart => exact ⟨m, _, _, _, [], ⟨hm0, by simp; omega⟩, rfl, rfl, st2, ⟨tg1.k, tg1.len, fun y hy => by have := tg1.bd y hy; omega⟩⟩
  case round =>
    clear st2 tg1 hm0 hm16
    obtain ⟨m, t, g, cp, l, hm, rfl, rfl, st, tg⟩ := hrel
    by_cases hpos : 0 < m
    · go_wp2_with fail
      refine (below_any c x len cap 4 _ (by omega) st.kc).mono ?_
      rintro e w2 ⟨C0, rfl, hC0, u2, k2⟩
      have hC4 : C0 < 4 := hC0.2.1 (by omega)
      obtain ⟨C, rfl⟩ := Int.eq_ofNat_of_zero_le hC0.1
      have tg2 := tg.keep (u2.block _ tg.lt (by omega))
      have st2 := st.step u2 k2
      clear st tg u2 k2 hC0
      have T2 := (tg2.cell C (by omega)).1
      have F2 := (tg2.cell C (by omega)).2
      have hCt : C < t.length := by rw [tg2.len]; omega
      have hbd := tg2.bd t[C] (List.getElem_mem hCt)
      generalize t[C]'hCt = y at T2 hbd
      have hw1 : IntKind.i64.wrap (y + 1) = y + 1 := by rw [IntKind.wrap_i64]; omega
      have i0 : (0 : Int) ≤ (C : Int) := by omega
      have i1' : (C : Int) < 4 := by omega
      have hcb : w.heap.size + 1 ≠ c := by omega
      have ltb := tg2.lt
      go_upto_region 7 with fail
      go_cut [] (fun wx => ∃ t, LgSt c x len cap w wx g cp l ∧ TgSt (w.heap.size + 1) wx t (m - 1))
      case first =>
        have TD : w2.drew.cell? ⟨w.heap.size + 1, C, none⟩ = some (.int .i64 y) := T2
        go_region_law (first
          | (go_simp; go_at_call 44; refine (below_any c x len cap 2 _ (by omega) st2.drew.kc).mono ?_; rintro e w3 ⟨dd, rfl, hdd, u3, k3⟩; have hd2 := hdd.2.1 (by omega); have hd0 := hdd.1; have T3 : w3.cell? ⟨w.heap.size + 1, C, none⟩ = some (.int .i64 y) := (u3.cell ltb hcb).trans TD; have tg3 := tg2.keep ((upto_undrew u3).block _ ltb hcb); have F3 := (tg3.cell C (by omega)).2; have hw2 : IntKind.i64.wrap (y + 1 + dd) = y + 1 + dd := (by rw [IntKind.wrap_i64]; omega)))
        all_goals
          have HT : Hid _ := tg3.put C (y + 1 + dd) (by omega)
          have HS : Hid _ := (st2.drew.step u3 k3).tagged tg3 (by omega) C (.int .i64 (y + 1 + dd))
          clear tg3 u3 k3 T3 F3 hdd
          go_wp2_with fail
          go_meet
          exact ⟨_, HS.out, HT.out⟩
      case rest =>
        obtain ⟨t2, st3, tg3⟩ := hcut
        clear T2 F2 st2 tg2 hbd hw1 hCt
        have T3 := (tg3.cell C (by omega)).1
        have hCt : C < t2.length := by rw [tg3.len]; omega
        have hbd := tg3.bd t2[C] (List.getElem_mem hCt)
        generalize t2[C]'hCt = z at T3 hbd
        have ltb3 := tg3.lt
        have TD : wc.drew.cell? ⟨w.heap.size + 1, C, none⟩ = some (.int .i64 z) := T3
        have hw2 : IntKind.i64.wrap ((l.length : Int) + 1) = (l.length : Int) + 1 := by rw [IntKind.wrap_i64]; omega
        have HMX : Hid (l.length + 1 ≤ maxLen) := by unfold maxLen; rw [Hid]; omega
        have HBY : Hid ((l.length + 1) * 88 ≤ 140737488355328) := by rw [Hid]; omega
        go_upto_region 8 with fail
        go_region_law (first
          | (go_simp; go_at_call 101; refine (draw11Op_any c x len cap _ st3.drew.kc).mono ?_; rintro e w4 ⟨⟨ko, nm, ot, at_, va, ep⟩, rfl, fo, u4, k4⟩; dsimp only; have T4 : w4.cell? ⟨w.heap.size + 1, C, none⟩ = some (.int .i64 z) := (u4.cell ltb3 hcb).trans TD; have tg4 := tg3.keep ((upto_undrew u4).block _ ltb3 hcb); have st4 := st3.drew.step u4 k4)
          | (refine step_append rfl (.tmp 28) (.tmp 40) 48 rfl w.heap.size 56 i1 (.agg #[.int .i64 0, .int .i64 0, .int .i64 0, .int .i64 0, .string ByteArray.empty, .string ByteArray.empty, .int .i64 0, .int .i64 0, .int .i64 0]) 9 88 Try.underlying48 hi hz0 hz1 hz2 rfl (by decide) (.slice (some ⟨g, 0, none⟩) l.length cp) l.length (l.flatMap entC) (by simp [Act.eval]) (st4.own.alloc _) ⟨w4.heap.size, 0, none⟩ 1 1 (entC ⟨(l.length : Int) + 1, (C : Int), z, ⟨ko, nm, ot, at_, va, ep⟩⟩) (by simp [Act.eval]) rfl (new_nine _ ⟨(l.length : Int) + 1, (C : Int), z, ⟨ko, nm, ot, at_, va, ep⟩⟩ _) (one_ent _) HMX.out HBY.out (by have h1 := st4.u.size; simp; omega) ?_; intro vb wb ownb growb nilb))
        all_goals
          have hfe : EntFit ⟨(l.length : Int) + 1, (C : Int), z, ⟨ko, nm, ot, at_, va, ep⟩⟩ := ⟨by simp only; omega, by simp only; omega, by simp only; omega, fo⟩
          have hnb : vb ≠ .slice none 0 0 := fun h => by have := nilb.1 h; simp at this
          obtain ⟨g9, cp9, hv9, st9⟩ := (st4.alloc _).more (by omega) hfe ownb growb hnb
          have tg9 : TgSt (w.heap.size + 1) wb t2 (m - 1) := by
            exact (tg4.alloc _).keep (growb.block _ (tg4.alloc _).lt (fun e => st4.apart tg4 (by simp [Value.ownBlock] at e; omega)))
          subst hv9
          have HST : Hid _ := And.intro st9 tg9
          clear st9 tg9 ownb growb nilb hnb st4 tg4 T4 u4 k4 hfe fo
          have hwm : IntKind.i64.wrap (m - 1) = m - 1 := by rw [IntKind.wrap_i64]; omega
          go_wp2_with fail
          go_roundw
          case rel => exact ⟨m - 1, t2, g9, cp9, _, ⟨by omega, by simp; omega⟩, by first | rfl | go_num, by simp, HST.out.1, HST.out.2⟩
          case measure => simp [intOf]; omega
    · go_wp2_with fail
      go_ret
      exact ⟨g, cp, l, rfl, st⟩

end Go.Proofs.Ytchlkdhnjejgnaa
