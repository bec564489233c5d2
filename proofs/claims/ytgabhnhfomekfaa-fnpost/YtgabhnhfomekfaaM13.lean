/-
  Contracts and plain laws, one chapter behind the other.
-/
import Derived.Test.YtgabhnhfomekfaaChecked
import Derived.ProofKit
import Derived.OpenShut
import Derived.ShutString
import Derived.Lib.SmallJoins
import Derived.SliceStrings
import Derived.ChangeSlices
import Derived.Deep.RegionHeld3
import Derived.Deep.Slices
import Derived.Deep.Strs
import Derived.Deep.DeepCutAuto
import Derived.Deep.RegionLaw
import Derived.Test.YtgabhnhfomekfaaM01
import Derived.Test.YtgabhnhfomekfaaM03
import Derived.Test.YtgabhnhfomekfaaM05
import Derived.Test.YtgabhnhfomekfaaM07
import Derived.Test.YtgabhnhfomekfaaM08
import Derived.Test.YtgabhnhfomekfaaM10
import Derived.Test.YtgabhnhfomekfaaM11
import Derived.Test.YtgabhnhfomekfaaM12
namespace Go.Proofs.Ytgabhnhfomekfaa
open Go.RowKit

set_option linter.unusedVariables false

set_option maxRecDepth 100000


theorem sz0 : (⟨#[]⟩ : ByteArray).size ≤ 5 := of_decide_eq_true rfl

set_option maxHeartbeats 3200000 in
theorem draw11Op_any (c : Nat) (x : Option Addr) (len cap : Nat) (w : World) (hc : Cur w c x len cap) :
    Calls Try.prog 48 #[.pointer (some ⟨c, 0, none⟩)] w fun e w' => ∃ o : Oq, e = .returned (.agg #[.int .i64 o.k, .string o.nm, .string o.ot, .int .i64 o.at_, .int .i64 o.va, .int .i64 o.ep]) ∧ OpFit o ∧ Upto c w w' ∧ Cur w' c x len cap := by
  have hlt := hc.lt
  obtain ⟨W0, hW0, kR, d0, z0⟩ := box1 w #[.int .i64 0, .string ⟨#[]⟩, .string ⟨#[]⟩, .int .i64 0, .int .i64 0, .int .i64 0] 32
  have kc : Cur W0 c x len cap := hc.below d0
  have u : Upto c w W0 := Upto.ofBelow d0
  have HW0 : Hid (W0 = _) := hW0
  have sR : w.heap.size < W0.heap.size := by omega
  clear hW0 hc d0 z0
  go_enter Try.func48, Try.ntmps48
  go_wp2_with fail
  rw [← HW0.out]
  clear HW0
  refine (draw7_any c x len cap _ kc).mono ?_
  rintro e w1 ⟨o, rfl, fit, u1, k1⟩
  obtain ⟨ko, nm, ot, at_, va, ep⟩ := o
  simp only
  replace kR := (u1.block _ sR (by omega)).trans kR
  replace sR := Nat.lt_of_lt_of_le sR u1.size
  replace u := u.trans u1
  clear u1 kc
  obtain ⟨W1, hW1, kB, d1, z1⟩ := box1 w1 #[.int .i64 ko, .string nm, .string ot, .int .i64 at_, .int .i64 va, .int .i64 ep] 32
  have HW1 : Hid (W1 = _) := hW1
  have st : OpSt c x len cap w1.heap.size w W1 ⟨ko, nm, ot, at_, va, ep⟩ := ⟨kB, (d1.block _ sR).trans kR, k1.below d1, u.below d1, hlt, sR, fit⟩
  clear kR u k1 kB d1 z1 hW1
  go_upto_region 2 with fail
  rw [← HW1.out]
  clear HW1
  generalize w1.heap.size = nB at *
  by_cases h9 : ko = 9
  · subst h9
    have p0 := at_cell st.kB 0
    have p1 := at_cell st.kB 1
    have p2 := at_cell st.kB 2
    have p3 := at_cell st.kB 3
    have p4 := at_cell st.kB 4
    have p5 := at_cell st.kB 5
    have g0 := at_open st.kB 0
    have g1 := at_open st.kB 1
    have g2 := at_open st.kB 2
    have g3 := at_open st.kB 3
    have g4 := at_open st.kB 4
    have g5 := at_open st.kB 5
    have f := st.fit
    have s0 := st.put 0 (.int .i64 1) ⟨1, nm, ot, at_, va, ep⟩ rfl ⟨by simp, f.nm, f.ot, f.at_, f.va, f.ep⟩
    have s1 := s0.put 1 (.string nm) ⟨1, nm, ot, at_, va, ep⟩ rfl s0.fit
    have s2 := s1.put 2 (.string ⟨#[]⟩) ⟨1, nm, ⟨#[]⟩, at_, va, ep⟩ rfl ⟨by simp, f.nm, sz0, f.at_, f.va, f.ep⟩
    have s3 := s2.put 3 (.int .i64 0) ⟨1, nm, ⟨#[]⟩, 0, va, ep⟩ rfl ⟨by simp, f.nm, sz0, by simp, f.va, f.ep⟩
    have s4 := s3.put 4 (.int .i64 5) ⟨1, nm, ⟨#[]⟩, 0, 5, ep⟩ rfl ⟨by simp, f.nm, sz0, by simp, by simp, f.ep⟩
    have s5 := s4.put 5 (.int .i64 0) ⟨1, nm, ⟨#[]⟩, 0, 5, 0⟩ rfl ⟨by simp, f.nm, sz0, by simp, by simp, by simp⟩
    clear s0 s1 s2 s3 s4 st f
    go_upto_region 4 with fail
    generalize (((((W1.setCell ⟨nB, 0, none⟩ (.int .i64 1)).setCell ⟨nB, 1, none⟩ (.string nm)).setCell ⟨nB, 2, none⟩ (.string ⟨#[]⟩)).setCell ⟨nB, 3, none⟩ (.int .i64 0)).setCell ⟨nB, 4, none⟩ (.int .i64 5)).setCell ⟨nB, 5, none⟩ (.int .i64 0) = W2 at *
    clear p0 p1 p2 p3 p4 p5 g0 g1 g2 g3 g4 g5
    have p0 := at_cell s5.kB 0
    have q0 := at_cell s5.kR 0
    have g0 := at_open s5.kR 0
    have p1 := at_cell s5.kB 1
    have q1 := at_cell s5.kR 1
    have g1 := at_open s5.kR 1
    have p2 := at_cell s5.kB 2
    have q2 := at_cell s5.kR 2
    have g2 := at_open s5.kR 2
    have p3 := at_cell s5.kB 3
    have q3 := at_cell s5.kR 3
    have g3 := at_open s5.kR 3
    have p4 := at_cell s5.kB 4
    have q4 := at_cell s5.kR 4
    have g4 := at_open s5.kR 4
    have p5 := at_cell s5.kB 5
    have q5 := at_cell s5.kR 5
    have g5 := at_open s5.kR 5
    have HF : Hid _ := s5.fin
    have HO : Hid _ := s5.fit
    clear s5
    go_wp2_with fail
    exact bodyPost_ret (v := .agg #[.int .i64 1, .string nm, .string ⟨#[]⟩, .int .i64 0, .int .i64 5, .int .i64 0]) (by simp [results, Try.results48, go_sem, at_cell HF.out.1]) rfl ⟨⟨1, nm, ⟨#[]⟩, 0, 5, 0⟩, rfl, HO.out, HF.out.2.1, HF.out.2.2⟩
  · have p0 := at_cell st.kB 0
    go_upto_region 4 with fail
    clear p0
    have p0 := at_cell st.kB 0
    have q0 := at_cell st.kR 0
    have g0 := at_open st.kR 0
    have p1 := at_cell st.kB 1
    have q1 := at_cell st.kR 1
    have g1 := at_open st.kR 1
    have p2 := at_cell st.kB 2
    have q2 := at_cell st.kR 2
    have g2 := at_open st.kR 2
    have p3 := at_cell st.kB 3
    have q3 := at_cell st.kR 3
    have g3 := at_open st.kR 3
    have p4 := at_cell st.kB 4
    have q4 := at_cell st.kR 4
    have g4 := at_open st.kR 4
    have p5 := at_cell st.kB 5
    have q5 := at_cell st.kR 5
    have g5 := at_open st.kR 5
    have HF : Hid _ := st.fin
    have HO : Hid _ := st.fit
    clear st
    go_wp2_with fail
    exact bodyPost_ret (v := .agg #[.int .i64 ko, .string nm, .string ot, .int .i64 at_, .int .i64 va, .int .i64 ep]) (by simp [results, Try.results48, go_sem, at_cell HF.out.1]) rfl ⟨⟨ko, nm, ot, at_, va, ep⟩, rfl, HO.out, HF.out.2.1, HF.out.2.2⟩

/-- An entry that was drawn. -/
structure EntFit (e : Ent) : Prop where
  sq : -1 ≤ e.sq ∧ e.sq ≤ 1001
  cl : -1 ≤ e.cl ∧ e.cl ≤ 5
  tg : -1 ≤ e.tg ∧ e.tg ≤ 1001
  o : OpFit e.o

theorem EntFit.fit {e : Ent} (h : EntFit e) : FitEnt e := by
  obtain ⟨h1, h2, h3, ⟨h4, h5, h6, h7, h8, h9⟩⟩ := h
  unfold FitEnt maxLen I64
  omega

/-- How memory lies while a log is drawn. -/
structure LgSt (c : Nat) (x : Option Addr) (len cap : Nat) (w W : World) (g cp : Nat) (l : List Ent) : Prop where
  own : W.ownsRow w.heap.size 34 9 (.slice (some ⟨g, 0, none⟩) l.length cp) l.length (l.flatMap entC)
  few : l.length ≤ 16
  fit : ∀ e ∈ l, EntFit e
  kc : Cur W c x len cap
  u : Upto c w W
  lt : c < w.heap.size

theorem LgSt.step {c g cp : Nat} {x : Option Addr} {len cap : Nat} {w W W' : World} {l : List Ent} (h : LgSt c x len cap w W g cp l) (u : Upto c W W') (kc : Cur W' c x len cap) : LgSt c x len cap w W' g cp l :=
  ⟨ownsRow_upto h.own u h.lt, h.few, h.fit, kc, h.u.trans u, h.lt⟩

theorem LgSt.below {c g cp : Nat} {x : Option Addr} {len cap : Nat} {w W W' : World} {l : List Ent} (h : LgSt c x len cap w W g cp l) (b : Below W.heap.size W W') : LgSt c x len cap w W' g cp l := h.step (Upto.ofBelow b) (h.kc.below b)

theorem LgSt.alloc {c g cp : Nat} {x : Option Addr} {len cap : Nat} {w W : World} {l : List Ent} (h : LgSt c x len cap w W g cp l) (o : Obj) : LgSt c x len cap w (W.alloc o) g cp l := h.step ((Upto.refl c W).alloc o) (h.kc.alloc o)

theorem LgSt.drew {c g cp : Nat} {x : Option Addr} {len cap : Nat} {w W : World} {l : List Ent} (h : LgSt c x len cap w W g cp l) : LgSt c x len cap w W.drew g cp l := h.step (Upto.drew (Upto.refl c W)) h.kc.drew

theorem LgSt.lo {c g cp : Nat} {x : Option Addr} {len cap : Nat} {w W : World} {l : List Ent} (h : LgSt c x len cap w W g cp l) : w.heap.size ≤ g ∧ g < W.heap.size := h.own.lt g rfl

theorem LgSt.reads {c g cp : Nat} {x : Option Addr} {len cap : Nat} {w W : World} {l : List Ent} (h : LgSt c x len cap w W g cp l) : ReadsR 9 entC W.heap.size W (.slice (some ⟨g, 0, none⟩) l.length cp) l := ReadsR.of_own entC_len h.own

theorem LgSt.fits {c g cp : Nat} {x : Option Addr} {len cap : Nat} {w W : World} {l : List Ent} (h : LgSt c x len cap w W g cp l) : FitLog l := fun e he => (h.fit e he).fit

/-- A field of an entry is written. -/
theorem LgSt.put {c g cp : Nat} {x : Option Addr} {len cap : Nat} {w W : World} {l : List Ent} (h : LgSt c x len cap w W g cp l) (i j : Nat) (hi : i < l.length) (y : Ent) (v : Value) (hj : j < 9) (hy : (entC l[i]).set j v = entC y) (hf : EntFit y) : LgSt c x len cap w (W.setCell ⟨g, i * 9 + j, none⟩ v) g cp (l.set i y) := by
  have h1 := own_put entC_len h.own i j l[i] y v (List.getElem?_eq_getElem hi) hj hy
  have hlo := h.lo
  have := h.lt
  refine ⟨by simpa using h1, by rw [List.length_set]; exact h.few, fun q hq => ?_, h.kc.same (((Upto.refl g W).setCell ⟨g, i * 9 + j, none⟩ (.inl rfl) _).toBelow h.kc.lt (by omega)), h.u.setCell ⟨g, i * 9 + j, none⟩ (.inr hlo.1) _, h.lt⟩
  rcases List.mem_or_eq_of_mem_set hq with hq | rfl
  · exact h.fit q hq
  · exact hf

/-- An entry more. -/
theorem LgSt.more {c g cp : Nat} {x : Option Addr} {len cap : Nat} {w W W' : World} {l : List Ent} {r : Ent} {v : Value} (h : LgSt c x len cap w W g cp l) (hl : l.length ≤ 15) (hf : EntFit r) (hown : W'.ownsRow w.heap.size 34 9 v (l.length + 1) (l.flatMap entC ++ entC r)) (hg : W.grownBy W' (some g)) (hn : v ≠ .slice none 0 0) :
    ∃ g' cp', v = .slice (some ⟨g', 0, none⟩) (l ++ [r]).length cp' ∧ LgSt c x len cap w W' g' cp' (l ++ [r]) := by
  have own3 : W'.ownsRow w.heap.size 34 9 v (l ++ [r]).length ((l ++ [r]).flatMap entC) := by simpa using hown
  have hlo := h.lo
  have hlt := h.lt
  have kl := h.kc.lt
  rcases own3.2 with ⟨e, _⟩ | ⟨g', cp', cur, e, h2⟩
  · exact absurd e hn
  · subst e
    refine ⟨g', cp', rfl, own3, by simp; omega, fun q hq => ?_, h.kc.same ((Below.refl _ _).grown hg kl (fun q hq => ?_)), h.u.grown hg (fun q hq => ?_), h.lt⟩
    · rcases List.mem_append.1 hq with hq | hq
      · exact h.fit q hq
      · simp at hq
        subst hq
        exact hf
    · simp at hq; omega
    · simp at hq; left; omega

/-- The tags while a log is drawn: four numbers in a block of their own, small ones. -/
structure TgSt (b : Nat) (W : World) (t : List Int) (n : Int) : Prop where
  k : ∃ cur : Array Value, W.heap[b]? = some (.cells cur 2 (0, 0)) ∧ cur.toList = t.map (Value.int .i64)
  len : t.length = 4
  bd : ∀ y ∈ t, 0 ≤ y ∧ y + 2 * n ≤ 32

theorem TgSt.lt {b : Nat} {W : World} {t : List Int} {n : Int} (h : TgSt b W t n) : b < W.heap.size := by
  obtain ⟨cur, k, -⟩ := h.k
  exact heap_lt k

theorem TgSt.keep {b : Nat} {W W' : World} {t : List Int} {n : Int} (h : TgSt b W t n) (k : W'.heap[b]? = W.heap[b]?) : TgSt b W' t n := by
  obtain ⟨cur, k1, k2⟩ := h.k
  exact ⟨⟨cur, k.trans k1, k2⟩, h.len, h.bd⟩

theorem TgSt.alloc {b : Nat} {W : World} {t : List Int} {n : Int} (h : TgSt b W t n) (o : Obj) : TgSt b (W.alloc o) t n := h.keep ((bw_alloc (o := o) (Below.refl W.heap.size W)).block b h.lt)

theorem TgSt.cell {b : Nat} {W : World} {t : List Int} {n : Int} (h : TgSt b W t n) (i : Nat) (hi : i < 4) : W.cell? ⟨b, i, none⟩ = some (.int .i64 (t[i]'(by rw [h.len]; exact hi))) ∧ W.frozen? ⟨b, i, none⟩ = false := by
  obtain ⟨cur, k1, k2⟩ := h.k
  refine ⟨(at_cell k1 i).trans ?_, at_open k1 i⟩
  rw [← Array.getElem?_toList, k2, List.getElem?_map, List.getElem?_eq_getElem (by rw [h.len]; exact hi)]
  rfl

theorem TgSt.put {b : Nat} {W : World} {t : List Int} {n : Int} (h : TgSt b W t n) (i : Nat) (y : Int) (hy : 0 ≤ y ∧ y + 2 * (n - 1) ≤ 32) : TgSt b (W.setCell ⟨b, i, none⟩ (.int .i64 y)) (t.set i y) (n - 1) := by
  obtain ⟨cur, k1, k2⟩ := h.k
  refine ⟨⟨_, set_at k1 i _, by rw [Array.toList_setIfInBounds, k2, List.map_set]⟩, by rw [List.length_set]; exact h.len, fun q hq => ?_⟩
  rcases List.mem_or_eq_of_mem_set hq with hq | rfl
  · have := h.bd q hq
    omega
  · exact hy
end Go.Proofs.Ytgabhnhfomekfaa

