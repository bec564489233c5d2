/-
  Contracts and plain laws, one chapter behind the other.
-/
import Derived.Test.YtgabhnhfomekfaaM51
namespace Go.Proofs.Ytgabhnhfomekfaa
open Go.RowKit

set_option linter.unusedVariables false

set_option maxRecDepth 100000


theorem fit_taken {l : List Mg} {q : Nat} (h : FitPost l) : ∀ p m, p < 60 → upd (placesOf (kept l)) q none p = some m → FitMsg m ∧ msgOk m = true := fun p m hp e => by
  by_cases hq : p = q
  · subst hq
    rw [upd_at] at e
    cases e
  · rw [upd_ne _ _ hq] at e
    exact fit_kept h p m hp e

theorem taken_at {l : List Mg} {q : Nat} {m : Mg} (hok : postOk l = true) (hm : l[q]? = some m) : taken l (q : Int) = (without15 l q, m, true) ∧ lettersIn (lineAt (upd (placesOf (kept l)) q none)) = without15 l q := by
  have h60 : l.length ≤ 60 := by rw [← kept_yes hok]; exact kept_le l
  have hal : allOk l = true := by rw [← kept_yes hok]; exact kept_ok l
  have hq : q < l.length := by
    rcases Nat.lt_or_ge q l.length with g | g
    · exact g
    · rw [List.getElem?_eq_none g] at hm; cases hm
  refine ⟨?_, ?_⟩
  · rw [taken, if_pos hok, if_pos ⟨by omega, by simpa using hq⟩, Int.toNat_natCast, hm]
    rfl
  · rw [kept_yes hok]
    exact letters_taken h60 hq hal

set_option maxHeartbeats 6400000 in
theorem implTaken_any (v1 : Value) (l : List Mg) (a : Int) (w : World) (hf1 : FitPost l) (hl1 : l.length ≤ 1048576) (r1 : ReadsR 15 mgC w.heap.size w v1 l) :
    Calls Try.prog 8 #[v1, .int .i64 a] w fun e w' => ∃ v', e = .returned (.tuple #[v', .agg #[.int .i64 (taken l a).2.1.kd, .int .i64 (taken l a).2.1.ds, .int .i64 (taken l a).2.1.vw, .int .i64 (taken l a).2.1.e.sq, .int .i64 (taken l a).2.1.e.cl, .int .i64 (taken l a).2.1.e.tg, .int .i64 (taken l a).2.1.e.o.k, .string (taken l a).2.1.e.o.nm, .string (taken l a).2.1.e.o.ot, .int .i64 (taken l a).2.1.e.o.at_, .int .i64 (taken l a).2.1.e.o.va, .int .i64 (taken l a).2.1.e.o.ep, .int .i64 (taken l a).2.1.s, .int .i64 (taken l a).2.1.rc, .int .i64 (taken l a).2.1.rv], .bool (taken l a).2.2]) ∧ w'.ownsRow w.heap.size 38 15 v' (taken l a).1.length ((taken l a).1.flatMap mgC) ∧ Below w.heap.size w w' := by
  obtain ⟨o1, c1, rfl⟩ := r1.form
  obtain ⟨W0, hW0⟩ : ∃ W0, w.alloc (.cells #[.int .i64 0, .int .i64 0, .int .i64 0, .int .i64 0, .int .i64 0, .int .i64 0, .int .i64 0, .string ⟨#[]⟩, .string ⟨#[]⟩, .int .i64 0, .int .i64 0, .int .i64 0, .int .i64 0, .int .i64 0, .int .i64 0] 38) = W0 := ⟨_, rfl⟩
  have HW0 : Hid (w.alloc (.cells #[.int .i64 0, .int .i64 0, .int .i64 0, .int .i64 0, .int .i64 0, .int .i64 0, .int .i64 0, .string ⟨#[]⟩, .string ⟨#[]⟩, .int .i64 0, .int .i64 0, .int .i64 0, .int .i64 0, .int .i64 0, .int .i64 0] 38) = W0) := hW0
  have k0 : W0.heap[w.heap.size]? = some (.cells #[.int .i64 0, .int .i64 0, .int .i64 0, .int .i64 0, .int .i64 0, .int .i64 0, .int .i64 0, .string ⟨#[]⟩, .string ⟨#[]⟩, .int .i64 0, .int .i64 0, .int .i64 0, .int .i64 0, .int .i64 0, .int .i64 0] 38 (0, 0)) := by rw [← hW0]; exact heap_alloc_new w _
  have d0 : Below w.heap.size w W0 := by rw [← hW0]; exact bw_alloc (Below.refl _ _)
  have r0 := (r1.below d0).mono d0.size
  have kA := heap_alloc_new W0 (.cells #[.slice o1 l.length c1] 24)
  have dA : Below W0.heap.size W0 (W0.alloc (.cells #[.slice o1 l.length c1] 24)) := bw_alloc (Below.refl _ _)
  have hL := lists_one dA kA r0
  have k1 := (dA.block _ (heap_lt k0)).trans k0
  have d1 := bw_call d0 dA
  have s0 := heap_lt k0
  clear hW0 r0 k0 d0 r1
  go_enter Try.func8, Try.ntmps8
  go_upto_region 1 with fail
  rw [HW0.out]
  clear HW0
  go_wp2_with fail
  generalize W0.alloc (.cells #[.slice o1 l.length c1] 24) = W1 at *
  refine (bagOf_one W0.heap.size _ l _ hl1 hf1 hL).mono ?_
  rintro e w2 ⟨b, rfl, hb, TB0, b2⟩
  have k2 := (b2.block _ (heap_lt k1)).trans k1
  have d2 := bw_call d1 b2
  have hbR : w.heap.size < b := by have := dA.size; omega
  clear hL kA b2 dA k1 d1 hb
  go_wp2_with fail
  refine (letterAt_any b 60 _ a _ TB0 (fun p m h1 h2 => (fit_kept hf1 p m h1 h2).1)).mono ?_
  rintro e w3 ⟨rfl, b3⟩
  have T3 := TB0.below b3
  have k3 := (b3.block _ (heap_lt k2)).trans k2
  have d3 := bw_call d2 b3
  clear TB0 b3 d2 k2
  have HI : Hid ((Try.prog.info? 38).map (·.size) = some (#[.int .i64 0, .int .i64 0, .int .i64 0, .int .i64 0, .int .i64 0, .int .i64 0, .int .i64 0, .string ⟨#[]⟩, .string ⟨#[]⟩, .int .i64 0, .int .i64 0, .int .i64 0, .int .i64 0, .int .i64 0, .int .i64 0] : Array Value).size) := sizeMsg15
  rcases at_kept l a with ⟨q, rfl, hq, hok, m, hm, hmok, hx, hz⟩ | ⟨hx, -, ht⟩
  · obtain ⟨htk, hlt0⟩ := taken_at hok hm
    obtain ⟨LT, hLT⟩ : ∃ LT, without15 l q = LT := ⟨_, rfl⟩
    rw [hLT] at htk hlt0
    have HTK : Hid _ := htk
    have HLT : Hid _ := hlt0
    have hsm := msg_small15 hmok
    have hfm := hf1 m (List.mem_of_getElem? hm)
    have hfq : placesOf (kept l) q = some m := by rw [kept_yes hok]; exact hm
    have hft := fit_taken (q := q) hf1
    rw [hx, hz]
    clear hx hz hm hmok hok htk hlt0 hLT
    obtain ⟨kd, ds, vw, ⟨sq, cl, tg, ⟨k, nm, ot, at_, va, ep⟩⟩, s, rc, rv⟩ := m
    simp only at hsm
    simp only [mgV]
    have hB4 : Below w3.heap.size w3 (w3.alloc (.cells #[.int .i64 kd, .int .i64 ds, .int .i64 vw, .int .i64 sq, .int .i64 cl, .int .i64 tg, .int .i64 k, .string nm, .string ot, .int .i64 at_, .int .i64 va, .int .i64 ep, .int .i64 s, .int .i64 rc, .int .i64 rv] 38)) := bw_alloc (Below.refl _ _)
    have d4 := bw_call d3 hB4
    have kC4 := heap_alloc_new w3 (.cells #[.int .i64 kd, .int .i64 ds, .int .i64 vw, .int .i64 sq, .int .i64 cl, .int .i64 tg, .int .i64 k, .string nm, .string ot, .int .i64 at_, .int .i64 va, .int .i64 ep, .int .i64 s, .int .i64 rc, .int .i64 rv] 38)
    have kR4 := (hB4.block _ (heap_lt k3)).trans k3
    have T4 := T3.below hB4
    go_upto_region 5 with fail
    generalize w3.alloc (.cells #[.int .i64 kd, .int .i64 ds, .int .i64 vw, .int .i64 sq, .int .i64 cl, .int .i64 tg, .int .i64 k, .string nm, .string ot, .int .i64 at_, .int .i64 va, .int .i64 ep, .int .i64 s, .int .i64 rc, .int .i64 rv] 38) = W4 at *
    have hCR : w3.heap.size ≠ b := by have := T3.lt; omega
    have hCR2 := heap_lt k3
    generalize w3.heap.size = nC at *
    clear T3 d3 hB4 k3
    have p0 := at_cell kC4 0
    have p1 := at_cell kC4 1
    have p2 := at_cell kC4 2
    have p3 := at_cell kC4 3
    have p4 := at_cell kC4 4
    have p5 := at_cell kC4 5
    have p6 := at_cell kC4 6
    have p7 := at_cell kC4 7
    have p8 := at_cell kC4 8
    have p9 := at_cell kC4 9
    have p10 := at_cell kC4 10
    have p11 := at_cell kC4 11
    have p12 := at_cell kC4 12
    have p13 := at_cell kC4 13
    have p14 := at_cell kC4 14
    go_wp2_with fail
    refine (takeOut_any b 60 _ kd ds vw sq cl tg k nm ot at_ va ep s rc rv q _ T4 (by unfold maxLen; omega) hfm hq hfq).mono ?_
    rintro e W ⟨rfl, TB, hg⟩
    have dW : Below w.heap.size w W := d4.grown hg d4.size (fun j hj => by cases hj; omega)
    have kC := (hg.block _ (heap_lt kC4) (fun e => hCR (Option.some.inj e))).trans kC4
    have kR := (hg.block _ (heap_lt kR4) (fun e => by have := Option.some.inj e; omega)).trans kR4
    clear p0 p1 p2 p3 p4 p5 p6 p7 p8 p9 p10 p11 p12 p13 p14 T4 d4 kC4 kR4 hg hfq hfm hCR hCR2
    have HS15 : Hid ((#[.int .i64 0, .int .i64 0, .int .i64 0, .int .i64 0, .int .i64 0, .int .i64 0, .int .i64 0, .string ⟨#[]⟩, .string ⟨#[]⟩, .int .i64 0, .int .i64 0, .int .i64 0, .int .i64 0, .int .i64 0, .int .i64 0] : Array Value).size = (#[.int .i64 kd, .int .i64 ds, .int .i64 vw, .int .i64 sq, .int .i64 cl, .int .i64 tg, .int .i64 k, .string nm, .string ot, .int .i64 at_, .int .i64 va, .int .i64 ep, .int .i64 s, .int .i64 rc, .int .i64 rv] : Array Value).size) := rfl
    have H115 : Hid ((#[.int .i64 kd, .int .i64 ds, .int .i64 vw, .int .i64 sq, .int .i64 cl, .int .i64 tg, .int .i64 k, .string nm, .string ot, .int .i64 at_, .int .i64 va, .int .i64 ep, .int .i64 s, .int .i64 rc, .int .i64 rv] : Array Value).all (·.oneCell') = true) := msg_one15 ⟨kd, ds, vw, ⟨sq, cl, tg, ⟨k, nm, ot, at_, va, ep⟩⟩, s, rc, rv⟩
    have HI : Hid ((Try.prog.info? 38).map (·.size) = some (#[.int .i64 kd, .int .i64 ds, .int .i64 vw, .int .i64 sq, .int .i64 cl, .int .i64 tg, .int .i64 k, .string nm, .string ot, .int .i64 at_, .int .i64 va, .int .i64 ep, .int .i64 s, .int .i64 rc, .int .i64 rv] : Array Value).size) := sizeMsg15
    obtain ⟨nR, hnR0⟩ : ∃ nR, w.heap.size = nR := ⟨_, rfl⟩
    have hnR : w.heap.size ≤ nR := by omega
    rw [hnR0] at kR
    go_wp2_with fail
    obtain ⟨R, hR0⟩ : ∃ R : Nat → Value → World → Prop, R = fun j v X => match j with
      | 0 => v = .map (some b)
      | 1 => ∃ o cp, v = .slice o LT.length cp ∧ X.ownsRow W.heap.size 38 15 (.slice o LT.length cp) LT.length (LT.flatMap mgC)
      | 2 => v = .agg #[.int .i64 kd, .int .i64 ds, .int .i64 vw, .int .i64 sq, .int .i64 cl, .int .i64 tg, .int .i64 k, .string nm, .string ot, .int .i64 at_, .int .i64 va, .int .i64 ep, .int .i64 s, .int .i64 rc, .int .i64 rv]
      | 3 => v = .agg #[.int .i64 kd, .int .i64 ds, .int .i64 vw, .int .i64 sq, .int .i64 cl, .int .i64 tg, .int .i64 k, .string nm, .string ot, .int .i64 at_, .int .i64 va, .int .i64 ep, .int .i64 s, .int .i64 rc, .int .i64 rv]
      | 4 => ∃ o cp, v = .slice o LT.length cp ∧ X.ownsRow W.heap.size 38 15 (.slice o LT.length cp) LT.length (LT.flatMap mgC)
      | 5 => True
      | 6 => v = .bool true
      | _ => True := ⟨_, rfl⟩
    have hR : Hid _ := hR0
    clear hR0
    have RMO : ∀ X X', Below X.heap.size X X' → ∀ j v, R j v X → R j v X' := fun X X' hb j v => by
      rw [hR.out]
      match j with
      | 0 => exact id
      | 1 => exact fun ⟨o, cp, q1, q2⟩ => ⟨o, cp, q1, owns_below q2 hb⟩
      | 2 => exact id
      | 3 => exact id
      | 4 => exact fun ⟨o, cp, q1, q2⟩ => ⟨o, cp, q1, owns_below q2 hb⟩
      | 5 => exact id
      | 6 => exact id
      | _ + 7 => exact id
    refine wp_region_inv (I := RXs _ 5 5 35 R _ W) (by kernel_rfl) (RXs.start _ 5 5 35 R _ W) ?_ ?_
    · intro L a x i hL hD hi h
      obtain ⟨X, h⟩ := h
      have hin : i < 7 := (ready_mem hi).1
      have hnot := (ready_mem hi).2.1
      have hc : i = 0 ∨ i = 1 ∨ i = 2 ∨ i = 3 ∨ i = 4 ∨ i = 5 ∨ i = 6 := by omega
      rcases hc with rfl | rfl | rfl | rfl | rfl | rfl | rfl
      · have r : a.tmps.getD 7 undef = .map (some b) := h.old 7 (by kernel_rfl)
        refine wpOp_of rfl rfl (op_move 7 rfl ?_)
        exact h.put 0 32 _ (by decide) (by kernel_rfl) (of_decide_eq_true (by kernel_rfl)) (by kernel_rfl) (by kernel_rfl) (by decide) (by decide) (by rw [hR.out]; exact r)
      · have r_ := h.rel 0 32 (ready_dep hi (by kernel_rfl)) (by kernel_rfl)
        rw [hR.out] at r_
        have r : a.tmps.getD 32 undef = .map (some b) := r_
        clear r_
        have r' : a.tmps[32]?.getD undef = .map (some b) := by rw [← Array.getD_eq_getD_getElem?]; exact r
        have hn' : L.getD 5 false = false := hD.no 5 [1] hnot (by kernel_rfl) rfl
        obtain rfl := h.pre hn'
        have hbel := h.bel
        refine wpOp_of rfl rfl ?_
        unfold Oper.wp
        go_simp
        go_at_call 21
        refine (letters_any b 61 _ _ (TB.below hbel) hft).mono ?_
        rintro e w' ⟨v5, rfl, own5, b5⟩
        rw [HLT.out] at own5
        obtain ⟨o5, c5, rfl⟩ := own_slice own5
        exact h.val 1 33 _ w' (by decide) (by kernel_rfl) (of_decide_eq_true (by kernel_rfl)) (by kernel_rfl) (by kernel_rfl) hn' b5 (by rw [hR.out]; exact ⟨o5, c5, rfl, owns_mono own5 hbel.size⟩) (RMO _ _ b5)
      · have r : a.tmps.getD 9 undef = .pointer (some ⟨nC, 0, none⟩) := h.old 9 (by kernel_rfl)
        have hn' : L.getD 5 false = false := hD.no 5 [3, 2] hnot (by kernel_rfl) rfl
        obtain rfl := h.pre hn'
        refine wpOp_of rfl rfl (op_load 38 9 rfl nC r #[.int .i64 kd, .int .i64 ds, .int .i64 vw, .int .i64 sq, .int .i64 cl, .int .i64 tg, .int .i64 k, .string nm, .string ot, .int .i64 at_, .int .i64 va, .int .i64 ep, .int .i64 s, .int .i64 rc, .int .i64 rv] 38 (0, 0) ((h.bel.block _ (heap_lt kC)).trans kC) _ Try.underlying38 rfl HI.out ?_)
        exact h.put 2 34 _ (by decide) (by kernel_rfl) (of_decide_eq_true (by kernel_rfl)) (by kernel_rfl) (by kernel_rfl) (by decide) (by decide) (by rw [hR.out]; exact rfl)
      · have r_ := h.rel 2 34 (ready_dep hi (by kernel_rfl)) (by kernel_rfl)
        rw [hR.out] at r_
        have r : a.tmps.getD 34 undef = .agg #[.int .i64 kd, .int .i64 ds, .int .i64 vw, .int .i64 sq, .int .i64 cl, .int .i64 tg, .int .i64 k, .string nm, .string ot, .int .i64 at_, .int .i64 va, .int .i64 ep, .int .i64 s, .int .i64 rc, .int .i64 rv] := r_
        clear r_
        have r' : a.tmps[34]?.getD undef = .agg #[.int .i64 kd, .int .i64 ds, .int .i64 vw, .int .i64 sq, .int .i64 cl, .int .i64 tg, .int .i64 k, .string nm, .string ot, .int .i64 at_, .int .i64 va, .int .i64 ep, .int .i64 s, .int .i64 rc, .int .i64 rv] := by rw [← Array.getD_eq_getD_getElem?]; exact r
        have hn' : L.getD 5 false = false := hD.no 5 [3] hnot (by kernel_rfl) rfl
        obtain rfl := h.pre hn'
        refine wpOp_of rfl rfl ?_
        unfold Oper.wp
        go_simp
        go_at_call 25
        refine (ownMsg_any kd ds vw sq cl tg k nm ot at_ va ep s rc rv _ hsm.1 hsm.2).mono ?_
        rintro e w' ⟨rfl, b5⟩
        exact h.val 3 35 _ w' (by decide) (by kernel_rfl) (of_decide_eq_true (by kernel_rfl)) (by kernel_rfl) (by kernel_rfl) hn' b5 (by rw [hR.out]; exact rfl) (RMO _ _ b5)
      · have r := h.rel 1 33 (ready_dep hi (by kernel_rfl)) (by kernel_rfl)
        rw [hR.out] at r
        refine wpOp_of rfl rfl (op_assign 33 rfl ?_)
        exact h.put 4 4 _ (by decide) (by kernel_rfl) (of_decide_eq_true (by kernel_rfl)) (by kernel_rfl) (by kernel_rfl) (by decide) (by decide) (by rw [hR.out]; exact r)
      · have r35_ := h.rel 3 35 (ready_dep hi (by kernel_rfl)) (by kernel_rfl)
        rw [hR.out] at r35_
        have r35 : a.tmps.getD 35 undef = .agg #[.int .i64 kd, .int .i64 ds, .int .i64 vw, .int .i64 sq, .int .i64 cl, .int .i64 tg, .int .i64 k, .string nm, .string ot, .int .i64 at_, .int .i64 va, .int .i64 ep, .int .i64 s, .int .i64 rc, .int .i64 rv] := r35_
        clear r35_
        have r5 : a.tmps.getD 5 undef = .pointer (some ⟨nR, 0, none⟩) := h.old 5 (by kernel_rfl)
        have hn' := not_done hnot
        obtain rfl := h.pre hn'
        refine wpOp_of rfl rfl (op_store 38 5 35 rfl rfl nR r5 #[.int .i64 kd, .int .i64 ds, .int .i64 vw, .int .i64 sq, .int .i64 cl, .int .i64 tg, .int .i64 k, .string nm, .string ot, .int .i64 at_, .int .i64 va, .int .i64 ep, .int .i64 s, .int .i64 rc, .int .i64 rv] r35 #[.int .i64 0, .int .i64 0, .int .i64 0, .int .i64 0, .int .i64 0, .int .i64 0, .int .i64 0, .string ⟨#[]⟩, .string ⟨#[]⟩, .int .i64 0, .int .i64 0, .int .i64 0, .int .i64 0, .int .i64 0, .int .i64 0] 38 ((h.bel.block _ (heap_lt kR)).trans kR) HI.out HS15.out H115.out ?_)
        exact h.store (by rw [hL]; exact of_decide_eq_true (by kernel_rfl)) hn' (by kernel_rfl) r5 r35
      · refine wpOp_of rfl rfl ?_
        unfold Oper.wp
        go_simp
        exact h.put 6 6 _ (by decide) (by kernel_rfl) (of_decide_eq_true (by kernel_rfl)) (by kernel_rfl) (by kernel_rfl) (by decide) (by decide) (by rw [hR.out]; exact rfl)
    · intro L a x hL hD hr h
      obtain ⟨X, h⟩ := h
      have hall := all_done hL hr (by kernel_rfl)
      have d4 := h.rel 4 4 (hall 4 (of_decide_eq_true (by kernel_rfl))) (by kernel_rfl)
      rw [hR.out] at d4
      obtain ⟨o4, c4, d4, own4⟩ := d4
      have d35_ := h.rel 3 35 (hall 3 (of_decide_eq_true (by kernel_rfl))) (by kernel_rfl)
      rw [hR.out] at d35_
      have d35 : a.tmps.getD 35 undef = .agg #[.int .i64 kd, .int .i64 ds, .int .i64 vw, .int .i64 sq, .int .i64 cl, .int .i64 tg, .int .i64 k, .string nm, .string ot, .int .i64 at_, .int .i64 va, .int .i64 ep, .int .i64 s, .int .i64 rc, .int .i64 rv] := d35_
      clear d35_
      have d6_ := h.rel 6 6 (hall 6 (of_decide_eq_true (by kernel_rfl))) (by kernel_rfl)
      rw [hR.out] at d6_
      have d6 : a.tmps.getD 6 undef = .bool true := d6_
      clear d6_
      have r5 : a.tmps.getD 5 undef = .pointer (some ⟨nR, 0, none⟩) := h.old 5 (by kernel_rfl)
      obtain ⟨n0, zs, e1, e2, e3⟩ := h.fin (hall 5 (of_decide_eq_true (by kernel_rfl)))
      have e4 : n0 = nR := by
        rw [r5] at e1
        simp only [Value.pointer.injEq, Option.some.injEq, Addr.mk.injEq, and_true] at e1
        exact e1.symm
      have e5 : zs = #[.int .i64 kd, .int .i64 ds, .int .i64 vw, .int .i64 sq, .int .i64 cl, .int .i64 tg, .int .i64 k, .string nm, .string ot, .int .i64 at_, .int .i64 va, .int .i64 ep, .int .i64 s, .int .i64 rc, .int .i64 rv] := by
        rw [d35] at e2
        simp only [Value.agg.injEq] at e2
        exact e2.symm
      subst e4 e5
      have hbel := h.bel
      have kX := (hbel.block _ (heap_lt kR)).trans kR
      have hrow := setRow_row (cs := #[.int .i64 kd, .int .i64 ds, .int .i64 vw, .int .i64 sq, .int .i64 cl, .int .i64 tg, .int .i64 k, .string nm, .string ot, .int .i64 at_, .int .i64 va, .int .i64 ep, .int .i64 s, .int .i64 rc, .int .i64 rv]) kX
      have HLD : Hid _ := run_loadVar_row (P := Try.prog) _ n0 38 38 #[.int .i64 kd, .int .i64 ds, .int .i64 vw, .int .i64 sq, .int .i64 cl, .int .i64 tg, .int .i64 k, .string nm, .string ot, .int .i64 at_, .int .i64 va, .int .i64 ep, .int .i64 s, .int .i64 rc, .int .i64 rv] (0, 0) _ hrow Try.underlying38 rfl HI.out
      have HOW : Hid _ := ownsRow_upto own4 (row_upto15 (w := X) (g := n0) (cs := #[.int .i64 kd, .int .i64 ds, .int .i64 vw, .int .i64 sq, .int .i64 cl, .int .i64 tg, .int .i64 k, .string nm, .string ot, .int .i64 at_, .int .i64 va, .int .i64 ep, .int .i64 s, .int .i64 rc, .int .i64 rv])) (heap_lt kR)
      have HD : Hid _ := (bw_call dW hbel).trans (setRow_below (w := X) (cs := #[.int .i64 kd, .int .i64 ds, .int .i64 vw, .int .i64 sq, .int .i64 cl, .int .i64 tg, .int .i64 k, .string nm, .string ot, .int .i64 at_, .int .i64 va, .int .i64 ep, .int .i64 s, .int .i64 rc, .int .i64 rv]) hnR)
      have hfr := h.frame [4, 6, 32, 33, 34, 35] (by kernel_rfl)
      obtain ⟨f, hf⟩ : ∃ f : Nat → Value, (fun s => a.tmps.getD s undef) = f := ⟨_, rfl⟩
      rw [hf] at hfr
      have g4 : f 4 = .slice o4 LT.length c4 := by rw [← hf]; exact d4
      have g6 : f 6 = .bool true := by rw [← hf]; exact d6
      subst hfr
      simp only [Act.puts, g4, g6, Act.put, List.setIfInBounds_toArray, List.set_cons_succ, List.set_cons_zero]
      generalize f 32 = u32
      generalize f 33 = u33
      generalize f 34 = u34
      generalize f 35 = u35
      clear h hall hr hD hL hR hf RMO e1 e2 r5 d35 own4 hrow kX hbel g4 d4 g6 d6 f
      subst e3
      go_wp2_with fail
      refine bodyPost_ret (v := .tuple #[.slice o4 LT.length c4, .agg #[.int .i64 kd, .int .i64 ds, .int .i64 vw, .int .i64 sq, .int .i64 cl, .int .i64 tg, .int .i64 k, .string nm, .string ot, .int .i64 at_, .int .i64 va, .int .i64 ep, .int .i64 s, .int .i64 rc, .int .i64 rv], .bool true]) ?_ rfl ⟨_, by rw [HTK.out], by rw [HTK.out]; exact owns_mono HOW.out dW.size, HD.out⟩
      simp [results, Try.results8, asAddr, HLD.out]
  · have HP : Hid (taken l a = (kept l, Mg.zero, false)) := ht
    have hz : mgEq Mg.zero Mg.zero = true := (mgEq_iff _ _).2 rfl
    rw [hx, hz]
    clear hx hz ht
    have hB4 : Below w3.heap.size w3 (w3.alloc (.cells #[.int .i64 0, .int .i64 0, .int .i64 0, .int .i64 0, .int .i64 0, .int .i64 0, .int .i64 0, .string ⟨#[]⟩, .string ⟨#[]⟩, .int .i64 0, .int .i64 0, .int .i64 0, .int .i64 0, .int .i64 0, .int .i64 0] 38)) := bw_alloc (Below.refl _ _)
    have d4 := bw_call d3 hB4
    have k4 := (hB4.block _ (heap_lt k3)).trans k3
    have T4 := T3.below hB4
    rw [show mgV Mg.zero = .agg #[.int .i64 0, .int .i64 0, .int .i64 0, .int .i64 0, .int .i64 0, .int .i64 0, .int .i64 0, .string ⟨#[]⟩, .string ⟨#[]⟩, .int .i64 0, .int .i64 0, .int .i64 0, .int .i64 0, .int .i64 0, .int .i64 0] from rfl]
    clear T3 d3 hB4 k3
    go_wp2_with fail
    generalize w3.alloc (.cells #[.int .i64 0, .int .i64 0, .int .i64 0, .int .i64 0, .int .i64 0, .int .i64 0, .int .i64 0, .string ⟨#[]⟩, .string ⟨#[]⟩, .int .i64 0, .int .i64 0, .int .i64 0, .int .i64 0, .int .i64 0, .int .i64 0] 38) = W4 at *
    refine (letters_any b 60 _ _ T4 (fit_kept hf1)).mono ?_
    rintro e w5 ⟨v5, rfl, own5, b5⟩
    rw [letters_of] at own5
    have own6 := owns_mono own5 (show w.heap.size + 1 ≤ W4.heap.size from heap_lt k4)
    have d6 := bw_call d4 b5
    have k5 := (b5.block _ (heap_lt k4)).trans k4
    obtain ⟨o5, c5, rfl⟩ := own_slice own6
    have H115 : Hid ((#[.int .i64 0, .int .i64 0, .int .i64 0, .int .i64 0, .int .i64 0, .int .i64 0, .int .i64 0, .string ⟨#[]⟩, .string ⟨#[]⟩, .int .i64 0, .int .i64 0, .int .i64 0, .int .i64 0, .int .i64 0, .int .i64 0] : Array Value).all (·.oneCell') = true) := msg_one15 Mg.zero
    have HK : Hid _ := k5
    have hrow := setRow_row (cs := #[.int .i64 0, .int .i64 0, .int .i64 0, .int .i64 0, .int .i64 0, .int .i64 0, .int .i64 0, .string ⟨#[]⟩, .string ⟨#[]⟩, .int .i64 0, .int .i64 0, .int .i64 0, .int .i64 0, .int .i64 0, .int .i64 0]) k5
    have HLD : Hid _ := run_loadVar_row (P := Try.prog) _ w.heap.size 38 38 #[.int .i64 0, .int .i64 0, .int .i64 0, .int .i64 0, .int .i64 0, .int .i64 0, .int .i64 0, .string ⟨#[]⟩, .string ⟨#[]⟩, .int .i64 0, .int .i64 0, .int .i64 0, .int .i64 0, .int .i64 0, .int .i64 0] (0, 0) _ hrow Try.underlying38 rfl HI.out
    have HOW : Hid _ := ownsRow_upto own6 (row_upto15 (w := w5) (g := w.heap.size) (cs := #[.int .i64 0, .int .i64 0, .int .i64 0, .int .i64 0, .int .i64 0, .int .i64 0, .int .i64 0, .string ⟨#[]⟩, .string ⟨#[]⟩, .int .i64 0, .int .i64 0, .int .i64 0, .int .i64 0, .int .i64 0, .int .i64 0])) (Nat.lt_succ_self _)
    have HD : Hid _ := d6.trans (setRow_below (w := w5) (cs := #[.int .i64 0, .int .i64 0, .int .i64 0, .int .i64 0, .int .i64 0, .int .i64 0, .int .i64 0, .string ⟨#[]⟩, .string ⟨#[]⟩, .int .i64 0, .int .i64 0, .int .i64 0, .int .i64 0, .int .i64 0, .int .i64 0]) (Nat.le_refl w.heap.size))
    clear own5 own6 d6 d4 b5 T4 hrow k5 k4
    go_wp2_with (first
      | (with_reducible refine wpList_store_arr rfl _ _ 38 rfl w.heap.size rfl #[.int .i64 0, .int .i64 0, .int .i64 0, .int .i64 0, .int .i64 0, .int .i64 0, .int .i64 0, .string ⟨#[]⟩, .string ⟨#[]⟩, .int .i64 0, .int .i64 0, .int .i64 0, .int .i64 0, .int .i64 0, .int .i64 0] rfl #[.int .i64 0, .int .i64 0, .int .i64 0, .int .i64 0, .int .i64 0, .int .i64 0, .int .i64 0, .string ⟨#[]⟩, .string ⟨#[]⟩, .int .i64 0, .int .i64 0, .int .i64 0, .int .i64 0, .int .i64 0, .int .i64 0] 38 HK.out HI.out rfl H115.out ?_)
      | fail)
    refine bodyPost_ret (v := .tuple #[.slice o5 (kept l).length c5, .agg #[.int .i64 0, .int .i64 0, .int .i64 0, .int .i64 0, .int .i64 0, .int .i64 0, .int .i64 0, .string ⟨#[]⟩, .string ⟨#[]⟩, .int .i64 0, .int .i64 0, .int .i64 0, .int .i64 0, .int .i64 0, .int .i64 0], .bool false]) ?_ rfl ⟨_, by rw [HP.out]; rfl, by rw [HP.out]; exact owns_mono HOW.out (Nat.le_succ _), HD.out⟩
    simp [results, Try.results8, asAddr, HLD.out]
end Go.Proofs.Ytgabhnhfomekfaa

