/-
  Contracts and plain laws, one chapter behind the other.
-/
import Derived.Test.YtgabhnhfomekfaaM48
import Derived.Test.YtgabhnhfomekfaaM49
namespace Go.Proofs.Ytgabhnhfomekfaa
open Go.RowKit

open Go.ChangeMaps (setBlock heap_setBlock_same)

set_option linter.unusedVariables false

set_option maxRecDepth 100000


theorem places_step (L : List Mg) (k : Nat) (m : Mg) (h : L[k]? = some m) : upd (placesOf (L.take k)) k (some m) = placesOf (L.take (k + 1)) := by
  funext p
  have hk : k < L.length := by
    rcases Nat.lt_or_ge k L.length with q | q
    · exact q
    · rw [List.getElem?_eq_none q] at h; cases h
  unfold upd placesOf
  by_cases e : p = k
  · subst e
    rw [if_pos rfl, List.getElem?_take, if_pos (by omega), h]
  · rw [if_neg e, List.getElem?_take, List.getElem?_take]
    by_cases hp : p < k
    · rw [if_pos hp, if_pos (by omega)]
    · rw [if_neg hp, if_neg (by omega)]

theorem places_none (L : List Mg) (k : Nat) : placesOf (L.take k) k = none := by
  unfold placesOf
  exact List.getElem?_eq_none (by rw [List.length_take]; omega)

theorem places_nil : ∀ p, p < 60 → placesOf [] p = none := fun p _ => rfl

theorem fit_cat {ls : List (Value × List Mg)} (h : ∀ x ∈ ls, FitPost x.2) : FitPost (catL ls) := fun m hm => by
  obtain ⟨x, hx, h1⟩ := List.mem_flatMap.1 hm
  exact h x hx m h1

theorem clear_bag {w : World} {b n : Nat} {D : DataW Unit} (h : w.ownsMap Try.prog 38 bagR b n D) {f : Nat → Option Mg} (hf : ∀ p, p < 60 → f p = none) :
    ∃ w', (∀ ty, (Builtin.clear_ #[49] ty #[.map (some b)]).run Try.prog w = .ok (.tuple #[]) w') ∧ BagW w' b 0 f ∧ Upto b w w' := by
  obtain ⟨es, clock, hb, -⟩ := h
  refine ⟨setBlock w b (.map #[] clock), fun ty => ?_, ⟨.map [], ⟨#[], clock, heap_setBlock_same hb _, ⟨by simp, MapKept.stamped_empty clock, by simp⟩, Nat.le_refl _, rfl⟩, bagD_none hf⟩, upto_set15⟩
  simp [Builtin.clear_, run_underlying Try.underlying49, MapKept.run_getObj_map hb, MapKept.run_setObj_map _ hb, Result.andThen, setBlock]

/-- What a bag keeps of a list. -/
def kept (L : List Mg) : List Mg := if postOk L = true then L else []

theorem kept_yes {L : List Mg} (h : postOk L = true) : kept L = L := if_pos h

theorem kept_no {L : List Mg} (h : postOk L = false) : kept L = [] := if_neg (by rw [h]; simp)

set_option maxHeartbeats 6400000 in
theorem bagOf_any (c : Nat) (ls : List (Value × List Mg)) (w : World) (hn : ls.length ≤ 2) (hlen : ∀ x ∈ ls, x.2.length ≤ 1048576) (hfit : ∀ x ∈ ls, FitPost x.2) (hL : Lists w.heap.size w c ls) :
    Calls Try.prog 20 #[.slice (some ⟨c, 0, none⟩) ls.length ls.length] w fun e w' => ∃ b : Nat, e = .returned (.tuple #[.map (some b), .bool (postOk (catL ls))]) ∧ w.heap.size ≤ b ∧ BagW w' b 60 (placesOf (kept (catL ls))) ∧ Below w.heap.size w w' := by
  have hmm := @run_makeMap Try.prog
  have HLS : Hid _ := hL
  have hcb := cat_bound ls hn hlen
  have hft := fit_cat hfit
  obtain ⟨W1, hW1⟩ : ∃ W1, w.alloc (.map #[] 0) = W1 := ⟨_, rfl⟩
  have HW1 : Hid (w.alloc (.map #[] 0) = W1) := hW1
  have hs1 : Hid (W1.heap.size = w.heap.size + 1) := by rw [Hid, ← hW1]; simp
  have d1 : Below w.heap.size w W1 := by rw [← hW1]; exact bw_alloc (Below.refl _ _)
  have TB : BagT W1 w.heap.size 0 (placesOf []) := by rw [← hW1]; exact bag_made w places_nil
  have HL1 : Hid _ := (hL.below d1).mono d1.size
  clear hL hlen hfit hW1
  go_enter Try.func20, Try.ntmps20
  go_upto_region 2 with fail
  rw [HW1.out]
  clear HW1
  go_wp2_with fail
  go_loopw [5, 13] (fun sz i wr => ∃ k : Nat, k ≤ ls.length ∧ i = .int .i64 k ∧ sz = .int .i64 (((catL (ls.take k)).length : Nat) : Int) ∧ wr = W1) (fun _ i _ => ls.length - (intOf i).toNat)
  case atStart => exact ⟨0, Nat.zero_le _, rfl, rfl, rfl⟩
  case round =>
    obtain ⟨k, hk, rfl, rfl, hw⟩ := hrel
    have hw2 := hw.symm
    clear hw
    subst hw2
    by_cases hlt : k < ls.length
    · obtain ⟨x, hx⟩ : ∃ x, ls[k]? = some x := ⟨ls[k], List.getElem?_eq_getElem hlt⟩
      obtain ⟨h1, h2, h3⟩ := HL1.out.at_ k x hx
      obtain ⟨o, cap, hf⟩ := h2.form
      rw [hf] at h1
      have hst := cat_step ls k x hx
      have hle := cat_le ls (k + 1)
      have HST : Hid ((catL (ls.take (k + 1))).length = (catL (ls.take k)).length + x.2.length) := by rw [Hid, hst, List.length_append]
      have hle2 : (catL (ls.take k)).length + x.2.length ≤ 2097152 := by have := HST.out; omega
      have i0' : (0 : Int) ≤ (k : Int) := by omega
      have i1' : (k : Int) < (ls.length : Int) := by omega
      clear hst hle hx h2 hf
      generalize (catL (ls.take k)).length = A at *
      generalize x.2.length = C at *
      have w2 : IntKind.i64.wrap ((A : Int) + (C : Int)) = (A : Int) + (C : Int) := by rw [IntKind.wrap_i64]; omega
      clear TB d1
      go_wp2_with fail
      go_roundw
      case rel => exact ⟨k + 1, by omega, by go_num, by rw [HST.out]; go_num, trivial⟩
      case measure => simp [intOf]; omega
    · obtain rfl : k = ls.length := by omega
      have hall : catL (ls.take ls.length) = catL ls := by rw [List.take_length]
      rw [hall]
      clear hall
      obtain ⟨LC, hLC⟩ : ∃ LC, catL ls = LC := ⟨_, rfl⟩
      have HLC : Hid (catL ls = LC) := hLC
      rw [hLC] at hft hcb ⊢
      by_cases h60 : LC.length ≤ 60
      case neg =>
        have HP : Hid (postOk (catL ls) = false) := by rw [Hid, HLC.out, postOk, decide_eq_false h60, Bool.and_false]
        have hb : (60 : Int) < (LC.length : Int) := by omega
        have HB : Hid _ := And.intro TB.w d1
        clear hLC TB d1 h60 hft hcb
        go_wp2_with fail
        exact bodyPost_ret (v := .tuple #[.map (some w.heap.size), .bool false]) (by simp [results, Try.results20, go_sem]) rfl ⟨_, by rw [HP.out], Nat.le_refl _, by rw [kept_no HP.out]; exact HB.out.1.mono (Nat.zero_le _), HB.out.2⟩
      have hb : ¬ (60 : Int) < (LC.length : Int) := by omega
      have hcc := fun W (h : Lists W.heap.size W c ls) => concatM_any c ls W hn (by rw [hLC]; exact h60) h
      rw [hLC] at hcc
      clear hLC hcb
      go_wp2_with fail
      refine (hcc _ HL1.out).mono ?_
      rintro e w2 ⟨v2, rfl, own2, b2⟩
      have TB2 : BagT w2 w.heap.size 0 (placesOf (LC.take 0)) := TB.below b2
      have d2 := bw_call d1 b2
      have own2' := own2
      rw [hs1.out] at own2'
      obtain ⟨o2, c2, rfl⟩ := own_slice own2
      clear TB b2 d1 own2 hcc HL1 HLS
      go_wp2_with fail
      go_loopw [28] (fun i w3 => ∃ k : Nat, k ≤ LC.length ∧ i = .int .i64 k ∧ BagT w3 w.heap.size k (placesOf (LC.take k)) ∧ w3.ownsRow (w.heap.size + 1) 38 15 (.slice o2 LC.length c2) LC.length (LC.flatMap mgC) ∧ Below w.heap.size w w3) (fun i _ => LC.length - (intOf i).toNat)
      case atStart => exact ⟨0, Nat.zero_le _, rfl, TB2, own2', d2⟩
      case round =>
        clear TB2 own2' d2
        obtain ⟨i, hi, rfl, TB, ownR, d⟩ := hrel
        by_cases hlt2 : i < LC.length
        · obtain ⟨m, hm⟩ : ∃ m, LC[i]? = some m := ⟨LC[i], List.getElem?_eq_getElem hlt2⟩
          have hfm := hft m (List.mem_of_getElem? hm)
          obtain ⟨o', cap', e1, -, hc', -⟩ := ReadsR.of_own mgC_len ownR
          obtain ⟨g, off, e2, hg, a0, a1, a2, a3, a4, a5, a6, a7, a8, a9, a10, a11, a12, a13, a14⟩ := mg_cells hc' i hlt2
          cases e1
          have hxm : LC[i] = m := by
            have := List.getElem?_eq_getElem hlt2
            rw [hm] at this
            exact (Option.some.inj this).symm
          rw [hxm] at a0 a1 a2 a3 a4 a5 a6 a7 a8 a9 a10 a11 a12 a13 a14
          have HPS : Hid _ := places_step LC i m hm
          have hbw := TB.lt
          obtain ⟨D0, own0, hB, hT⟩ := TB.ex
          obtain ⟨kl, hkm⟩ := key_of hfm
          obtain ⟨kd, ds, vw, ⟨sq, cl, tg, ⟨k, nm, ot, at_, va, ep⟩⟩, s, rc, rv⟩ := m
          simp only at a0 a1 a2 a3 a4 a5 a6 a7 a8 a9 a10 a11 a12 a13 a14
          have dA : Below wr.heap.size wr (wr.alloc (.cells #[.int .i64 kd, .int .i64 ds, .int .i64 vw, .int .i64 sq, .int .i64 cl, .int .i64 tg, .int .i64 k, .string nm, .string ot, .int .i64 at_, .int .i64 va, .int .i64 ep, .int .i64 s, .int .i64 rc, .int .i64 rv] 38)) := bw_alloc (Below.refl _ _)
          have kC := heap_alloc_new wr (.cells #[.int .i64 kd, .int .i64 ds, .int .i64 vw, .int .i64 sq, .int .i64 cl, .int .i64 tg, .int .i64 k, .string nm, .string ot, .int .i64 at_, .int .i64 va, .int .i64 ep, .int .i64 s, .int .i64 rc, .int .i64 rv] 38)
          have own := map_of_block own0 (dA.block _ hbw)
          have ownW := ownR.alloc (.cells #[.int .i64 kd, .int .i64 ds, .int .i64 vw, .int .i64 sq, .int .i64 cl, .int .i64 tg, .int .i64 k, .string nm, .string ot, .int .i64 at_, .int .i64 va, .int .i64 ep, .int .i64 s, .int .i64 rc, .int .i64 rv] 38)
          have dW := bw_call d dA
          have hnb : wr.heap.size ≠ w.heap.size := by omega
          have i0' : (0 : Int) ≤ (i : Int) := by omega
          have i1' : (i : Int) < (LC.length : Int) := by omega
          clear hm hxm TB ownR d own0 dA hc'
          subst e2
          go_wp2_with fail
          generalize wr.alloc (.cells #[.int .i64 kd, .int .i64 ds, .int .i64 vw, .int .i64 sq, .int .i64 cl, .int .i64 tg, .int .i64 k, .string nm, .string ot, .int .i64 at_, .int .i64 va, .int .i64 ep, .int .i64 s, .int .i64 rc, .int .i64 rv] 38) = W at *
          generalize wr.heap.size = nC at *
          clear a0 a1 a2 a3 a4 a5 a6 a7 a8 a9 a10 a11 a12 a13 a14 hg
          obtain ⟨c, hc, hmask⟩ := hB.at_ _ kl hkm
          have hc64 := hmask.1
          have hn : i < maxLen := by unfold maxLen; omega
          have hi60 : i < 60 := by omega
          obtain ⟨st, wE, u, hE, uE, hlE, hS0⟩ := bag_entry (w := W.drew) (show W.drew.ownsMap Try.prog 38 bagR w.heap.size i D0 from own) hn hkm hc
          obtain ⟨wS, hSt, oS, uS⟩ := hS0 (c ||| 2 ^ i) (Nat.or_lt_two_pow hc64 (Nat.pow_lt_pow_right (by decide) (by omega)))
          obtain ⟨c', hl0, hat, -⟩ := World.ownsMap.lookup_int (w := W.drew) (show W.drew.ownsMap Try.prog 38 bagR w.heap.size i D0 from own) bagKeys Try.underlying49 Try.underlying72 (bagZero _) hkm
          have hcc : c' = (c : Int) := by
            have e := hat.symm.trans hc
            simpa [setD] using e
          subst hcc
          simp only [mgV] at hE hlE hl0
          clear hS0 hat
          have HI : Hid ((Try.prog.info? 38).map (·.size) = some (#[.int .i64 kd, .int .i64 ds, .int .i64 vw, .int .i64 sq, .int .i64 cl, .int .i64 tg, .int .i64 k, .string nm, .string ot, .int .i64 at_, .int .i64 va, .int .i64 ep, .int .i64 s, .int .i64 rc, .int .i64 rv] : Array Value).size) := sizeMsg15
          obtain ⟨X, hX0⟩ : ∃ X : Bool → Bool → World, X = fun b1 b2 => if b2 = true then wS else if b1 = true then wE else W.drew := ⟨_, rfl⟩
          have hXs : X false false = W.drew := by rw [hX0]; rfl
          have hXC : ∀ b1 b2, (X b1 b2).heap[nC]? = some (.cells #[.int .i64 kd, .int .i64 ds, .int .i64 vw, .int .i64 sq, .int .i64 cl, .int .i64 tg, .int .i64 k, .string nm, .string ot, .int .i64 at_, .int .i64 va, .int .i64 ep, .int .i64 s, .int .i64 rc, .int .i64 rv] 38 (0, 0)) := fun b1 b2 => by
            rw [hX0]
            cases b2
            · cases b1
              · exact kC
              · exact (uE.block nC (heap_lt kC) hnb).trans kC
            · exact (uS.block nC (heap_lt kC) hnb).trans kC
          have hXl : ∀ b1, (Instr.lookup 49 (.map (some (w.heap.size))) (.agg #[.int .i64 kd, .int .i64 ds, .int .i64 vw, .int .i64 sq, .int .i64 cl, .int .i64 tg, .int .i64 k, .string nm, .string ot, .int .i64 at_, .int .i64 va, .int .i64 ep, .int .i64 s, .int .i64 rc, .int .i64 rv]) false).run Try.prog (X b1 false) = .ok (.int .u64 (c : Int)) (X b1 false) := fun b1 => by
            rw [hX0]
            cases b1
            · exact hl0
            · exact hlE
          have hX : Hid _ := hX0
          have HE : Hid _ := hE
          have HST : Hid _ := hSt
          have HXL : Hid _ := hXl
          have HXC : Hid _ := hXC
          clear hX0 hE hSt hXl hXC hlE hl0
          have HO : Hid (BagT wS w.heap.size (i + 1) (placesOf (LC.take (i + 1)))) := by
            refine ⟨_, oS, ?_, ?_⟩
            · rw [← HPS.out]
              exact hB.put hi60 hfm (places_none LC i) hkm hc
            · rw [← HPS.out]
              exact hT.put hi60 (places_none LC i) hkm _
          have HOW : Hid _ := ownsRow_upto (show W.drew.ownsRow (w.heap.size + 1) _ _ _ _ _ from ownW) uS (by omega)
          have HD : Hid _ := (show Below w.heap.size w W.drew from bw_drew dW).trans (uS.toBelow dW.size (Nat.le_refl _))
          clear oS uS uE own hB hT ownW dW HPS hkm hmask hc hfm
          obtain ⟨R, hR0⟩ : ∃ R : Nat → Value → Prop, R = fun j v => match j with
            | 0 => v = .map (some (w.heap.size))
            | 1 => v = .agg #[.int .i64 kd, .int .i64 ds, .int .i64 vw, .int .i64 sq, .int .i64 cl, .int .i64 tg, .int .i64 k, .string nm, .string ot, .int .i64 at_, .int .i64 va, .int .i64 ep, .int .i64 s, .int .i64 rc, .int .i64 rv]
            | 2 => v = .int .u64 (c : Int)
            | 3 => v = .int .i64 (i : Int)
            | 4 => v = .int .u64 ((2 ^ i : Nat) : Int)
            | 5 => v = .int .u64 ((c ||| 2 ^ i : Nat) : Int)
            | 6 => v = .tuple #[u, goInt st]
            | 7 => v = goInt st
            | 8 => True
            | _ => True := ⟨_, rfl⟩
          have hR : Hid _ := hR0
          clear hR0
          refine wp_region_inv (I := RB _ 6 8 R _ X) (by kernel_rfl) (by rw [← hXs]; exact RB.start _ 6 8 R _ X) ?_ ?_
          · intro L a x i hL hD hi h
            have hin : i < 9 := (ready_mem hi).1
            have hnot := (ready_mem hi).2.1
            have hc : i = 0 ∨ i = 1 ∨ i = 2 ∨ i = 3 ∨ i = 4 ∨ i = 5 ∨ i = 6 ∨ i = 7 ∨ i = 8 := by omega
            rcases hc with rfl | rfl | rfl | rfl | rfl | rfl | rfl | rfl | rfl
            · have r : a.tmps.getD 4 undef = .map (some (w.heap.size)) := h.old 4 (by kernel_rfl)
              refine wpOp_of rfl rfl (op_move 4 rfl ?_)
              exact h.val 0 33 _ (by decide) (by decide) (by kernel_rfl) (of_decide_eq_true (by kernel_rfl)) (by kernel_rfl) (by kernel_rfl) (by rw [hR.out]; exact r)
            · have r : a.tmps.getD 9 undef = .pointer (some ⟨nC, 0, none⟩) := h.old 9 (by kernel_rfl)
              refine wpOp_of rfl rfl (op_load 38 9 rfl nC r #[.int .i64 kd, .int .i64 ds, .int .i64 vw, .int .i64 sq, .int .i64 cl, .int .i64 tg, .int .i64 k, .string nm, .string ot, .int .i64 at_, .int .i64 va, .int .i64 ep, .int .i64 s, .int .i64 rc, .int .i64 rv] 38 (0, 0) (by rw [h.wld]; exact HXC.out _ _) _ Try.underlying38 rfl HI.out ?_)
              exact h.val 1 34 _ (by decide) (by decide) (by kernel_rfl) (of_decide_eq_true (by kernel_rfl)) (by kernel_rfl) (by kernel_rfl) (by rw [hR.out]; exact rfl)
            · have r0_ := h.rel 0 33 (ready_dep hi (by kernel_rfl)) (by kernel_rfl)
              rw [hR.out] at r0_
              have r0 : a.tmps.getD 33 undef = .map (some (w.heap.size)) := r0_
              clear r0_
              have r1_ := h.rel 1 34 (ready_dep hi (by kernel_rfl)) (by kernel_rfl)
              rw [hR.out] at r1_
              have r1 : a.tmps.getD 34 undef = .agg #[.int .i64 kd, .int .i64 ds, .int .i64 vw, .int .i64 sq, .int .i64 cl, .int .i64 tg, .int .i64 k, .string nm, .string ot, .int .i64 at_, .int .i64 va, .int .i64 ep, .int .i64 s, .int .i64 rc, .int .i64 rv] := r1_
              clear r1_
              have hn' : L.getD 8 false = false := hD.no 8 [5, 2] hnot (by kernel_rfl) rfl
              have hx := h.wld
              rw [hn'] at hx
              refine wpOp_of rfl rfl (op_lookup 49 33 34 rfl _ _ r0 r1 (.int .u64 (c : Int)) (by rw [hx]; exact HXL.out _) ?_)
              exact h.val 2 35 _ (by decide) (by decide) (by kernel_rfl) (of_decide_eq_true (by kernel_rfl)) (by kernel_rfl) (by kernel_rfl) (by rw [hR.out]; exact rfl)
            · have r : a.tmps.getD 8 undef = .int .i64 (i : Int) := h.old 8 (by kernel_rfl)
              refine wpOp_of rfl rfl (op_move 8 rfl ?_)
              exact h.val 3 36 _ (by decide) (by decide) (by kernel_rfl) (of_decide_eq_true (by kernel_rfl)) (by kernel_rfl) (by kernel_rfl) (by rw [hR.out]; exact r)
            · have r_ := h.rel 3 36 (ready_dep hi (by kernel_rfl)) (by kernel_rfl)
              rw [hR.out] at r_
              have r : a.tmps.getD 36 undef = .int .i64 (i : Int) := r_
              clear r_
              have r' : a.tmps[36]?.getD undef = .int .i64 (i : Int) := by rw [← Array.getD_eq_getD_getElem?]; exact r
              refine wpOp_of rfl rfl ?_
              unfold Oper.wp
              go_simp
              go_at_call 43
              refine (onlyPlace_any i (by omega) _).mono ?_
              rintro e w' ⟨rfl, rfl⟩
              exact h.val 4 37 _ (by decide) (by decide) (by kernel_rfl) (of_decide_eq_true (by kernel_rfl)) (by kernel_rfl) (by kernel_rfl) (by rw [hR.out]; exact rfl)
            · have r2_ := h.rel 2 35 (ready_dep hi (by kernel_rfl)) (by kernel_rfl)
              rw [hR.out] at r2_
              have r2 : a.tmps.getD 35 undef = .int .u64 (c : Int) := r2_
              clear r2_
              have r4_ := h.rel 4 37 (ready_dep hi (by kernel_rfl)) (by kernel_rfl)
              rw [hR.out] at r4_
              have r4 : a.tmps.getD 37 undef = .int .u64 ((2 ^ i : Nat) : Int) := r4_
              clear r4_
              refine wpOp_of rfl rfl (op_or rfl c i (by omega) (by omega) r2 r4 ?_)
              exact h.val 5 38 _ (by decide) (by decide) (by kernel_rfl) (of_decide_eq_true (by kernel_rfl)) (by kernel_rfl) (by kernel_rfl) (by rw [hR.out]; exact rfl)
            · have r0_ := h.rel 0 33 (ready_dep hi (by kernel_rfl)) (by kernel_rfl)
              rw [hR.out] at r0_
              have r0 : a.tmps.getD 33 undef = .map (some (w.heap.size)) := r0_
              clear r0_
              have r1_ := h.rel 1 34 (ready_dep hi (by kernel_rfl)) (by kernel_rfl)
              rw [hR.out] at r1_
              have r1 : a.tmps.getD 34 undef = .agg #[.int .i64 kd, .int .i64 ds, .int .i64 vw, .int .i64 sq, .int .i64 cl, .int .i64 tg, .int .i64 k, .string nm, .string ot, .int .i64 at_, .int .i64 va, .int .i64 ep, .int .i64 s, .int .i64 rc, .int .i64 rv] := r1_
              clear r1_
              have hn' : L.getD 6 false = false := not_done hnot
              have hn2 : L.getD 8 false = false := hD.no 8 [7, 6] hnot (by kernel_rfl) rfl
              have hx := h.wld
              rw [hn', hn2] at hx
              refine wpOp_of rfl rfl (op_entry 49 33 34 rfl _ _ r0 r1 (.tuple #[u, goInt st]) wE (by rw [hx, hXs]; exact HE.out) ?_)
              exact h.ent (by decide) 39 _ _ (by rw [hL]; exact of_decide_eq_true (by kernel_rfl)) (by kernel_rfl) (of_decide_eq_true (by kernel_rfl)) (by kernel_rfl) (by kernel_rfl) (by rw [hn2, hX.out]; rfl) (by rw [hR.out]; exact rfl)
            · have r_ := h.rel 6 39 (ready_dep hi (by kernel_rfl)) (by kernel_rfl)
              rw [hR.out] at r_
              have r : a.tmps.getD 39 undef = .tuple #[u, goInt st] := r_
              clear r_
              have r' : a.tmps[39]?.getD undef = .tuple #[u, goInt st] := by rw [← Array.getD_eq_getD_getElem?]; exact r
              refine wpOp_of rfl rfl ?_
              unfold Oper.wp
              go_simp
              exact h.val 7 40 _ (by decide) (by decide) (by kernel_rfl) (of_decide_eq_true (by kernel_rfl)) (by kernel_rfl) (by kernel_rfl) (by rw [hR.out]; exact rfl)
            · have r0_ := h.rel 0 33 (ready_dep hi (by kernel_rfl)) (by kernel_rfl)
              rw [hR.out] at r0_
              have r0 : a.tmps.getD 33 undef = .map (some (w.heap.size)) := r0_
              clear r0_
              have r7_ := h.rel 7 40 (ready_dep hi (by kernel_rfl)) (by kernel_rfl)
              rw [hR.out] at r7_
              have r7 : a.tmps.getD 40 undef = goInt st := r7_
              clear r7_
              have r5_ := h.rel 5 38 (ready_dep hi (by kernel_rfl)) (by kernel_rfl)
              rw [hR.out] at r5_
              have r5 : a.tmps.getD 38 undef = .int .u64 ((c ||| 2 ^ i : Nat) : Int) := r5_
              clear r5_
              have hd6 : L.getD 6 false = true := by
                have h7 := ready_dep hi (show depB _ _ 8 7 = true by kernel_rfl)
                exact hD 7 6 h7 (by kernel_rfl)
              have hn2 : L.getD 8 false = false := not_done hnot
              have hx := h.wld
              rw [hd6, hn2, hX.out] at hx
              have hx' : x = wE := hx
              refine wpOp_of rfl rfl (op_estore 49 33 40 38 rfl rfl _ _ _ r0 r7 r5 wS (by rw [hx']; exact HST.out) ?_)
              exact h.sto (by decide) _ (by rw [hL]; exact of_decide_eq_true (by kernel_rfl)) (by kernel_rfl) (by rw [hX.out]; rfl)
          · intro L a x hL hD hr h
            have hall := all_done hL hr (by kernel_rfl)
            have hx := h.wld
            rw [hall 8 (of_decide_eq_true (by kernel_rfl)), hX.out] at hx
            have hx' : x = wS := hx
            have hfr := h.frame [33, 34, 35, 36, 37, 38, 39, 40] (by kernel_rfl)
            obtain ⟨f, hf⟩ : ∃ f : Nat → Value, (fun s => a.tmps.getD s undef) = f := ⟨_, rfl⟩
            rw [hf] at hfr
            subst hfr
            simp only [Act.puts, Act.put, List.setIfInBounds_toArray, List.set_cons_succ, List.set_cons_zero]
            generalize f 33 = u33
            generalize f 34 = u34
            generalize f 35 = u35
            generalize f 36 = u36
            generalize f 37 = u37
            generalize f 38 = u38
            generalize f 39 = u39
            generalize f 40 = u40
            clear h hall hx hr hD hL hXs hX hR hf  f
            subst hx'
            go_wp2_with fail
            go_roundw
            case rel => exact ⟨i + 1, by omega, by go_num, HO.out, HOW.out, HD.out⟩
            case measure => simp [intOf]; omega
        · obtain rfl : i = LC.length := by omega
          have TB' := TB
          rw [List.take_length] at TB'
          clear TB ownR
          go_wp2_with fail
          refine (right_any w.heap.size LC.length LC _ TB' h60 hft).mono ?_
          rintro e w4 ⟨rfl, b4⟩
          have T4 := TB'.below b4
          have d4 := bw_call d b4
          cases hok : allOk LC
          · have HP : Hid (postOk (catL ls) = false) := by rw [Hid, HLC.out, postOk, hok, Bool.false_and]
            obtain ⟨D4, own4, -, -⟩ := T4.ex
            obtain ⟨w5, hcl, hB5, u5⟩ := clear_bag own4 places_nil
            have HB : Hid _ := And.intro (hB5.mono (Nat.zero_le 60)) (d4.trans (u5.toBelow d4.size (Nat.le_refl _)))
            clear hok T4 d4 own4 hB5 u5 TB' b4 d
            go_wp2_with fail
            exact bodyPost_ret (v := .tuple #[.map (some w.heap.size), .bool false]) (by simp [results, Try.results20, go_sem]) rfl ⟨_, by rw [HP.out], Nat.le_refl _, by rw [kept_no HP.out]; exact HB.out.1, HB.out.2⟩
          · have HP : Hid (postOk (catL ls) = true) := by rw [Hid, HLC.out, postOk, hok, decide_eq_true h60]; rfl
            have HB : Hid _ := And.intro (T4.w.mono h60) d4
            clear hok T4 d4 TB' b4 d
            go_wp2_with fail
            exact bodyPost_ret (v := .tuple #[.map (some w.heap.size), .bool true]) (by simp [results, Try.results20, go_sem]) rfl ⟨_, by rw [HP.out], Nat.le_refl _, by rw [kept_yes HP.out, HLC.out]; exact HB.out.1, HB.out.2⟩
end Go.Proofs.Ytgabhnhfomekfaa

