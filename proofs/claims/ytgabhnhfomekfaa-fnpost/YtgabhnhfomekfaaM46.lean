/-
  Contracts and plain laws, one chapter behind the other.
-/
import Derived.Test.YtgabhnhfomekfaaM19
import Derived.Test.YtgabhnhfomekfaaM39
namespace Go.Proofs.Ytgabhnhfomekfaa
open Go.RowKit

set_option linter.unusedVariables false

set_option maxRecDepth 100000


theorem op_neq15 {o : Oper} {a : Act} {K : Act → World → Prop} {Q : Exit → Act → World → Prop} {w : World} (x y : Tmp) (tt : TypeId) (ho : o.op = .binOp .neq 38 (.tmp x) (.tmp y) tt) (m m' : Mg) (hx : a.tmps.getD x undef = mgV m) (hy : a.tmps.getD y undef = mgV m')
    (h : K (a.put o.dst (.bool (!mgEq m m'))) w) : o.wp Try.prog a w K Q := by
  have hg := Try.eqGuardType38
  have he := msg_equal15 m m' w
  have hv : ∀ m : Mg, ∃ c, mgV m = .agg c := fun m => ⟨_, rfl⟩
  obtain ⟨c, hc⟩ := hv m
  obtain ⟨c', hc'⟩ := hv m'
  rw [hc, hc'] at he
  have hx' : a.eval (.tmp x) = .agg c := hx.trans hc
  have hy' : a.eval (.tmp y) = .agg c' := hy.trans hc'
  have hb : (do eqGuard .neq 38 (.tmp x) (.tmp y) (.agg c) (.agg c'); binOp .neq 38 (.agg c) (.agg c') : Sem Value).run Try.prog w = .ok (.bool (!mgEq m m')) w := by
    simp [eqGuard, hg, binOp, Op.equal, Op.maxDepth, he]
  unfold Oper.wp execOp
  simp only [ho, hx', hy', Sem.run_bind, Sem.run_pure, Result.andThen_ok, hb]
  exact h

/-- The letter at a place of a line. -/
def atLine (L : List Mg) (a : Int) : Mg := if inB a 0 59 = true then (L[a.toNat]?).getD Mg.zero else Mg.zero

set_option maxHeartbeats 3200000 in
theorem letterAt_any (b n : Nat) (f : Nat → Option Mg) (a0 : Int) (w : World) (T : BagW w b n f) (hf : ∀ p m, p < 60 → f p = some m → FitMsg m) :
    Calls Try.prog 23 #[.map (some b), .int .i64 a0] w fun e w' => e = .returned (.tuple #[mgV (atLine (lineAt f) a0), .bool (!mgEq (atLine (lineAt f) a0) Mg.zero)]) ∧ Below w.heap.size w w' := by
  cases hin : inB a0 0 59
  · have HMM : Hid (atLine (lineAt f) a0 = Mg.zero) := by rw [Hid, atLine, hin]; rfl
    have HZE : Hid (mgEq Mg.zero Mg.zero = true) := (mgEq_iff _ _).2 rfl
    have k1 := heap_alloc_new w (.cells #[.int .i64 0, .int .i64 0, .int .i64 0, .int .i64 0, .int .i64 0, .int .i64 0, .int .i64 0, .string ⟨#[]⟩, .string ⟨#[]⟩, .int .i64 0, .int .i64 0, .int .i64 0, .int .i64 0, .int .i64 0, .int .i64 0] 38)
    have HI : Hid ((Try.prog.info? 38).map (·.size) = some (#[.int .i64 0, .int .i64 0, .int .i64 0, .int .i64 0, .int .i64 0, .int .i64 0, .int .i64 0, .string ⟨#[]⟩, .string ⟨#[]⟩, .int .i64 0, .int .i64 0, .int .i64 0, .int .i64 0, .int .i64 0, .int .i64 0] : Array Value).size) := sizeMsg15
    have H115 : Hid ((#[.int .i64 0, .int .i64 0, .int .i64 0, .int .i64 0, .int .i64 0, .int .i64 0, .int .i64 0, .string ⟨#[]⟩, .string ⟨#[]⟩, .int .i64 0, .int .i64 0, .int .i64 0, .int .i64 0, .int .i64 0, .int .i64 0] : Array Value).all (·.oneCell') = true) := msg_one15 Mg.zero
    have hbS : Below w.heap.size w ((w.alloc (.cells #[.int .i64 0, .int .i64 0, .int .i64 0, .int .i64 0, .int .i64 0, .int .i64 0, .int .i64 0, .string ⟨#[]⟩, .string ⟨#[]⟩, .int .i64 0, .int .i64 0, .int .i64 0, .int .i64 0, .int .i64 0, .int .i64 0] 38)).setRow w.heap.size #[.int .i64 0, .int .i64 0, .int .i64 0, .int .i64 0, .int .i64 0, .int .i64 0, .int .i64 0, .string ⟨#[]⟩, .string ⟨#[]⟩, .int .i64 0, .int .i64 0, .int .i64 0, .int .i64 0, .int .i64 0, .int .i64 0]) := (bw_alloc (Below.refl _ _)).trans (setRow_below (Nat.le_refl _))
    have hrow := setRow_row (cs := #[.int .i64 0, .int .i64 0, .int .i64 0, .int .i64 0, .int .i64 0, .int .i64 0, .int .i64 0, .string ⟨#[]⟩, .string ⟨#[]⟩, .int .i64 0, .int .i64 0, .int .i64 0, .int .i64 0, .int .i64 0, .int .i64 0]) k1
    have HLD : Hid _ := run_loadVar_row (P := Try.prog) _ w.heap.size 38 38 #[.int .i64 0, .int .i64 0, .int .i64 0, .int .i64 0, .int .i64 0, .int .i64 0, .int .i64 0, .string ⟨#[]⟩, .string ⟨#[]⟩, .int .i64 0, .int .i64 0, .int .i64 0, .int .i64 0, .int .i64 0, .int .i64 0] (0, 0) _ hrow Try.underlying38 rfl HI.out
    have HK1 : Hid _ := k1
    clear hrow k1
    go_enter Try.func23, Try.ntmps23
    go_wp2_with fail
    refine (within_any a0 0 59 _).mono ?_
    rw [hin]
    rintro e w' ⟨rfl, rfl⟩
    clear hin
    go_wp2_with (first
      | (with_reducible refine wpList_store_arr rfl _ _ 38 rfl w.heap.size rfl #[.int .i64 0, .int .i64 0, .int .i64 0, .int .i64 0, .int .i64 0, .int .i64 0, .int .i64 0, .string ⟨#[]⟩, .string ⟨#[]⟩, .int .i64 0, .int .i64 0, .int .i64 0, .int .i64 0, .int .i64 0, .int .i64 0] rfl #[.int .i64 0, .int .i64 0, .int .i64 0, .int .i64 0, .int .i64 0, .int .i64 0, .int .i64 0, .string ⟨#[]⟩, .string ⟨#[]⟩, .int .i64 0, .int .i64 0, .int .i64 0, .int .i64 0, .int .i64 0, .int .i64 0] 38 HK1.out HI.out rfl H115.out ?_)
      | fail)
    first
      | exact bodyPost_ret (v := .tuple #[.agg #[.int .i64 0, .int .i64 0, .int .i64 0, .int .i64 0, .int .i64 0, .int .i64 0, .int .i64 0, .string ⟨#[]⟩, .string ⟨#[]⟩, .int .i64 0, .int .i64 0, .int .i64 0, .int .i64 0, .int .i64 0, .int .i64 0], .bool false]) (by simp [results, Try.results23, asAddr, HLD.out]) rfl ⟨by rw [HMM.out, HZE.out]; rfl, hbS⟩
      | exact bodyPost_ret (v := .tuple #[.agg #[.int .i64 0, .int .i64 0, .int .i64 0, .int .i64 0, .int .i64 0, .int .i64 0, .int .i64 0, .string ⟨#[]⟩, .string ⟨#[]⟩, .int .i64 0, .int .i64 0, .int .i64 0, .int .i64 0, .int .i64 0, .int .i64 0], .bool false]) (by simp [results, Try.results23, go_sem]) rfl ⟨by rw [HMM.out, HZE.out]; rfl, bw_alloc (Below.refl _ _)⟩
  · obtain ⟨q, rfl, hq⟩ : ∃ q : Nat, a0 = (q : Int) ∧ q < 60 := by
      rw [inB_iff] at hin
      exact ⟨a0.toNat, by omega, by omega⟩
    obtain ⟨m, hm⟩ : ∃ m, (lineAt f)[q]? = some m := ⟨(lineAt f)[q]'(by rw [lineAt_len]; exact hq), List.getElem?_eq_getElem _⟩
    have HMM : Hid (atLine (lineAt f) (q : Int) = m) := by rw [Hid, atLine, if_pos hin, Int.toNat_natCast, hm]; rfl
    obtain ⟨kd, ds, vw, ⟨sq, cl, tg, ⟨k, nm, ot, at_, va, ep⟩⟩, s, rc, rv⟩ := m
    have k1 := heap_alloc_new w (.cells #[.int .i64 0, .int .i64 0, .int .i64 0, .int .i64 0, .int .i64 0, .int .i64 0, .int .i64 0, .string ⟨#[]⟩, .string ⟨#[]⟩, .int .i64 0, .int .i64 0, .int .i64 0, .int .i64 0, .int .i64 0, .int .i64 0] 38)
    have d1 : Below w.heap.size w (w.alloc (.cells #[.int .i64 0, .int .i64 0, .int .i64 0, .int .i64 0, .int .i64 0, .int .i64 0, .int .i64 0, .string ⟨#[]⟩, .string ⟨#[]⟩, .int .i64 0, .int .i64 0, .int .i64 0, .int .i64 0, .int .i64 0, .int .i64 0] 38)) := bw_alloc (Below.refl _ _)
    have T1 := T.below d1
    have s1 : w.heap.size < (w.alloc (.cells #[.int .i64 0, .int .i64 0, .int .i64 0, .int .i64 0, .int .i64 0, .int .i64 0, .int .i64 0, .string ⟨#[]⟩, .string ⟨#[]⟩, .int .i64 0, .int .i64 0, .int .i64 0, .int .i64 0, .int .i64 0, .int .i64 0] 38)).heap.size := heap_lt k1
    go_enter Try.func23, Try.ntmps23
    go_wp2_with fail
    refine (within_any (q : Int) 0 59 _).mono ?_
    rw [hin]
    rintro e w' ⟨rfl, rfl⟩
    clear hin T
    go_wp2_with fail
    generalize w.alloc (.cells #[.int .i64 0, .int .i64 0, .int .i64 0, .int .i64 0, .int .i64 0, .int .i64 0, .int .i64 0, .string ⟨#[]⟩, .string ⟨#[]⟩, .int .i64 0, .int .i64 0, .int .i64 0, .int .i64 0, .int .i64 0, .int .i64 0] 38) = W1 at *
    refine (line_any b n f _ T1 hf).mono ?_
    rintro e w2 ⟨rfl, b2⟩
    have hidx := index60 w2 (lineAt f) q hq _ hm
    simp only [mgV] at hidx
    have k2 := (b2.block _ s1).trans k1
    have d2 := bw_call d1 b2
    have hA : Below w2.heap.size w2 (w2.alloc (.cells #[.int .i64 kd, .int .i64 ds, .int .i64 vw, .int .i64 sq, .int .i64 cl, .int .i64 tg, .int .i64 k, .string nm, .string ot, .int .i64 at_, .int .i64 va, .int .i64 ep, .int .i64 s, .int .i64 rc, .int .i64 rv] 38)) := bw_alloc (Below.refl _ _)
    have kC := heap_alloc_new w2 (.cells #[.int .i64 kd, .int .i64 ds, .int .i64 vw, .int .i64 sq, .int .i64 cl, .int .i64 tg, .int .i64 k, .string nm, .string ot, .int .i64 at_, .int .i64 va, .int .i64 ep, .int .i64 s, .int .i64 rc, .int .i64 rv] 38)
    have kR := (hA.block _ (heap_lt k2)).trans k2
    have d3 := bw_call d2 hA
    have hne : w.heap.size ≠ w2.heap.size := by have := heap_lt k2; omega
    clear T1 b2 k1 d1 s1 k2 d2 hA hm
    generalize hLL : lineAt f = LL at *
    have HLL : Hid (lineAt f = LL) := hLL
    clear hLL
    go_wp2_with (first
      | (with_reducible refine wpList_index_of rfl 75 _ _ rfl (.agg (lineC LL)) (.int .i64 (q : Int)) rfl rfl _ hidx ?_)
      | fail)
    generalize w2.alloc (.cells #[.int .i64 kd, .int .i64 ds, .int .i64 vw, .int .i64 sq, .int .i64 cl, .int .i64 tg, .int .i64 k, .string nm, .string ot, .int .i64 at_, .int .i64 va, .int .i64 ep, .int .i64 s, .int .i64 rc, .int .i64 rv] 38) = W4 at *
    generalize hnC : w2.heap.size = nC at *
    clear hidx hnC
    have HI : Hid ((Try.prog.info? 38).map (·.size) = some (#[.int .i64 kd, .int .i64 ds, .int .i64 vw, .int .i64 sq, .int .i64 cl, .int .i64 tg, .int .i64 k, .string nm, .string ot, .int .i64 at_, .int .i64 va, .int .i64 ep, .int .i64 s, .int .i64 rc, .int .i64 rv] : Array Value).size) := sizeMsg15
    have HS15 : Hid ((#[.int .i64 0, .int .i64 0, .int .i64 0, .int .i64 0, .int .i64 0, .int .i64 0, .int .i64 0, .string ⟨#[]⟩, .string ⟨#[]⟩, .int .i64 0, .int .i64 0, .int .i64 0, .int .i64 0, .int .i64 0, .int .i64 0] : Array Value).size = (#[.int .i64 kd, .int .i64 ds, .int .i64 vw, .int .i64 sq, .int .i64 cl, .int .i64 tg, .int .i64 k, .string nm, .string ot, .int .i64 at_, .int .i64 va, .int .i64 ep, .int .i64 s, .int .i64 rc, .int .i64 rv] : Array Value).size) := rfl
    have H115 : Hid ((#[.int .i64 kd, .int .i64 ds, .int .i64 vw, .int .i64 sq, .int .i64 cl, .int .i64 tg, .int .i64 k, .string nm, .string ot, .int .i64 at_, .int .i64 va, .int .i64 ep, .int .i64 s, .int .i64 rc, .int .i64 rv] : Array Value).all (·.oneCell') = true) := msg_one15 ⟨kd, ds, vw, ⟨sq, cl, tg, ⟨k, nm, ot, at_, va, ep⟩⟩, s, rc, rv⟩
    obtain ⟨X, hX0⟩ : ∃ X : Bool → Bool → World, X = fun _ b => if b = true then W4.drew.setRow w.heap.size #[.int .i64 kd, .int .i64 ds, .int .i64 vw, .int .i64 sq, .int .i64 cl, .int .i64 tg, .int .i64 k, .string nm, .string ot, .int .i64 at_, .int .i64 va, .int .i64 ep, .int .i64 s, .int .i64 rc, .int .i64 rv] else W4.drew := ⟨_, rfl⟩
    have hXs : X false false = W4.drew := by rw [hX0]; rfl
    have hXC : ∀ b1 b2, (X b1 b2).heap[nC]? = some (.cells #[.int .i64 kd, .int .i64 ds, .int .i64 vw, .int .i64 sq, .int .i64 cl, .int .i64 tg, .int .i64 k, .string nm, .string ot, .int .i64 at_, .int .i64 va, .int .i64 ep, .int .i64 s, .int .i64 rc, .int .i64 rv] 38 (0, 0)) := fun b1 b2 => by
      rw [hX0]
      cases b2
      · exact kC
      · exact ((row_upto15 (w := W4.drew) (g := w.heap.size) (cs := #[.int .i64 kd, .int .i64 ds, .int .i64 vw, .int .i64 sq, .int .i64 cl, .int .i64 tg, .int .i64 k, .string nm, .string ot, .int .i64 at_, .int .i64 va, .int .i64 ep, .int .i64 s, .int .i64 rc, .int .i64 rv])).block _ (heap_lt kC) (Ne.symm hne)).trans kC
    have hX : Hid _ := hX0
    clear hX0
    have hbS : Below w.heap.size w (W4.drew.setRow w.heap.size #[.int .i64 kd, .int .i64 ds, .int .i64 vw, .int .i64 sq, .int .i64 cl, .int .i64 tg, .int .i64 k, .string nm, .string ot, .int .i64 at_, .int .i64 va, .int .i64 ep, .int .i64 s, .int .i64 rc, .int .i64 rv]) := (bw_drew d3).trans (setRow_below (Nat.le_refl _))
    have hrow : (W4.drew.setRow w.heap.size #[.int .i64 kd, .int .i64 ds, .int .i64 vw, .int .i64 sq, .int .i64 cl, .int .i64 tg, .int .i64 k, .string nm, .string ot, .int .i64 at_, .int .i64 va, .int .i64 ep, .int .i64 s, .int .i64 rc, .int .i64 rv]).heap[w.heap.size]? = some (.cells #[.int .i64 kd, .int .i64 ds, .int .i64 vw, .int .i64 sq, .int .i64 cl, .int .i64 tg, .int .i64 k, .string nm, .string ot, .int .i64 at_, .int .i64 va, .int .i64 ep, .int .i64 s, .int .i64 rc, .int .i64 rv] 38 (0, 0)) := setRow_row (cs := #[.int .i64 kd, .int .i64 ds, .int .i64 vw, .int .i64 sq, .int .i64 cl, .int .i64 tg, .int .i64 k, .string nm, .string ot, .int .i64 at_, .int .i64 va, .int .i64 ep, .int .i64 s, .int .i64 rc, .int .i64 rv]) (show W4.drew.heap[w.heap.size]? = _ from kR)
    have HLD : Hid _ := run_loadVar_row (P := Try.prog) _ w.heap.size 38 38 #[.int .i64 kd, .int .i64 ds, .int .i64 vw, .int .i64 sq, .int .i64 cl, .int .i64 tg, .int .i64 k, .string nm, .string ot, .int .i64 at_, .int .i64 va, .int .i64 ep, .int .i64 s, .int .i64 rc, .int .i64 rv] (0, 0) _ hrow Try.underlying38 rfl HI.out
    obtain ⟨R, hR0⟩ : ∃ R : Nat → Value → Prop, R = fun j v => match j with
      | 0 => v = .agg #[.int .i64 kd, .int .i64 ds, .int .i64 vw, .int .i64 sq, .int .i64 cl, .int .i64 tg, .int .i64 k, .string nm, .string ot, .int .i64 at_, .int .i64 va, .int .i64 ep, .int .i64 s, .int .i64 rc, .int .i64 rv]
      | 1 => v = .agg #[.int .i64 kd, .int .i64 ds, .int .i64 vw, .int .i64 sq, .int .i64 cl, .int .i64 tg, .int .i64 k, .string nm, .string ot, .int .i64 at_, .int .i64 va, .int .i64 ep, .int .i64 s, .int .i64 rc, .int .i64 rv]
      | 2 => v = .agg #[.int .i64 0, .int .i64 0, .int .i64 0, .int .i64 0, .int .i64 0, .int .i64 0, .int .i64 0, .string ⟨#[]⟩, .string ⟨#[]⟩, .int .i64 0, .int .i64 0, .int .i64 0, .int .i64 0, .int .i64 0, .int .i64 0]
      | 3 => v = .bool (!mgEq ⟨kd, ds, vw, ⟨sq, cl, tg, ⟨k, nm, ot, at_, va, ep⟩⟩, s, rc, rv⟩ Mg.zero)
      | 4 => True
      | 5 => v = .bool (!mgEq ⟨kd, ds, vw, ⟨sq, cl, tg, ⟨k, nm, ot, at_, va, ep⟩⟩, s, rc, rv⟩ Mg.zero)
      | _ => True := ⟨_, rfl⟩
    have hR : Hid _ := hR0
    clear hR0
    refine wp_region_inv (I := RB _ 100 4 R _ X) (by kernel_rfl) (by rw [← hXs]; exact RB.start _ 100 4 R _ X) ?_ ?_
    · intro L a x i hL hD hi h
      have hin : i < 6 := (ready_mem hi).1
      have hnot := (ready_mem hi).2.1
      have hc : i = 0 ∨ i = 1 ∨ i = 2 ∨ i = 3 ∨ i = 4 ∨ i = 5 := by omega
      rcases hc with rfl | rfl | rfl | rfl | rfl | rfl
      · have r6 : a.tmps.getD 6 undef = .pointer (some ⟨nC, 0, none⟩) := h.old 6 (by kernel_rfl)
        refine wpOp_of rfl rfl (op_load 38 6 rfl nC r6 #[.int .i64 kd, .int .i64 ds, .int .i64 vw, .int .i64 sq, .int .i64 cl, .int .i64 tg, .int .i64 k, .string nm, .string ot, .int .i64 at_, .int .i64 va, .int .i64 ep, .int .i64 s, .int .i64 rc, .int .i64 rv] 38 (0, 0) (by rw [h.wld]; exact hXC _ _) _ Try.underlying38 rfl HI.out ?_)
        exact h.val 0 15 _ (by decide) (by decide) (by kernel_rfl) (of_decide_eq_true (by kernel_rfl)) (by kernel_rfl) (by kernel_rfl) (by rw [hR.out]; exact rfl)
      · have r6 : a.tmps.getD 6 undef = .pointer (some ⟨nC, 0, none⟩) := h.old 6 (by kernel_rfl)
        refine wpOp_of rfl rfl (op_load 38 6 rfl nC r6 #[.int .i64 kd, .int .i64 ds, .int .i64 vw, .int .i64 sq, .int .i64 cl, .int .i64 tg, .int .i64 k, .string nm, .string ot, .int .i64 at_, .int .i64 va, .int .i64 ep, .int .i64 s, .int .i64 rc, .int .i64 rv] 38 (0, 0) (by rw [h.wld]; exact hXC _ _) _ Try.underlying38 rfl HI.out ?_)
        exact h.val 1 16 _ (by decide) (by decide) (by kernel_rfl) (of_decide_eq_true (by kernel_rfl)) (by kernel_rfl) (by kernel_rfl) (by rw [hR.out]; exact rfl)
      · refine wpOp_of rfl rfl ?_
        unfold Oper.wp
        go_simp
        exact h.val 2 17 _ (by decide) (by decide) (by kernel_rfl) (of_decide_eq_true (by kernel_rfl)) (by kernel_rfl) (by kernel_rfl) (by rw [hR.out]; exact rfl)
      · have r1_ := h.rel 1 16 (ready_dep hi (by kernel_rfl)) (by kernel_rfl)
        rw [hR.out] at r1_
        have r1 : a.tmps.getD 16 undef = .agg #[.int .i64 kd, .int .i64 ds, .int .i64 vw, .int .i64 sq, .int .i64 cl, .int .i64 tg, .int .i64 k, .string nm, .string ot, .int .i64 at_, .int .i64 va, .int .i64 ep, .int .i64 s, .int .i64 rc, .int .i64 rv] := r1_
        clear r1_
        have r2_ := h.rel 2 17 (ready_dep hi (by kernel_rfl)) (by kernel_rfl)
        rw [hR.out] at r2_
        have r2 : a.tmps.getD 17 undef = .agg #[.int .i64 0, .int .i64 0, .int .i64 0, .int .i64 0, .int .i64 0, .int .i64 0, .int .i64 0, .string ⟨#[]⟩, .string ⟨#[]⟩, .int .i64 0, .int .i64 0, .int .i64 0, .int .i64 0, .int .i64 0, .int .i64 0] := r2_
        clear r2_
        refine wpOp_of rfl rfl (op_neq15 _ _ _ rfl ⟨kd, ds, vw, ⟨sq, cl, tg, ⟨k, nm, ot, at_, va, ep⟩⟩, s, rc, rv⟩ Mg.zero r1 r2 ?_)
        exact h.val 3 18 _ (by decide) (by decide) (by kernel_rfl) (of_decide_eq_true (by kernel_rfl)) (by kernel_rfl) (by kernel_rfl) (by rw [hR.out]; exact rfl)
      · have r4 : a.tmps.getD 4 undef = .pointer (some ⟨w.heap.size, 0, none⟩) := h.old 4 (by kernel_rfl)
        have r15_ := h.rel 0 15 (ready_dep hi (by kernel_rfl)) (by kernel_rfl)
        rw [hR.out] at r15_
        have r15 : a.tmps.getD 15 undef = .agg #[.int .i64 kd, .int .i64 ds, .int .i64 vw, .int .i64 sq, .int .i64 cl, .int .i64 tg, .int .i64 k, .string nm, .string ot, .int .i64 at_, .int .i64 va, .int .i64 ep, .int .i64 s, .int .i64 rc, .int .i64 rv] := r15_
        clear r15_
        have hx := h.wld
        rw [not_done hnot, hX.out] at hx
        have hx' : x = W4.drew := hx
        refine wpOp_of rfl rfl (op_store 38 4 15 rfl rfl w.heap.size r4 #[.int .i64 kd, .int .i64 ds, .int .i64 vw, .int .i64 sq, .int .i64 cl, .int .i64 tg, .int .i64 k, .string nm, .string ot, .int .i64 at_, .int .i64 va, .int .i64 ep, .int .i64 s, .int .i64 rc, .int .i64 rv] r15 #[.int .i64 0, .int .i64 0, .int .i64 0, .int .i64 0, .int .i64 0, .int .i64 0, .int .i64 0, .string ⟨#[]⟩, .string ⟨#[]⟩, .int .i64 0, .int .i64 0, .int .i64 0, .int .i64 0, .int .i64 0, .int .i64 0] 38 (by rw [hx']; exact kR) HI.out HS15.out H115.out ?_)
        exact h.sto (by decide) _ (by rw [hL]; exact of_decide_eq_true (by kernel_rfl)) (by kernel_rfl) (by rw [hX.out, hx']; rfl)
      · have r3_ := h.rel 3 18 (ready_dep hi (by kernel_rfl)) (by kernel_rfl)
        rw [hR.out] at r3_
        have r3 : a.tmps.getD 18 undef = .bool (!mgEq ⟨kd, ds, vw, ⟨sq, cl, tg, ⟨k, nm, ot, at_, va, ep⟩⟩, s, rc, rv⟩ Mg.zero) := r3_
        clear r3_
        refine wpOp_of rfl rfl (op_assign 18 rfl ?_)
        exact h.val 5 5 _ (by decide) (by decide) (by kernel_rfl) (of_decide_eq_true (by kernel_rfl)) (by kernel_rfl) (by kernel_rfl) (by rw [hR.out]; exact r3)
    · intro L a x hL hD hr h
      have hall := all_done hL hr (by kernel_rfl)
      have d5_ := h.rel 5 5 (hall 5 (of_decide_eq_true (by kernel_rfl))) (by kernel_rfl)
      rw [hR.out] at d5_
      have d5 : a.tmps.getD 5 undef = .bool (!mgEq ⟨kd, ds, vw, ⟨sq, cl, tg, ⟨k, nm, ot, at_, va, ep⟩⟩, s, rc, rv⟩ Mg.zero) := d5_
      clear d5_
      have hx := h.wld
      rw [hall 4 (of_decide_eq_true (by kernel_rfl)), hX.out] at hx
      have hx' : x = W4.drew.setRow w.heap.size #[.int .i64 kd, .int .i64 ds, .int .i64 vw, .int .i64 sq, .int .i64 cl, .int .i64 tg, .int .i64 k, .string nm, .string ot, .int .i64 at_, .int .i64 va, .int .i64 ep, .int .i64 s, .int .i64 rc, .int .i64 rv] := hx
      have hfr := h.frame [5, 15, 16, 17, 18] (by kernel_rfl)
      obtain ⟨f, hf⟩ : ∃ f : Nat → Value, (fun s => a.tmps.getD s undef) = f := ⟨_, rfl⟩
      rw [hf] at hfr
      have g5 : f 5 = .bool (!mgEq ⟨kd, ds, vw, ⟨sq, cl, tg, ⟨k, nm, ot, at_, va, ep⟩⟩, s, rc, rv⟩ Mg.zero) := by rw [← hf]; exact d5
      subst hfr
      simp only [Act.puts, g5, Act.put, List.setIfInBounds_toArray, List.set_cons_succ, List.set_cons_zero]
      generalize f 15 = u15
      generalize f 16 = u16
      generalize f 17 = u17
      generalize f 18 = u18
      clear h hall hx hr hD hL hXs hX hR hf g5 d5 f
      subst hx'
      go_wp2_with fail
      refine bodyPost_ret (v := .tuple #[.agg #[.int .i64 kd, .int .i64 ds, .int .i64 vw, .int .i64 sq, .int .i64 cl, .int .i64 tg, .int .i64 k, .string nm, .string ot, .int .i64 at_, .int .i64 va, .int .i64 ep, .int .i64 s, .int .i64 rc, .int .i64 rv], .bool (!mgEq ⟨kd, ds, vw, ⟨sq, cl, tg, ⟨k, nm, ot, at_, va, ep⟩⟩, s, rc, rv⟩ Mg.zero)]) ?_ rfl ⟨by rw [HLL.out, HMM.out]; rfl, hbS⟩
      simp [results, Try.results23, asAddr, HLD.out]
end Go.Proofs.Ytgabhnhfomekfaa

