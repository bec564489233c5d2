/-
  Contracts and plain laws, one chapter behind the other.
-/
import Derived.Lib.AppendZeros
import Derived.Test.YtghhphhnalfjaaaM01
import Derived.Test.YtghhphhnalfjaaaM02
import Derived.Test.YtghhphhnalfjaaaM04
import Derived.Test.YtghhphhnalfjaaaM05
import Derived.Test.YtghhphhnalfjaaaM07
import Derived.Test.YtghhphhnalfjaaaM08
namespace Go.Proofs.Ytghhphhnalfjaaa
open Go.RowKit

set_option linter.unusedVariables false

set_option maxRecDepth 100000


theorem op_neq15 {o : Oper} {a : Act} {K : Act → World → Prop} {Q : Exit → Act → World → Prop} {w : World} (x y : Tmp) (tt : TypeId) (ho : o.op = .binOp .neq 38 (.tmp x) (.tmp y) tt) (m m' : Mg) (hx : a.tmps.getD x undef = mgV m) (hy : a.tmps.getD y undef = mgV m')
    (h : K (a.put o.dst (.bool (!mgEq m m'))) w) : o.wp Try.prog a w K Q := by
  have hg := Try.eqGuardType38
  have he := msg_equal15 m m' w
  have hv : ∀ m : Mg, ∃ c, mgV m = .agg c := fun m => ⟨_, rfl⟩
  obtain ⟨c, hc⟩ := hv m
  obtain ⟨c', hc'⟩ := hv m'
  rw [hc, hc'] at he
  have hx' : a.eval (.tmp x) = .agg c := hx.trans hc
  have hy' : a.eval (.tmp y) = .agg c' := hy.trans hc'
  have hb : (do eqGuard .neq 38 (.tmp x) (.tmp y) (.agg c) (.agg c'); binOp .neq 38 (.agg c) (.agg c') : Sem Value).run Try.prog w = .ok (.bool (!mgEq m m')) w := by
    simp [eqGuard, hg, binOp, Op.equal, Op.maxDepth, he]
  unfold Oper.wp execOp
  simp only [ho, hx', hy', Sem.run_bind, Sem.run_pure, Result.andThen_ok, hb]
  exact h

/-- The letter at a place of a line. -/
def atLine (L : List Mg) (a : Int) : Mg := if inB a 0 59 = true then (L[a.toNat]?).getD Mg.zero else Mg.zero

set_option maxHeartbeats 3200000 in
theorem letterAt_any (b n : Nat) (f : Nat → Option Mg) (a0 : Int) (w : World) (T : BagW w b n f) (hf : ∀ p m, p < 60 → f p = some m → FitMsg m) :
    Calls Try.prog 40 #[.map (some b), .int .i64 a0] w fun e w' => e = .returned (.tuple #[mgV (atLine (lineAt f) a0), .bool (!mgEq (atLine (lineAt f) a0) Mg.zero)]) ∧ Below w.heap.size w w' := by
  cases hin : inB a0 0 59
  · have HMM : Hid (atLine (lineAt f) a0 = Mg.zero) := by rw [Hid, atLine, hin]; rfl
    have HZE : Hid (mgEq Mg.zero Mg.zero = true) := (mgEq_iff _ _).2 rfl
    have k1 := heap_alloc_new w (.cells #[.int .i64 0, .int .i64 0, .int .i64 0, .int .i64 0, .int .i64 0, .int .i64 0, .int .i64 0, .string ⟨#[]⟩, .string ⟨#[]⟩, .int .i64 0, .int .i64 0, .int .i64 0, .int .i64 0, .int .i64 0, .int .i64 0] 38)
    have HI : Hid ((Try.prog.info? 38).map (·.size) = some (#[.int .i64 0, .int .i64 0, .int .i64 0, .int .i64 0, .int .i64 0, .int .i64 0, .int .i64 0, .string ⟨#[]⟩, .string ⟨#[]⟩, .int .i64 0, .int .i64 0, .int .i64 0, .int .i64 0, .int .i64 0, .int .i64 0] : Array Value).size) := sizeMsg15
    have H115 : Hid ((#[.int .i64 0, .int .i64 0, .int .i64 0, .int .i64 0, .int .i64 0, .int .i64 0, .int .i64 0, .string ⟨#[]⟩, .string ⟨#[]⟩, .int .i64 0, .int .i64 0, .int .i64 0, .int .i64 0, .int .i64 0, .int .i64 0] : Array Value).all (·.oneCell') = true) := msg_one15 Mg.zero
    have hbS : Below w.heap.size w ((w.alloc (.cells #[.int .i64 0, .int .i64 0, .int .i64 0, .int .i64 0, .int .i64 0, .int .i64 0, .int .i64 0, .string ⟨#[]⟩, .string ⟨#[]⟩, .int .i64 0, .int .i64 0, .int .i64 0, .int .i64 0, .int .i64 0, .int .i64 0] 38)).setRow w.heap.size #[.int .i64 0, .int .i64 0, .int .i64 0, .int .i64 0, .int .i64 0, .int .i64 0, .int .i64 0, .string ⟨#[]⟩, .string ⟨#[]⟩, .int .i64 0, .int .i64 0, .int .i64 0, .int .i64 0, .int .i64 0, .int .i64 0]) := (bw_alloc (Below.refl _ _)).trans (setRow_below (Nat.le_refl _))
    have hrow := setRow_row (cs := #[.int .i64 0, .int .i64 0, .int .i64 0, .int .i64 0, .int .i64 0, .int .i64 0, .int .i64 0, .string ⟨#[]⟩, .string ⟨#[]⟩, .int .i64 0, .int .i64 0, .int .i64 0, .int .i64 0, .int .i64 0, .int .i64 0]) k1
    have HLD : Hid _ := run_loadVar_row (P := Try.prog) _ w.heap.size 38 38 #[.int .i64 0, .int .i64 0, .int .i64 0, .int .i64 0, .int .i64 0, .int .i64 0, .int .i64 0, .string ⟨#[]⟩, .string ⟨#[]⟩, .int .i64 0, .int .i64 0, .int .i64 0, .int .i64 0, .int .i64 0, .int .i64 0] (0, 0) _ hrow Try.underlying38 rfl HI.out
    have HK1 : Hid _ := k1
    clear hrow k1
    go_enter Try.func40, Try.ntmps40
    go_wp2_with fail
    refine (within_any a0 0 59 _).mono ?_
    rw [hin]
    rintro e w' ⟨rfl, rfl⟩
    clear hin
    go_wp2_with (first
      | (with_reducible refine wpList_store_arr rfl _ _ 38 rfl w.heap.size rfl #[.int .i64 0, .int .i64 0, .int .i64 0, .int .i64 0, .int .i64 0, .int .i64 0, .int .i64 0, .string ⟨#[]⟩, .string ⟨#[]⟩, .int .i64 0, .int .i64 0, .int .i64 0, .int .i64 0, .int .i64 0, .int .i64 0] rfl #[.int .i64 0, .int .i64 0, .int .i64 0, .int .i64 0, .int .i64 0, .int .i64 0, .int .i64 0, .string ⟨#[]⟩, .string ⟨#[]⟩, .int .i64 0, .int .i64 0, .int .i64 0, .int .i64 0, .int .i64 0, .int .i64 0] 38 HK1.out HI.out rfl H115.out ?_)
      | fail)
    first
      | exact bodyPost_ret (v := .tuple #[.agg #[.int .i64 0, .int .i64 0, .int .i64 0, .int .i64 0, .int .i64 0, .int .i64 0, .int .i64 0, .string ⟨#[]⟩, .string ⟨#[]⟩, .int .i64 0, .int .i64 0, .int .i64 0, .int .i64 0, .int .i64 0, .int .i64 0], .bool false]) (by simp [results, Try.results40, asAddr, HLD.out]) rfl ⟨by rw [HMM.out, HZE.out]; rfl, hbS⟩
      | exact bodyPost_ret (v := .tuple #[.agg #[.int .i64 0, .int .i64 0, .int .i64 0, .int .i64 0, .int .i64 0, .int .i64 0, .int .i64 0, .string ⟨#[]⟩, .string ⟨#[]⟩, .int .i64 0, .int .i64 0, .int .i64 0, .int .i64 0, .int .i64 0, .int .i64 0], .bool false]) (by simp [results, Try.results40, go_sem]) rfl ⟨by rw [HMM.out, HZE.out]; rfl, bw_alloc (Below.refl _ _)⟩
  · obtain ⟨q, rfl, hq⟩ : ∃ q : Nat, a0 = (q : Int) ∧ q < 60 := by
      rw [inB_iff] at hin
      exact ⟨a0.toNat, by omega, by omega⟩
    obtain ⟨m, hm⟩ : ∃ m, (lineAt f)[q]? = some m := ⟨(lineAt f)[q]'(by rw [lineAt_len]; exact hq), List.getElem?_eq_getElem _⟩
    have HMM : Hid (atLine (lineAt f) (q : Int) = m) := by rw [Hid, atLine, if_pos hin, Int.toNat_natCast, hm]; rfl
    obtain ⟨kd, ds, vw, ⟨sq, cl, tg, ⟨k, nm, ot, at_, va, ep⟩⟩, s, rc, rv⟩ := m
    have k1 := heap_alloc_new w (.cells #[.int .i64 0, .int .i64 0, .int .i64 0, .int .i64 0, .int .i64 0, .int .i64 0, .int .i64 0, .string ⟨#[]⟩, .string ⟨#[]⟩, .int .i64 0, .int .i64 0, .int .i64 0, .int .i64 0, .int .i64 0, .int .i64 0] 38)
    have d1 : Below w.heap.size w (w.alloc (.cells #[.int .i64 0, .int .i64 0, .int .i64 0, .int .i64 0, .int .i64 0, .int .i64 0, .int .i64 0, .string ⟨#[]⟩, .string ⟨#[]⟩, .int .i64 0, .int .i64 0, .int .i64 0, .int .i64 0, .int .i64 0, .int .i64 0] 38)) := bw_alloc (Below.refl _ _)
    have T1 := T.below d1
    have s1 : w.heap.size < (w.alloc (.cells #[.int .i64 0, .int .i64 0, .int .i64 0, .int .i64 0, .int .i64 0, .int .i64 0, .int .i64 0, .string ⟨#[]⟩, .string ⟨#[]⟩, .int .i64 0, .int .i64 0, .int .i64 0, .int .i64 0, .int .i64 0, .int .i64 0] 38)).heap.size := heap_lt k1
    go_enter Try.func40, Try.ntmps40
    go_wp2_with fail
    refine (within_any (q : Int) 0 59 _).mono ?_
    rw [hin]
    rintro e w' ⟨rfl, rfl⟩
    clear hin T
    go_wp2_with fail
    generalize w.alloc (.cells #[.int .i64 0, .int .i64 0, .int .i64 0, .int .i64 0, .int .i64 0, .int .i64 0, .int .i64 0, .string ⟨#[]⟩, .string ⟨#[]⟩, .int .i64 0, .int .i64 0, .int .i64 0, .int .i64 0, .int .i64 0, .int .i64 0] 38) = W1 at *
    refine (line_any b n f _ T1 hf).mono ?_
    rintro e w2 ⟨rfl, b2⟩
    have hidx := index60 w2 (lineAt f) q hq _ hm
    simp only [mgV] at hidx
    have k2 := (b2.block _ s1).trans k1
    have d2 := bw_call d1 b2
    have hA : Below w2.heap.size w2 (w2.alloc (.cells #[.int .i64 kd, .int .i64 ds, .int .i64 vw, .int .i64 sq, .int .i64 cl, .int .i64 tg, .int .i64 k, .string nm, .string ot, .int .i64 at_, .int .i64 va, .int .i64 ep, .int .i64 s, .int .i64 rc, .int .i64 rv] 38)) := bw_alloc (Below.refl _ _)
    have kC := heap_alloc_new w2 (.cells #[.int .i64 kd, .int .i64 ds, .int .i64 vw, .int .i64 sq, .int .i64 cl, .int .i64 tg, .int .i64 k, .string nm, .string ot, .int .i64 at_, .int .i64 va, .int .i64 ep, .int .i64 s, .int .i64 rc, .int .i64 rv] 38)
    have kR := (hA.block _ (heap_lt k2)).trans k2
    have d3 := bw_call d2 hA
    have hne : w.heap.size ≠ w2.heap.size := by have := heap_lt k2; omega
    clear T1 b2 k1 d1 s1 k2 d2 hA hm
    generalize hLL : lineAt f = LL at *
    have HLL : Hid (lineAt f = LL) := hLL
    clear hLL
    go_wp2_with (first
      | (with_reducible refine wpList_index_of rfl 110 _ _ rfl (.agg (lineC LL)) (.int .i64 (q : Int)) rfl rfl _ hidx ?_)
      | fail)
    generalize w2.alloc (.cells #[.int .i64 kd, .int .i64 ds, .int .i64 vw, .int .i64 sq, .int .i64 cl, .int .i64 tg, .int .i64 k, .string nm, .string ot, .int .i64 at_, .int .i64 va, .int .i64 ep, .int .i64 s, .int .i64 rc, .int .i64 rv] 38) = W4 at *
    generalize hnC : w2.heap.size = nC at *
    clear hidx hnC
    have HI : Hid ((Try.prog.info? 38).map (·.size) = some (#[.int .i64 kd, .int .i64 ds, .int .i64 vw, .int .i64 sq, .int .i64 cl, .int .i64 tg, .int .i64 k, .string nm, .string ot, .int .i64 at_, .int .i64 va, .int .i64 ep, .int .i64 s, .int .i64 rc, .int .i64 rv] : Array Value).size) := sizeMsg15
    have HS15 : Hid ((#[.int .i64 0, .int .i64 0, .int .i64 0, .int .i64 0, .int .i64 0, .int .i64 0, .int .i64 0, .string ⟨#[]⟩, .string ⟨#[]⟩, .int .i64 0, .int .i64 0, .int .i64 0, .int .i64 0, .int .i64 0, .int .i64 0] : Array Value).size = (#[.int .i64 kd, .int .i64 ds, .int .i64 vw, .int .i64 sq, .int .i64 cl, .int .i64 tg, .int .i64 k, .string nm, .string ot, .int .i64 at_, .int .i64 va, .int .i64 ep, .int .i64 s, .int .i64 rc, .int .i64 rv] : Array Value).size) := rfl
    have H115 : Hid ((#[.int .i64 kd, .int .i64 ds, .int .i64 vw, .int .i64 sq, .int .i64 cl, .int .i64 tg, .int .i64 k, .string nm, .string ot, .int .i64 at_, .int .i64 va, .int .i64 ep, .int .i64 s, .int .i64 rc, .int .i64 rv] : Array Value).all (·.oneCell') = true) := msg_one15 ⟨kd, ds, vw, ⟨sq, cl, tg, ⟨k, nm, ot, at_, va, ep⟩⟩, s, rc, rv⟩
    obtain ⟨X, hX0⟩ : ∃ X : Bool → Bool → World, X = fun _ b => if b = true then W4.drew.setRow w.heap.size #[.int .i64 kd, .int .i64 ds, .int .i64 vw, .int .i64 sq, .int .i64 cl, .int .i64 tg, .int .i64 k, .string nm, .string ot, .int .i64 at_, .int .i64 va, .int .i64 ep, .int .i64 s, .int .i64 rc, .int .i64 rv] else W4.drew := ⟨_, rfl⟩
    have hXs : X false false = W4.drew := by rw [hX0]; rfl
    have hXC : ∀ b1 b2, (X b1 b2).heap[nC]? = some (.cells #[.int .i64 kd, .int .i64 ds, .int .i64 vw, .int .i64 sq, .int .i64 cl, .int .i64 tg, .int .i64 k, .string nm, .string ot, .int .i64 at_, .int .i64 va, .int .i64 ep, .int .i64 s, .int .i64 rc, .int .i64 rv] 38 (0, 0)) := fun b1 b2 => by
      rw [hX0]
      cases b2
      · exact kC
      · exact ((row_upto15 (w := W4.drew) (g := w.heap.size) (cs := #[.int .i64 kd, .int .i64 ds, .int .i64 vw, .int .i64 sq, .int .i64 cl, .int .i64 tg, .int .i64 k, .string nm, .string ot, .int .i64 at_, .int .i64 va, .int .i64 ep, .int .i64 s, .int .i64 rc, .int .i64 rv])).block _ (heap_lt kC) (Ne.symm hne)).trans kC
    have hX : Hid _ := hX0
    clear hX0
    have hbS : Below w.heap.size w (W4.drew.setRow w.heap.size #[.int .i64 kd, .int .i64 ds, .int .i64 vw, .int .i64 sq, .int .i64 cl, .int .i64 tg, .int .i64 k, .string nm, .string ot, .int .i64 at_, .int .i64 va, .int .i64 ep, .int .i64 s, .int .i64 rc, .int .i64 rv]) := (bw_drew d3).trans (setRow_below (Nat.le_refl _))
    have hrow : (W4.drew.setRow w.heap.size #[.int .i64 kd, .int .i64 ds, .int .i64 vw, .int .i64 sq, .int .i64 cl, .int .i64 tg, .int .i64 k, .string nm, .string ot, .int .i64 at_, .int .i64 va, .int .i64 ep, .int .i64 s, .int .i64 rc, .int .i64 rv]).heap[w.heap.size]? = some (.cells #[.int .i64 kd, .int .i64 ds, .int .i64 vw, .int .i64 sq, .int .i64 cl, .int .i64 tg, .int .i64 k, .string nm, .string ot, .int .i64 at_, .int .i64 va, .int .i64 ep, .int .i64 s, .int .i64 rc, .int .i64 rv] 38 (0, 0)) := setRow_row (cs := #[.int .i64 kd, .int .i64 ds, .int .i64 vw, .int .i64 sq, .int .i64 cl, .int .i64 tg, .int .i64 k, .string nm, .string ot, .int .i64 at_, .int .i64 va, .int .i64 ep, .int .i64 s, .int .i64 rc, .int .i64 rv]) (show W4.drew.heap[w.heap.size]? = _ from kR)
    have HLD : Hid _ := run_loadVar_row (P := Try.prog) _ w.heap.size 38 38 #[.int .i64 kd, .int .i64 ds, .int .i64 vw, .int .i64 sq, .int .i64 cl, .int .i64 tg, .int .i64 k, .string nm, .string ot, .int .i64 at_, .int .i64 va, .int .i64 ep, .int .i64 s, .int .i64 rc, .int .i64 rv] (0, 0) _ hrow Try.underlying38 rfl HI.out
    obtain ⟨R, hR0⟩ : ∃ R : Nat → Value → Prop, R = fun j v => match j with
      | 0 => v = .agg #[.int .i64 kd, .int .i64 ds, .int .i64 vw, .int .i64 sq, .int .i64 cl, .int .i64 tg, .int .i64 k, .string nm, .string ot, .int .i64 at_, .int .i64 va, .int .i64 ep, .int .i64 s, .int .i64 rc, .int .i64 rv]
      | 1 => v = .agg #[.int .i64 kd, .int .i64 ds, .int .i64 vw, .int .i64 sq, .int .i64 cl, .int .i64 tg, .int .i64 k, .string nm, .string ot, .int .i64 at_, .int .i64 va, .int .i64 ep, .int .i64 s, .int .i64 rc, .int .i64 rv]
      | 2 => v = .agg #[.int .i64 0, .int .i64 0, .int .i64 0, .int .i64 0, .int .i64 0, .int .i64 0, .int .i64 0, .string ⟨#[]⟩, .string ⟨#[]⟩, .int .i64 0, .int .i64 0, .int .i64 0, .int .i64 0, .int .i64 0, .int .i64 0]
      | 3 => v = .bool (!mgEq ⟨kd, ds, vw, ⟨sq, cl, tg, ⟨k, nm, ot, at_, va, ep⟩⟩, s, rc, rv⟩ Mg.zero)
      | 4 => True
      | 5 => v = .bool (!mgEq ⟨kd, ds, vw, ⟨sq, cl, tg, ⟨k, nm, ot, at_, va, ep⟩⟩, s, rc, rv⟩ Mg.zero)
      | _ => True := ⟨_, rfl⟩
    have hR : Hid _ := hR0
    clear hR0
    refine wp_region_inv (I := RB _ 100 4 R _ X) (by kernel_rfl) (by rw [← hXs]; exact RB.start _ 100 4 R _ X) ?_ ?_
    · intro L a x i hL hD hi h
      have hin : i < 6 := (ready_mem hi).1
      have hnot := (ready_mem hi).2.1
      have hc : i = 0 ∨ i = 1 ∨ i = 2 ∨ i = 3 ∨ i = 4 ∨ i = 5 := by omega
      rcases hc with rfl | rfl | rfl | rfl | rfl | rfl
      · have r6 : a.tmps.getD 6 undef = .pointer (some ⟨nC, 0, none⟩) := h.old 6 (by kernel_rfl)
        refine wpOp_of rfl rfl (op_load 38 6 rfl nC r6 #[.int .i64 kd, .int .i64 ds, .int .i64 vw, .int .i64 sq, .int .i64 cl, .int .i64 tg, .int .i64 k, .string nm, .string ot, .int .i64 at_, .int .i64 va, .int .i64 ep, .int .i64 s, .int .i64 rc, .int .i64 rv] 38 (0, 0) (by rw [h.wld]; exact hXC _ _) _ Try.underlying38 rfl HI.out ?_)
        exact h.val 0 15 _ (by decide) (by decide) (by kernel_rfl) (of_decide_eq_true (by kernel_rfl)) (by kernel_rfl) (by kernel_rfl) (by rw [hR.out]; exact rfl)
      · have r6 : a.tmps.getD 6 undef = .pointer (some ⟨nC, 0, none⟩) := h.old 6 (by kernel_rfl)
        refine wpOp_of rfl rfl (op_load 38 6 rfl nC r6 #[.int .i64 kd, .int .i64 ds, .int .i64 vw, .int .i64 sq, .int .i64 cl, .int .i64 tg, .int .i64 k, .string nm, .string ot, .int .i64 at_, .int .i64 va, .int .i64 ep, .int .i64 s, .int .i64 rc, .int .i64 rv] 38 (0, 0) (by rw [h.wld]; exact hXC _ _) _ Try.underlying38 rfl HI.out ?_)
        exact h.val 1 16 _ (by decide) (by decide) (by kernel_rfl) (of_decide_eq_true (by kernel_rfl)) (by kernel_rfl) (by kernel_rfl) (by rw [hR.out]; exact rfl)
      · refine wpOp_of rfl rfl ?_
        unfold Oper.wp
        go_simp
        exact h.val 2 17 _ (by decide) (by decide) (by kernel_rfl) (of_decide_eq_true (by kernel_rfl)) (by kernel_rfl) (by kernel_rfl) (by rw [hR.out]; exact rfl)
      · have r1_ := h.rel 1 16 (ready_dep hi (by kernel_rfl)) (by kernel_rfl)
        rw [hR.out] at r1_
        have r1 : a.tmps.getD 16 undef = .agg #[.int .i64 kd, .int .i64 ds, .int .i64 vw, .int .i64 sq, .int .i64 cl, .int .i64 tg, .int .i64 k, .string nm, .string ot, .int .i64 at_, .int .i64 va, .int .i64 ep, .int .i64 s, .int .i64 rc, .int .i64 rv] := r1_
        clear r1_
        have r2_ := h.rel 2 17 (ready_dep hi (by kernel_rfl)) (by kernel_rfl)
        rw [hR.out] at r2_
        have r2 : a.tmps.getD 17 undef = .agg #[.int .i64 0, .int .i64 0, .int .i64 0, .int .i64 0, .int .i64 0, .int .i64 0, .int .i64 0, .string ⟨#[]⟩, .string ⟨#[]⟩, .int .i64 0, .int .i64 0, .int .i64 0, .int .i64 0, .int .i64 0, .int .i64 0] := r2_
        clear r2_
        refine wpOp_of rfl rfl (op_neq15 _ _ _ rfl ⟨kd, ds, vw, ⟨sq, cl, tg, ⟨k, nm, ot, at_, va, ep⟩⟩, s, rc, rv⟩ Mg.zero r1 r2 ?_)
        exact h.val 3 18 _ (by decide) (by decide) (by kernel_rfl) (of_decide_eq_true (by kernel_rfl)) (by kernel_rfl) (by kernel_rfl) (by rw [hR.out]; exact rfl)
      · have r4 : a.tmps.getD 4 undef = .pointer (some ⟨w.heap.size, 0, none⟩) := h.old 4 (by kernel_rfl)
        have r15_ := h.rel 0 15 (ready_dep hi (by kernel_rfl)) (by kernel_rfl)
        rw [hR.out] at r15_
        have r15 : a.tmps.getD 15 undef = .agg #[.int .i64 kd, .int .i64 ds, .int .i64 vw, .int .i64 sq, .int .i64 cl, .int .i64 tg, .int .i64 k, .string nm, .string ot, .int .i64 at_, .int .i64 va, .int .i64 ep, .int .i64 s, .int .i64 rc, .int .i64 rv] := r15_
        clear r15_
        have hx := h.wld
        rw [not_done hnot, hX.out] at hx
        have hx' : x = W4.drew := hx
        refine wpOp_of rfl rfl (op_store 38 4 15 rfl rfl w.heap.size r4 #[.int .i64 kd, .int .i64 ds, .int .i64 vw, .int .i64 sq, .int .i64 cl, .int .i64 tg, .int .i64 k, .string nm, .string ot, .int .i64 at_, .int .i64 va, .int .i64 ep, .int .i64 s, .int .i64 rc, .int .i64 rv] r15 #[.int .i64 0, .int .i64 0, .int .i64 0, .int .i64 0, .int .i64 0, .int .i64 0, .int .i64 0, .string ⟨#[]⟩, .string ⟨#[]⟩, .int .i64 0, .int .i64 0, .int .i64 0, .int .i64 0, .int .i64 0, .int .i64 0] 38 (by rw [hx']; exact kR) HI.out HS15.out H115.out ?_)
        exact h.sto (by decide) _ (by rw [hL]; exact of_decide_eq_true (by kernel_rfl)) (by kernel_rfl) (by rw [hX.out, hx']; rfl)
      · have r3_ := h.rel 3 18 (ready_dep hi (by kernel_rfl)) (by kernel_rfl)
        rw [hR.out] at r3_
        have r3 : a.tmps.getD 18 undef = .bool (!mgEq ⟨kd, ds, vw, ⟨sq, cl, tg, ⟨k, nm, ot, at_, va, ep⟩⟩, s, rc, rv⟩ Mg.zero) := r3_
        clear r3_
        refine wpOp_of rfl rfl (op_assign 18 rfl ?_)
        exact h.val 5 5 _ (by decide) (by decide) (by kernel_rfl) (of_decide_eq_true (by kernel_rfl)) (by kernel_rfl) (by kernel_rfl) (by rw [hR.out]; exact r3)
    · intro L a x hL hD hr h
      have hall := all_done hL hr (by kernel_rfl)
      have d5_ := h.rel 5 5 (hall 5 (of_decide_eq_true (by kernel_rfl))) (by kernel_rfl)
      rw [hR.out] at d5_
      have d5 : a.tmps.getD 5 undef = .bool (!mgEq ⟨kd, ds, vw, ⟨sq, cl, tg, ⟨k, nm, ot, at_, va, ep⟩⟩, s, rc, rv⟩ Mg.zero) := d5_
      clear d5_
      have hx := h.wld
      rw [hall 4 (of_decide_eq_true (by kernel_rfl)), hX.out] at hx
      have hx' : x = W4.drew.setRow w.heap.size #[.int .i64 kd, .int .i64 ds, .int .i64 vw, .int .i64 sq, .int .i64 cl, .int .i64 tg, .int .i64 k, .string nm, .string ot, .int .i64 at_, .int .i64 va, .int .i64 ep, .int .i64 s, .int .i64 rc, .int .i64 rv] := hx
      have hfr := h.frame [5, 15, 16, 17, 18] (by kernel_rfl)
      obtain ⟨f, hf⟩ : ∃ f : Nat → Value, (fun s => a.tmps.getD s undef) = f := ⟨_, rfl⟩
      rw [hf] at hfr
      have g5 : f 5 = .bool (!mgEq ⟨kd, ds, vw, ⟨sq, cl, tg, ⟨k, nm, ot, at_, va, ep⟩⟩, s, rc, rv⟩ Mg.zero) := by rw [← hf]; exact d5
      subst hfr
      simp only [Act.puts, g5, Act.put, List.setIfInBounds_toArray, List.set_cons_succ, List.set_cons_zero]
      generalize f 15 = u15
      generalize f 16 = u16
      generalize f 17 = u17
      generalize f 18 = u18
      clear h hall hx hr hD hL hXs hX hR hf g5 d5 f
      subst hx'
      go_wp2_with fail
      refine bodyPost_ret (v := .tuple #[.agg #[.int .i64 kd, .int .i64 ds, .int .i64 vw, .int .i64 sq, .int .i64 cl, .int .i64 tg, .int .i64 k, .string nm, .string ot, .int .i64 at_, .int .i64 va, .int .i64 ep, .int .i64 s, .int .i64 rc, .int .i64 rv], .bool (!mgEq ⟨kd, ds, vw, ⟨sq, cl, tg, ⟨k, nm, ot, at_, va, ep⟩⟩, s, rc, rv⟩ Mg.zero)]) ?_ rfl ⟨by rw [HLL.out, HMM.out]; rfl, hbS⟩
      simp [results, Try.results40, asAddr, HLD.out]
end Go.Proofs.Ytghhphhnalfjaaa

namespace Go.Proofs.Ytghhphhnalfjaaa
open Go.RowKit

set_option linter.unusedVariables false

set_option maxRecDepth 100000


/-- One operation waits for the next, and so on. -/
def pathB (md : Region.Mode) (ops : Array Oper) : Nat → List Nat → Bool
  | _, [] => true
  | p, i :: l => depB md ops p i && pathB md ops i l

theorem Down.path {md : Region.Mode} {ops : Array Oper} {L : Array Bool} (h : Down md ops L) : ∀ (l : List Nat) (p : Nat), pathB md ops p l = true → L.getD p false = true → L.getD (l.getLastD p) false = true
  | [], p, _, hp => hp
  | i :: l, p, hl, hp => by
    simp only [pathB, Bool.and_eq_true] at hl
    have := Down.path h l i hl.2 (h p i hp hl.1)
    rw [List.getLastD_cons]
    exact this

theorem Down.no {md : Region.Mode} {ops : Array Oper} {L : Array Bool} (h : Down md ops L) (p : Nat) (l : List Nat) {i : Nat} (hn : L.getD i true = false) (hp : pathB md ops p l = true) (hi : l.getLastD p = i) : L.getD p false = false := by
  rw [Bool.eq_false_iff]
  intro h1
  have h2 := h.path l p hp h1
  rw [hi] at h2
  have h3 := not_done hn
  rw [h2] at h3
  cases h3

/-- p: the store; sB, sV: the slots of its address and of its value. -/
structure RX (ops : Array Oper) (p sB sV : Nat) (R : Nat → Value → World → Prop) (a0 : Act) (W : World) (L : Array Bool) (a : Act) (x X : World) : Prop where
  df : a.defers = a0.defers
  sz : a.tmps.size = a0.tmps.size
  old : ∀ s, ops.toList.all (fun o => o.dst != some s) = true → a.tmps.getD s undef = a0.tmps.getD s undef
  rel : ∀ j s, L.getD j false = true → ((ops[j]?).bind (·.dst)) = some s → R j (a.tmps.getD s undef) X
  bel : Below W.heap.size W X
  pre : L.getD p false = false → x = X
  fin : L.getD p false = true → ∃ n zs, a.tmps.getD sB undef = .pointer (some ⟨n, 0, none⟩) ∧ a.tmps.getD sV undef = .agg zs ∧ x = X.setRow n zs

def RXs (ops : Array Oper) (p sB sV : Nat) (R : Nat → Value → World → Prop) (a0 : Act) (W : World) (L : Array Bool) (a : Act) (x : World) : Prop := ∃ X, RX ops p sB sV R a0 W L a x X

theorem RXs.start (ops : Array Oper) (p sB sV : Nat) (R : Nat → Value → World → Prop) (a0 : Act) (W : World) : RXs ops p sB sV R a0 W (Array.replicate ops.size false) a0 W.drew := by
  have hn : ∀ j, (Array.replicate ops.size false).getD j false = false := fun j => by
    rw [Array.getD_eq_getD_getElem?, Array.getElem?_replicate]
    split <;> rfl
  exact ⟨W.drew, rfl, rfl, fun _ _ => rfl, (fun j s h => by rw [hn] at h; cases h), bw_drew (Below.refl _ _), fun _ => rfl, (fun h => by rw [hn] at h; cases h)⟩

/-- An operation ahead of the store: it answers, and may make memory. -/
theorem RX.val {ops : Array Oper} {p sB sV : Nat} {R : Nat → Value → World → Prop} {a0 : Act} {W : World} {L : Array Bool} {a : Act} {x X : World} (h : RX ops p sB sV R a0 W L a x X) (i s : Nat) (v : Value) (x' : World) (hp : i ≠ p) (hi : ((ops[i]?).bind (·.dst)) = some s) (hs : s < a0.tmps.size) (hd : (ops.toList.all (fun o => o.dst != some s)) = false) (hu : uniqB ops s i = true)
    (hn : L.getD p false = false) (hb : Below x.heap.size x x') (hv : R i v x') (hm : ∀ j u, R j u x → R j u x') : RXs ops p sB sV R a0 W (L.setIfInBounds i true) (a.put (some s) v) x' := by
  obtain rfl := h.pre hn
  refine ⟨x', h.df, by show (a.tmps.setIfInBounds s v).size = _; rw [Array.size_setIfInBounds]; exact h.sz, fun r hr => ?_, fun j r hj hr => ?_, bw_call h.bel hb, fun _ => rfl, fun hl => by rw [getD_other hp, hn] at hl; cases hl⟩
  · have hne : s ≠ r := fun e => by subst e; rw [hd] at hr; cases hr
    exact (tmps_other v hne).trans (h.old r hr)
  · show R j ((a.tmps.setIfInBounds s v).getD r undef) x'
    by_cases e : i = j
    · subst e
      rw [hi] at hr
      cases hr
      rw [tmps_self v (by rw [h.sz]; exact hs)]
      exact hv
    · have hne : s ≠ r := fun e2 => by subst e2; exact e (uniq_of hu j hr).symm
      rw [tmps_other v hne]
      rw [getD_other e] at hj
      exact hm _ _ (h.rel j r hj hr)

/-- An operation that answers and makes nothing, ahead of the store or behind it. -/
theorem RX.put {ops : Array Oper} {p sB sV : Nat} {R : Nat → Value → World → Prop} {a0 : Act} {W : World} {L : Array Bool} {a : Act} {x X : World} (h : RX ops p sB sV R a0 W L a x X) (i s : Nat) (v : Value) (hp : i ≠ p) (hi : ((ops[i]?).bind (·.dst)) = some s) (hs : s < a0.tmps.size) (hd : (ops.toList.all (fun o => o.dst != some s)) = false) (hu : uniqB ops s i = true)
    (hB : s ≠ sB) (hV : s ≠ sV) (hv : R i v X) : RXs ops p sB sV R a0 W (L.setIfInBounds i true) (a.put (some s) v) x := by
  refine ⟨X, h.df, by show (a.tmps.setIfInBounds s v).size = _; rw [Array.size_setIfInBounds]; exact h.sz, fun r hr => ?_, fun j r hj hr => ?_, h.bel, fun hl => h.pre (by rwa [getD_other hp] at hl), fun hl => ?_⟩
  · have hne : s ≠ r := fun e => by subst e; rw [hd] at hr; cases hr
    exact (tmps_other v hne).trans (h.old r hr)
  · show R j ((a.tmps.setIfInBounds s v).getD r undef) X
    by_cases e : i = j
    · subst e
      rw [hi] at hr
      cases hr
      rw [tmps_self v (by rw [h.sz]; exact hs)]
      exact hv
    · have hne : s ≠ r := fun e2 => by subst e2; exact e (uniq_of hu j hr).symm
      rw [tmps_other v hne]
      rw [getD_other e] at hj
      exact h.rel j r hj hr
  · rw [getD_other hp] at hl
    obtain ⟨n, zs, e1, e2, e3⟩ := h.fin hl
    exact ⟨n, zs, (tmps_other v hB).trans e1, (tmps_other v hV).trans e2, e3⟩

theorem RX.store {ops : Array Oper} {p sB sV : Nat} {R : Nat → Value → World → Prop} {a0 : Act} {W : World} {L : Array Bool} {a : Act} {x X : World} (h : RX ops p sB sV R a0 W L a x X) (hp : p < L.size) (hn : L.getD p false = false) (hd : ((ops[p]?).bind (·.dst)) = none) {n : Nat} {zs : Array Value} (hB : a.tmps.getD sB undef = .pointer (some ⟨n, 0, none⟩)) (hV : a.tmps.getD sV undef = .agg zs) : RXs ops p sB sV R a0 W (L.setIfInBounds p true) a (x.setRow n zs) := by
  obtain rfl := h.pre hn
  refine ⟨x, h.df, h.sz, h.old, fun j r hj hr => ?_, h.bel, fun hl => ?_, fun _ => ⟨n, zs, hB, hV, rfl⟩⟩
  · by_cases e : p = j
    · subst e; rw [hd] at hr; cases hr
    · rw [getD_other e] at hj
      exact h.rel j r hj hr
  · rw [getD_self hp] at hl; cases hl

theorem RX.frame {ops : Array Oper} {p sB sV : Nat} {R : Nat → Value → World → Prop} {a0 : Act} {W : World} {L : Array Bool} {a : Act} {x X : World} (h : RX ops p sB sV R a0 W L a x X) (S : List Nat) (hS : frameB ops S a0.tmps.size = true) : a = Act.puts a0 (fun s => a.tmps.getD s undef) S := by
  have hd : a.defers = (Act.puts a0 (fun s => a.tmps.getD s undef) S).defers := by rw [puts_defers]; exact h.df
  have ht : a.tmps = (Act.puts a0 (fun s => a.tmps.getD s undef) S).tmps := by
    refine arr_ext (by rw [puts_size]; exact h.sz) (fun r hr => ?_)
    rw [puts_at _ S a0 r (by rw [← h.sz]; exact hr)]
    by_cases hm : r ∈ S
    · rw [if_pos hm]
    · rw [if_neg hm]
      exact h.old r (frame_of hS r (by rw [← h.sz]; exact hr) hm)
  generalize Act.puts a0 (fun s => a.tmps.getD s undef) S = b at hd ht
  cases a
  cases b
  simp only at hd ht
  rw [hd, ht]
end Go.Proofs.Ytghhphhnalfjaaa

namespace Go.Proofs.Ytghhphhnalfjaaa
open Go.RowKit

set_option linter.unusedVariables false

set_option maxRecDepth 100000


section
variable {P : Program} {Q : Exit → Act → World → Prop} {o : Oper} {K : Act → World → Prop} {a : Act} {x : World}
theorem op_lookup (t : TypeId) (m y : Tmp) (ho : o.op = .lookup t (.tmp m) (.tmp y) false) (vm vy : Value) (hm : a.tmps.getD m undef = vm) (hy : a.tmps.getD y undef = vy) (v : Value) (hr : (Instr.lookup t vm vy false).run P x = .ok v x) (h : K (a.put o.dst v) x) : o.wp P a x K Q := by
  have hm' : a.eval (.tmp m) = vm := hm
  have hy' : a.eval (.tmp y) = vy := hy
  unfold Oper.wp execOp
  simp only [ho, hm', hy', Sem.run_bind, Sem.run_pure, Result.andThen_ok, hr]
  exact h

theorem op_entry (t : TypeId) (m y : Tmp) (ho : o.op = .mapEntry t (.tmp m) (.tmp y)) (vm vy : Value) (hm : a.tmps.getD m undef = vm) (hy : a.tmps.getD y undef = vy) (v : Value) (x' : World) (hr : (Instr.mapEntry t vm vy).run P x = .ok v x') (h : K (a.put o.dst v) x') : o.wp P a x K Q := by
  have hm' : a.eval (.tmp m) = vm := hm
  have hy' : a.eval (.tmp y) = vy := hy
  unfold Oper.wp execOp
  simp only [ho, hm', hy', Sem.run_bind, Sem.run_pure, Result.andThen_ok, hr]
  exact h

theorem op_estore (t : TypeId) (m s y : Tmp) (ho : o.op = .entryStore t (.tmp m) (.tmp s) (.tmp y)) (hdst : o.dst = none) (vm vs vy : Value) (hm : a.tmps.getD m undef = vm) (hs : a.tmps.getD s undef = vs) (hy : a.tmps.getD y undef = vy) (x' : World) (hr : (Instr.entryStore t vm vs vy).run P x = .ok () x') (h : K a x') : o.wp P a x K Q := by
  have hm' : a.eval (.tmp m) = vm := hm
  have hs' : a.eval (.tmp s) = vs := hs
  have hy' : a.eval (.tmp y) = vy := hy
  unfold Oper.wp execOp
  simp only [ho, hm', hs', hy', Sem.run_bind, Sem.run_pure, Result.andThen_ok, hr]
  show K (a.put o.dst undef) x'
  rw [hdst]
  exact h

end
section
variable {Q : Exit → Act → World → Prop} {o : Oper} {K : Act → World → Prop} {a : Act} {x : World}
theorem op_bits {op : BinOp} (hop : op = .or ∨ op = .andNot) (m y : Tmp) (tt : TypeId) (ho : o.op = .binOp op 107 (.tmp m) (.tmp y) tt) (c z d : Int) (hm : a.tmps.getD m undef = .int .u64 c) (hy : a.tmps.getD y undef = .int .u64 z) (hd : bits op .u64 c z = d) (h : K (a.put o.dst (.int .u64 d)) x) : o.wp Try.prog a x K Q := by
  have hm' : a.eval (.tmp m) = .int .u64 c := hm
  have hy' : a.eval (.tmp y) = .int .u64 z := hy
  have hb : (do eqGuard op 107 (.tmp m) (.tmp y) (.int .u64 c) (.int .u64 z); binOp op 107 (.int .u64 c) (.int .u64 z) : Sem Value).run Try.prog x = .ok (.int .u64 d) x := by
    rw [← hd]
    rcases hop with rfl | rfl <;> simp [eqGuard, binOp, Op.intBits, bits]
  unfold Oper.wp execOp
  simp only [ho, hm', hy', Sem.run_bind, Sem.run_pure, Result.andThen_ok, hb]
  exact h

theorem op_andNot {m y : Tmp} {tt : TypeId} (ho : o.op = .binOp .andNot 107 (.tmp m) (.tmp y) tt := by rfl) (c q : Nat) (hc : c < 2 ^ 64) (hq : q < 64) (hm : a.tmps.getD m undef = .int .u64 (c : Int)) (hy : a.tmps.getD y undef = .int .u64 ((2 ^ q : Nat) : Int)) (h : K (a.put o.dst (.int .u64 ((clr c q : Nat) : Int))) x) : o.wp Try.prog a x K Q :=
  op_bits (.inr rfl) m y tt ho _ _ _ hm hy (andNot15 c q) h

theorem op_or {m y : Tmp} {tt : TypeId} (ho : o.op = .binOp .or 107 (.tmp m) (.tmp y) tt := by rfl) (c q : Nat) (hc : c < 2 ^ 64) (hq : q < 64) (hm : a.tmps.getD m undef = .int .u64 (c : Int)) (hy : a.tmps.getD y undef = .int .u64 ((2 ^ q : Nat) : Int)) (h : K (a.put o.dst (.int .u64 ((c ||| 2 ^ q : Nat) : Int))) x) : o.wp Try.prog a x K Q :=
  op_bits (.inl rfl) m y tt ho _ _ _ hm hy (or15 hc hq) h

end

set_option maxHeartbeats 3200000 in
theorem takeOut_any (b n : Nat) (f : Nat → Option Mg) (kd ds vw sq cl tg k : Int) (nm ot : ByteArray) (at_ va ep s rc rv : Int) (q : Nat) (w : World) (TB : BagW w b n f) (hn : n < maxLen) (hf : FitMsg ⟨kd, ds, vw, ⟨sq, cl, tg, ⟨k, nm, ot, at_, va, ep⟩⟩, s, rc, rv⟩) (hq : q < 60) (hfq : f q = some ⟨kd, ds, vw, ⟨sq, cl, tg, ⟨k, nm, ot, at_, va, ep⟩⟩, s, rc, rv⟩) :
    Calls Try.prog 41 #[.map (some b), .agg #[.int .i64 kd, .int .i64 ds, .int .i64 vw, .int .i64 sq, .int .i64 cl, .int .i64 tg, .int .i64 k, .string nm, .string ot, .int .i64 at_, .int .i64 va, .int .i64 ep, .int .i64 s, .int .i64 rc, .int .i64 rv], .int .i64 (q : Int)] w fun e w' => e = .returned (.tuple #[]) ∧ BagW w' b (n + 1) (upd f q none) ∧ w.grownBy w' (some b) := by
  obtain ⟨kl, hkm⟩ := key_of hf
  have hbw := TB.lt
  obtain ⟨D0, own0, hB⟩ := TB.ex
  clear TB
  obtain ⟨c, hc, hmask⟩ := hB.at_ _ kl hkm
  have hc64 := hmask.1
  obtain ⟨W, hW⟩ : ∃ W, w.alloc (.cells #[.int .i64 kd, .int .i64 ds, .int .i64 vw, .int .i64 sq, .int .i64 cl, .int .i64 tg, .int .i64 k, .string nm, .string ot, .int .i64 at_, .int .i64 va, .int .i64 ep, .int .i64 s, .int .i64 rc, .int .i64 rv] 38) = W := ⟨_, rfl⟩
  have HW : Hid (w.alloc (.cells #[.int .i64 kd, .int .i64 ds, .int .i64 vw, .int .i64 sq, .int .i64 cl, .int .i64 tg, .int .i64 k, .string nm, .string ot, .int .i64 at_, .int .i64 va, .int .i64 ep, .int .i64 s, .int .i64 rc, .int .i64 rv] 38) = W) := hW
  have dW : Below w.heap.size w W := by rw [← hW]; exact bw_alloc (Below.refl _ _)
  have kC : W.heap[w.heap.size]? = some (.cells #[.int .i64 kd, .int .i64 ds, .int .i64 vw, .int .i64 sq, .int .i64 cl, .int .i64 tg, .int .i64 k, .string nm, .string ot, .int .i64 at_, .int .i64 va, .int .i64 ep, .int .i64 s, .int .i64 rc, .int .i64 rv] 38 (0, 0)) := by rw [← hW]; exact heap_alloc_new w _
  have own := map_of_block own0 (dW.block b hbw)
  have hnb : w.heap.size ≠ b := by omega
  clear hW own0
  obtain ⟨st, wE, u, hE, uE, hlE, hS0⟩ := bag_entry (w := W.drew) (show W.drew.ownsMap Try.prog 38 bagR b n D0 from own) hn hkm hc
  obtain ⟨wS, hSt, oS, uS⟩ := hS0 (clr c q) (clr_lt c q)
  obtain ⟨c', hl0, hat, -⟩ := World.ownsMap.lookup_int (w := W.drew) (show W.drew.ownsMap Try.prog 38 bagR b n D0 from own) bagKeys Try.underlying68 Try.underlying107 (bagZero _) hkm
  have hcc : c' = (c : Int) := by
    have e := hat.symm.trans hc
    simpa [setD] using e
  subst hcc
  simp only [mgV] at hE hlE hl0
  clear hS0 hat
  have HI : Hid ((Try.prog.info? 38).map (·.size) = some (#[.int .i64 kd, .int .i64 ds, .int .i64 vw, .int .i64 sq, .int .i64 cl, .int .i64 tg, .int .i64 k, .string nm, .string ot, .int .i64 at_, .int .i64 va, .int .i64 ep, .int .i64 s, .int .i64 rc, .int .i64 rv] : Array Value).size) := sizeMsg15
  obtain ⟨X, hX0⟩ : ∃ X : Bool → Bool → World, X = fun b1 b2 => if b2 = true then wS else if b1 = true then wE else W.drew := ⟨_, rfl⟩
  have hXs : X false false = W.drew := by rw [hX0]; rfl
  have hXC : ∀ b1 b2, (X b1 b2).heap[w.heap.size]? = some (.cells #[.int .i64 kd, .int .i64 ds, .int .i64 vw, .int .i64 sq, .int .i64 cl, .int .i64 tg, .int .i64 k, .string nm, .string ot, .int .i64 at_, .int .i64 va, .int .i64 ep, .int .i64 s, .int .i64 rc, .int .i64 rv] 38 (0, 0)) := fun b1 b2 => by
    rw [hX0]
    cases b2
    · cases b1
      · exact kC
      · exact (uE.block w.heap.size (heap_lt kC) hnb).trans kC
    · exact (uS.block w.heap.size (heap_lt kC) hnb).trans kC
  have hXl : ∀ b1, (Instr.lookup 68 (.map (some (b))) (.agg #[.int .i64 kd, .int .i64 ds, .int .i64 vw, .int .i64 sq, .int .i64 cl, .int .i64 tg, .int .i64 k, .string nm, .string ot, .int .i64 at_, .int .i64 va, .int .i64 ep, .int .i64 s, .int .i64 rc, .int .i64 rv]) false).run Try.prog (X b1 false) = .ok (.int .u64 (c : Int)) (X b1 false) := fun b1 => by
    rw [hX0]
    cases b1
    · exact hl0
    · exact hlE
  have hX : Hid _ := hX0
  have HE : Hid _ := hE
  have HST : Hid _ := hSt
  have HXL : Hid _ := hXl
  have HXC : Hid _ := hXC
  clear hX0 hE hSt hXl hXC hlE hl0
  have HO : Hid (BagW wS b (n + 1) (upd f q none)) := ⟨_, oS, hB.drop hq hf hfq hkm hc⟩
  have HG : Hid (w.grownBy wS (some b)) := ⟨uS.os.trans dW.os, uS.tape.trans dW.tape, uS.output.trans dW.output, Nat.le_trans dW.size uS.size, fun i hi hne => (uS.block i (Nat.lt_of_lt_of_le hi dW.size) (fun e => hne (by rw [e]))).trans (dW.block i hi)⟩
  clear oS uS uE own hB
  go_enter Try.func41, Try.ntmps41
  go_upto_region 1 with fail
  rw [HW.out]
  obtain ⟨R, hR0⟩ : ∃ R : Nat → Value → Prop, R = fun j v => match j with
    | 0 => v = .map (some (b))
    | 1 => v = .agg #[.int .i64 kd, .int .i64 ds, .int .i64 vw, .int .i64 sq, .int .i64 cl, .int .i64 tg, .int .i64 k, .string nm, .string ot, .int .i64 at_, .int .i64 va, .int .i64 ep, .int .i64 s, .int .i64 rc, .int .i64 rv]
    | 2 => v = .int .u64 (c : Int)
    | 3 => v = .int .i64 (q : Int)
    | 4 => v = .int .u64 ((2 ^ q : Nat) : Int)
    | 5 => v = .int .u64 ((clr c q : Nat) : Int)
    | 6 => v = .tuple #[u, goInt st]
    | 7 => v = goInt st
    | 8 => True
    | _ => True := ⟨_, rfl⟩
  have hR : Hid _ := hR0
  clear hR0
  refine wp_region_inv (I := RB _ 6 8 R _ X) (by kernel_rfl) (by rw [← hXs]; exact RB.start _ 6 8 R _ X) ?_ ?_
  · intro L a x i hL hD hi h
    have hin : i < 9 := (ready_mem hi).1
    have hnot := (ready_mem hi).2.1
    have hc : i = 0 ∨ i = 1 ∨ i = 2 ∨ i = 3 ∨ i = 4 ∨ i = 5 ∨ i = 6 ∨ i = 7 ∨ i = 8 := by omega
    rcases hc with rfl | rfl | rfl | rfl | rfl | rfl | rfl | rfl | rfl
    · have r : a.tmps.getD 0 undef = .map (some (b)) := h.old 0 (by kernel_rfl)
      refine wpOp_of rfl rfl (op_move 0 rfl ?_)
      exact h.val 0 6 _ (by decide) (by decide) (by kernel_rfl) (of_decide_eq_true (by kernel_rfl)) (by kernel_rfl) (by kernel_rfl) (by rw [hR.out]; exact r)
    · have r : a.tmps.getD 4 undef = .pointer (some ⟨w.heap.size, 0, none⟩) := h.old 4 (by kernel_rfl)
      refine wpOp_of rfl rfl (op_load 38 4 rfl w.heap.size r #[.int .i64 kd, .int .i64 ds, .int .i64 vw, .int .i64 sq, .int .i64 cl, .int .i64 tg, .int .i64 k, .string nm, .string ot, .int .i64 at_, .int .i64 va, .int .i64 ep, .int .i64 s, .int .i64 rc, .int .i64 rv] 38 (0, 0) (by rw [h.wld]; exact HXC.out _ _) _ Try.underlying38 rfl HI.out ?_)
      exact h.val 1 7 _ (by decide) (by decide) (by kernel_rfl) (of_decide_eq_true (by kernel_rfl)) (by kernel_rfl) (by kernel_rfl) (by rw [hR.out]; exact rfl)
    · have r0_ := h.rel 0 6 (ready_dep hi (by kernel_rfl)) (by kernel_rfl)
      rw [hR.out] at r0_
      have r0 : a.tmps.getD 6 undef = .map (some (b)) := r0_
      clear r0_
      have r1_ := h.rel 1 7 (ready_dep hi (by kernel_rfl)) (by kernel_rfl)
      rw [hR.out] at r1_
      have r1 : a.tmps.getD 7 undef = .agg #[.int .i64 kd, .int .i64 ds, .int .i64 vw, .int .i64 sq, .int .i64 cl, .int .i64 tg, .int .i64 k, .string nm, .string ot, .int .i64 at_, .int .i64 va, .int .i64 ep, .int .i64 s, .int .i64 rc, .int .i64 rv] := r1_
      clear r1_
      have hn' : L.getD 8 false = false := hD.no 8 [5, 2] hnot (by kernel_rfl) rfl
      have hx := h.wld
      rw [hn'] at hx
      refine wpOp_of rfl rfl (op_lookup 68 6 7 rfl _ _ r0 r1 (.int .u64 (c : Int)) (by rw [hx]; exact HXL.out _) ?_)
      exact h.val 2 8 _ (by decide) (by decide) (by kernel_rfl) (of_decide_eq_true (by kernel_rfl)) (by kernel_rfl) (by kernel_rfl) (by rw [hR.out]; exact rfl)
    · have r : a.tmps.getD 2 undef = .int .i64 (q : Int) := h.old 2 (by kernel_rfl)
      refine wpOp_of rfl rfl (op_move 2 rfl ?_)
      exact h.val 3 9 _ (by decide) (by decide) (by kernel_rfl) (of_decide_eq_true (by kernel_rfl)) (by kernel_rfl) (by kernel_rfl) (by rw [hR.out]; exact r)
    · have r_ := h.rel 3 9 (ready_dep hi (by kernel_rfl)) (by kernel_rfl)
      rw [hR.out] at r_
      have r : a.tmps.getD 9 undef = .int .i64 (q : Int) := r_
      clear r_
      have r' : a.tmps[9]?.getD undef = .int .i64 (q : Int) := by rw [← Array.getD_eq_getD_getElem?]; exact r
      refine wpOp_of rfl rfl ?_
      unfold Oper.wp
      go_simp
      go_at_call 75
      refine (onlyPlace_any q (by omega) _).mono ?_
      rintro e w' ⟨rfl, rfl⟩
      exact h.val 4 10 _ (by decide) (by decide) (by kernel_rfl) (of_decide_eq_true (by kernel_rfl)) (by kernel_rfl) (by kernel_rfl) (by rw [hR.out]; exact rfl)
    · have r2_ := h.rel 2 8 (ready_dep hi (by kernel_rfl)) (by kernel_rfl)
      rw [hR.out] at r2_
      have r2 : a.tmps.getD 8 undef = .int .u64 (c : Int) := r2_
      clear r2_
      have r4_ := h.rel 4 10 (ready_dep hi (by kernel_rfl)) (by kernel_rfl)
      rw [hR.out] at r4_
      have r4 : a.tmps.getD 10 undef = .int .u64 ((2 ^ q : Nat) : Int) := r4_
      clear r4_
      refine wpOp_of rfl rfl (op_andNot rfl c q (by omega) (by omega) r2 r4 ?_)
      exact h.val 5 11 _ (by decide) (by decide) (by kernel_rfl) (of_decide_eq_true (by kernel_rfl)) (by kernel_rfl) (by kernel_rfl) (by rw [hR.out]; exact rfl)
    · have r0_ := h.rel 0 6 (ready_dep hi (by kernel_rfl)) (by kernel_rfl)
      rw [hR.out] at r0_
      have r0 : a.tmps.getD 6 undef = .map (some (b)) := r0_
      clear r0_
      have r1_ := h.rel 1 7 (ready_dep hi (by kernel_rfl)) (by kernel_rfl)
      rw [hR.out] at r1_
      have r1 : a.tmps.getD 7 undef = .agg #[.int .i64 kd, .int .i64 ds, .int .i64 vw, .int .i64 sq, .int .i64 cl, .int .i64 tg, .int .i64 k, .string nm, .string ot, .int .i64 at_, .int .i64 va, .int .i64 ep, .int .i64 s, .int .i64 rc, .int .i64 rv] := r1_
      clear r1_
      have hn' : L.getD 6 false = false := not_done hnot
      have hn2 : L.getD 8 false = false := hD.no 8 [7, 6] hnot (by kernel_rfl) rfl
      have hx := h.wld
      rw [hn', hn2] at hx
      refine wpOp_of rfl rfl (op_entry 68 6 7 rfl _ _ r0 r1 (.tuple #[u, goInt st]) wE (by rw [hx, hXs]; exact HE.out) ?_)
      exact h.ent (by decide) 12 _ _ (by rw [hL]; exact of_decide_eq_true (by kernel_rfl)) (by kernel_rfl) (of_decide_eq_true (by kernel_rfl)) (by kernel_rfl) (by kernel_rfl) (by rw [hn2, hX.out]; rfl) (by rw [hR.out]; exact rfl)
    · have r_ := h.rel 6 12 (ready_dep hi (by kernel_rfl)) (by kernel_rfl)
      rw [hR.out] at r_
      have r : a.tmps.getD 12 undef = .tuple #[u, goInt st] := r_
      clear r_
      have r' : a.tmps[12]?.getD undef = .tuple #[u, goInt st] := by rw [← Array.getD_eq_getD_getElem?]; exact r
      refine wpOp_of rfl rfl ?_
      unfold Oper.wp
      go_simp
      exact h.val 7 13 _ (by decide) (by decide) (by kernel_rfl) (of_decide_eq_true (by kernel_rfl)) (by kernel_rfl) (by kernel_rfl) (by rw [hR.out]; exact rfl)
    · have r0_ := h.rel 0 6 (ready_dep hi (by kernel_rfl)) (by kernel_rfl)
      rw [hR.out] at r0_
      have r0 : a.tmps.getD 6 undef = .map (some (b)) := r0_
      clear r0_
      have r7_ := h.rel 7 13 (ready_dep hi (by kernel_rfl)) (by kernel_rfl)
      rw [hR.out] at r7_
      have r7 : a.tmps.getD 13 undef = goInt st := r7_
      clear r7_
      have r5_ := h.rel 5 11 (ready_dep hi (by kernel_rfl)) (by kernel_rfl)
      rw [hR.out] at r5_
      have r5 : a.tmps.getD 11 undef = .int .u64 ((clr c q : Nat) : Int) := r5_
      clear r5_
      have hd6 : L.getD 6 false = true := by
        have h7 := ready_dep hi (show depB _ _ 8 7 = true by kernel_rfl)
        exact hD 7 6 h7 (by kernel_rfl)
      have hn2 : L.getD 8 false = false := not_done hnot
      have hx := h.wld
      rw [hd6, hn2, hX.out] at hx
      have hx' : x = wE := hx
      refine wpOp_of rfl rfl (op_estore 68 6 13 11 rfl rfl _ _ _ r0 r7 r5 wS (by rw [hx']; exact HST.out) ?_)
      exact h.sto (by decide) _ (by rw [hL]; exact of_decide_eq_true (by kernel_rfl)) (by kernel_rfl) (by rw [hX.out]; rfl)
  · intro L a x hL hD hr h
    have hall := all_done hL hr (by kernel_rfl)
    have hx := h.wld
    rw [hall 8 (of_decide_eq_true (by kernel_rfl)), hX.out] at hx
    have hx' : x = wS := hx
    have hfr := h.frame [6, 7, 8, 9, 10, 11, 12, 13] (by kernel_rfl)
    obtain ⟨f, hf⟩ : ∃ f : Nat → Value, (fun s => a.tmps.getD s undef) = f := ⟨_, rfl⟩
    rw [hf] at hfr
    subst hfr
    simp only [Act.puts, Act.put, List.setIfInBounds_toArray, List.set_cons_succ, List.set_cons_zero]
    generalize f 6 = u6
    generalize f 7 = u7
    generalize f 8 = u8
    generalize f 9 = u9
    generalize f 10 = u10
    generalize f 11 = u11
    generalize f 12 = u12
    generalize f 13 = u13
    clear h hall hx hr hD hL hXs hX hR hf  f
    subst hx'
    go_wp2_with fail
    go_end0
    exact ⟨rfl, HO.out, HG.out⟩
end Go.Proofs.Ytghhphhnalfjaaa

namespace Go.Proofs.Ytghhphhnalfjaaa
open Go.RowKit

set_option linter.unusedVariables false

set_option maxRecDepth 100000


set_option maxHeartbeats 1600000 in
theorem growM_any (n : Nat) (hn : n ≤ 60) (w : World) :
    Calls Try.prog 96 #[.slice none 0 0, .int .i64 n] w fun e w' => ∃ v : Value, e = .returned v ∧ w'.ownsRow w.heap.size 38 15 v 0 [] ∧ Below w.heap.size w w' := by
  obtain ⟨i0, hi, hz0, hz1, hz2⟩ := info_parts Try.infoMsg
  have h1 : ¬ ((n : Int) < 0) := by omega
  rcases Nat.eq_zero_or_pos n with h0 | hpos
  · subst h0
    go_enter Try.func96, Try.ntmps96
    go_wp2_with fail
    go_ret
    exact ⟨_, rfl, World.ownsRow_nil _ _ _ _, Below.refl _ _⟩
  · have h2 : (0 : Int) < (n : Int) := by omega
    have hrz : ∀ ty, (Builtin.append_ #[24, 3] ty #[.slice none 0 0, .int .i64 (n : Int)]).run Try.prog w = .ok (.slice (some ⟨w.heap.size, 0, none⟩) n (grownCap w n 0 38)) (w.drew.alloc (.cells (Builtin.zeroCells (Value.agg #[.int .i64 0, .int .i64 0, .int .i64 0, .int .i64 0, .int .i64 0, .int .i64 0, .int .i64 0, .string ByteArray.empty, .string ByteArray.empty, .int .i64 0, .int .i64 0, .int .i64 0, .int .i64 0, .int .i64 0, .int .i64 0]).cells n ++ Builtin.zeroCells (Value.agg #[.int .i64 0, .int .i64 0, .int .i64 0, .int .i64 0, .int .i64 0, .int .i64 0, .int .i64 0, .string ByteArray.empty, .string ByteArray.empty, .int .i64 0, .int .i64 0, .int .i64 0, .int .i64 0, .int .i64 0, .int .i64 0]).cells (grownCap w n 0 38 - n)) 38)) := fun ty =>
      Lib.run_append_nil_zeros w 24 3 ty 38 i0 _ .i64 .i64 Try.underlying24 Try.underlying3 hi hz0 n hpos (by rw [hz1]; omega) (by omega) (by rw [hz2]; omega)
    have hG1 := grownCap_ge w n 0 38
    have hG2 := grownCap_le_maxLen w n 0 38 (by unfold maxLen; omega)
    generalize grownCap w n 0 38 = G at hrz hG1 hG2
    have hown := World.ownsRow_made (base := w.heap.size) (e := 38) (size := 15) w.drew (Builtin.zeroCells (Value.agg #[.int .i64 0, .int .i64 0, .int .i64 0, .int .i64 0, .int .i64 0, .int .i64 0, .int .i64 0, .string ByteArray.empty, .string ByteArray.empty, .int .i64 0, .int .i64 0, .int .i64 0, .int .i64 0, .int .i64 0, .int .i64 0]).cells n ++ Builtin.zeroCells (Value.agg #[.int .i64 0, .int .i64 0, .int .i64 0, .int .i64 0, .int .i64 0, .int .i64 0, .int .i64 0, .string ByteArray.empty, .string ByteArray.empty, .int .i64 0, .int .i64 0, .int .i64 0, .int .i64 0, .int .i64 0, .int .i64 0]).cells (G - n)) G (Nat.le_refl _) hG2 (by
      rw [Array.size_append, size_zeroCells, size_zeroCells]
      show n * 15 + (G - n) * 15 = G * 15
      omega)
    have hb : Below w.heap.size w (w.drew.alloc (.cells (Builtin.zeroCells (Value.agg #[.int .i64 0, .int .i64 0, .int .i64 0, .int .i64 0, .int .i64 0, .int .i64 0, .int .i64 0, .string ByteArray.empty, .string ByteArray.empty, .int .i64 0, .int .i64 0, .int .i64 0, .int .i64 0, .int .i64 0, .int .i64 0]).cells n ++ Builtin.zeroCells (Value.agg #[.int .i64 0, .int .i64 0, .int .i64 0, .int .i64 0, .int .i64 0, .int .i64 0, .int .i64 0, .string ByteArray.empty, .string ByteArray.empty, .int .i64 0, .int .i64 0, .int .i64 0, .int .i64 0, .int .i64 0, .int .i64 0]).cells (G - n)) 38)) := bw_alloc (bw_drew (Below.refl _ _))
    obtain ⟨M, hM⟩ : ∃ M, M = Builtin.zeroCells (Value.agg #[.int .i64 0, .int .i64 0, .int .i64 0, .int .i64 0, .int .i64 0, .int .i64 0, .int .i64 0, .string ByteArray.empty, .string ByteArray.empty, .int .i64 0, .int .i64 0, .int .i64 0, .int .i64 0, .int .i64 0, .int .i64 0]).cells n ++ Builtin.zeroCells (Value.agg #[.int .i64 0, .int .i64 0, .int .i64 0, .int .i64 0, .int .i64 0, .int .i64 0, .int .i64 0, .string ByteArray.empty, .string ByteArray.empty, .int .i64 0, .int .i64 0, .int .i64 0, .int .i64 0, .int .i64 0, .int .i64 0]).cells (G - n) := ⟨_, rfl⟩
    rw [← hM] at hown hb
    simp only [← hM] at hrz
    clear hM
    have HO : Hid _ := And.intro hown hb
    clear hown hb
    unfold maxLen at hG2
    go_enter Try.func96, Try.ntmps96
    go_wp2_with (at_builtin; refine Lib.wpList_append_run _ rfl _ _ _ _ rfl _ _ rfl rfl _ _ (hrz _) ?_)
    all_goals
      go_ret
      exact ⟨_, rfl, HO.out.1, HO.out.2⟩

/-- Some rows of letters, one behind the other in a block of slices. -/
structure Lists (B : Nat) (w : World) (c : Nat) (ls : List (Value × List Mg)) : Prop where
  at_ : ∀ i x, ls[i]? = some x → w.cell? ⟨c, i, none⟩ = some x.1 ∧ ReadsR 15 mgC B w x.1 x.2 ∧ c < B

theorem Lists.below {B : Nat} {w w' : World} {c : Nat} {ls : List (Value × List Mg)} (h : Lists B w c ls) (k : Below B w w') : Lists B w' c ls :=
  ⟨fun i x hx => by
    obtain ⟨h1, h2, h3⟩ := h.at_ i x hx
    exact ⟨(k.cell (p := ⟨c, i, none⟩) h3).trans h1, h2.below k, h3⟩⟩

theorem Lists.mono {B B' : Nat} {w : World} {c : Nat} {ls : List (Value × List Mg)} (h : Lists B w c ls) (k : B ≤ B') : Lists B' w c ls :=
  ⟨fun i x hx => by
    obtain ⟨h1, h2, h3⟩ := h.at_ i x hx
    exact ⟨h1, h2.mono k, Nat.lt_of_lt_of_le h3 k⟩⟩

def catL (ls : List (Value × List Mg)) : List Mg := ls.flatMap (·.2)

theorem cat_step (ls : List (Value × List Mg)) (k : Nat) (x : Value × List Mg) (h : ls[k]? = some x) : catL (ls.take (k + 1)) = catL (ls.take k) ++ x.2 := by
  unfold catL
  rw [List.take_add_one, h, List.flatMap_append]
  simp

theorem cat_le (ls : List (Value × List Mg)) (k : Nat) : (catL (ls.take k)).length ≤ (catL ls).length := by
  unfold catL
  conv => rhs; rw [← List.take_append_drop k ls, List.flatMap_append, List.length_append]
  omega

theorem cat_bound (ls : List (Value × List Mg)) (hn : ls.length ≤ 2) (h : ∀ x ∈ ls, x.2.length ≤ 1048576) : (catL ls).length ≤ 2097152 := by
  unfold catL
  match ls, hn, h with
  | [], _, _ => simp
  | [x], _, h =>
    have := h x (by simp)
    simp; omega
  | [x, y], _, h =>
    have := h x (by simp)
    have := h y (by simp)
    simp; omega

set_option maxHeartbeats 3200000 in
theorem concatM_any (c : Nat) (ls : List (Value × List Mg)) (w : World) (hn : ls.length ≤ 2) (hl : (catL ls).length ≤ 60) (hL : Lists w.heap.size w c ls) :
    Calls Try.prog 74 #[.slice (some ⟨c, 0, none⟩) ls.length ls.length] w fun e w' => ∃ v : Value, e = .returned v ∧ w'.ownsRow w.heap.size 38 15 v (catL ls).length ((catL ls).flatMap mgC) ∧ Below w.heap.size w w' := by
  obtain ⟨i0, hi, hz0, hz1, hz2⟩ := info_parts Try.infoMsg
  have HLS : Hid _ := hL
  clear hL
  go_enter Try.func74, Try.ntmps74
  go_wp2_with fail
  go_loopw [3, 11] (fun sz i wr => ∃ k : Nat, k ≤ ls.length ∧ i = .int .i64 k ∧ sz = .int .i64 (((catL (ls.take k)).length : Nat) : Int) ∧ wr = w) (fun _ i _ => ls.length - (intOf i).toNat)
  case atStart => exact ⟨0, Nat.zero_le _, rfl, rfl, rfl⟩
  case round =>
    obtain ⟨k, hk, rfl, rfl, hw⟩ := hrel
    have hw2 := hw.symm
    clear hw
    subst hw2
    by_cases hlt : k < ls.length
    · obtain ⟨x, hx⟩ : ∃ x, ls[k]? = some x := ⟨ls[k], List.getElem?_eq_getElem hlt⟩
      obtain ⟨h1, h2, h3⟩ := HLS.out.at_ k x hx
      obtain ⟨o, cap, hf⟩ := h2.form
      rw [hf] at h1
      have hst := cat_step ls k x hx
      have hle := cat_le ls (k + 1)
      have HST : Hid ((catL (ls.take (k + 1))).length = (catL (ls.take k)).length + x.2.length) := by rw [Hid, hst, List.length_append]
      have hle2 : (catL (ls.take k)).length + x.2.length ≤ 60 := by have := HST.out; omega
      have i0' : (0 : Int) ≤ (k : Int) := by omega
      have i1' : (k : Int) < (ls.length : Int) := by omega
      clear hst hle hx h2 hf
      generalize (catL (ls.take k)).length = A at *
      generalize x.2.length = C at *
      have w2 : IntKind.i64.wrap ((A : Int) + (C : Int)) = (A : Int) + (C : Int) := by rw [IntKind.wrap_i64]; omega
      have g2 : ¬ ((A : Int) + (C : Int) < 0) := by omega
      go_wp2_with fail
      go_roundw
      case rel => exact ⟨k + 1, by omega, by go_num, by rw [HST.out]; go_num, trivial⟩
      case measure => simp [intOf]; omega
    · obtain rfl : k = ls.length := by omega
      have hall : catL (ls.take ls.length) = catL ls := by rw [List.take_length]
      rw [hall]
      clear hall
      have hgr := fun w : World => growM_any (catL ls).length hl w
      have HLL : Hid ((catL ls).length ≤ 60) := hl
      generalize hLen : (catL ls).length = LL at hgr
      have HLen : Hid ((catL ls).length = LL) := hLen
      clear hLen hl
      go_wp2_with fail
      refine (hgr _).mono ?_
      rintro e w1 ⟨v1, rfl, ow1, b1⟩
      obtain ⟨o1, c1, rfl⟩ := own_slice ow1
      have ow1' : w1.ownsRow w.heap.size 38 15 (.slice o1 ([] : List Mg).length c1) ([] : List Mg).length (([] : List Mg).flatMap mgC) := ow1
      have HLS1 : Hid _ := HLS.out.below b1
      clear ow1 hgr
      go_wp2_with fail
      go_loopw [6, 27] (fun q i w3 => ∃ (k : Nat) (xs : List Mg) (o : Option Addr) (cp : Nat), k ≤ ls.length ∧ i = .int .i64 k ∧ q = .slice o xs.length cp ∧ xs = catL (ls.take k) ∧ w3.ownsRow w.heap.size 38 15 (.slice o xs.length cp) xs.length (xs.flatMap mgC) ∧ Below w.heap.size w w3) (fun _ i _ => ls.length - (intOf i).toNat)
      case atStart => exact ⟨0, [], o1, c1, by omega, rfl, rfl, rfl, ow1', b1⟩
      case round =>
        clear ow1' b1
        obtain ⟨k, xs, o, cp, hk, rfl, rfl, hxs, own, d⟩ := hrel
        by_cases hlt2 : k < ls.length
        · obtain ⟨x, hx⟩ : ∃ x, ls[k]? = some x := ⟨ls[k], List.getElem?_eq_getElem hlt2⟩
          obtain ⟨h1, h2, h3⟩ := (HLS.out.below d).at_ k x hx
          obtain ⟨ox, cx, hf⟩ := h2.form
          rw [hf] at h1 h2
          have hst := cat_step ls k x hx
          have hle := cat_le ls (k + 1)
          rw [hst, List.length_append, ← hxs] at hle
          have HX : Hid (xs ++ x.2 = catL (ls.take (k + 1))) := by rw [Hid, hst, hxs]
          have HSRC : Hid _ := flat_src15 mgC_len (by decide) h2
          obtain ⟨x1, x2⟩ := x
          simp only at h1 h2 hf HX HSRC hle
          have HLX : Hid ((x2.flatMap mgC).length = x2.length * 15) := flat_length mgC_len x2
          have HOX : Hid _ := msgs_one x2
          have hb60 : xs.length + x2.length ≤ 60 := by have := HLL.out; omega
          have HM : Hid (xs.length + x2.length ≤ maxLen) := by rw [Hid]; unfold maxLen; omega
          have HB : Hid ((xs.length + x2.length) * 136 ≤ 140737488355328) := by rw [Hid]; omega
          have i0' : (0 : Int) ≤ (k : Int) := by omega
          have i1' : (k : Int) < (ls.length : Int) := by omega
          have hsz := d.size
          have HOW : Hid _ := own
          have HBL : Hid (∀ q, (Value.slice o xs.length cp).ownBlock = some q → w.heap.size ≤ q) := fun q hq => (own.lt q hq).1
          clear hst hle hx h2 hf hxs own h3
          go_wp2_with (at_builtin; refine wpList_append_reads rfl _ _ 24 rfl w.heap.size 38 i0 (.agg #[.int .i64 0, .int .i64 0, .int .i64 0, .int .i64 0, .int .i64 0, .int .i64 0, .int .i64 0, .string ByteArray.empty, .string ByteArray.empty, .int .i64 0, .int .i64 0, .int .i64 0, .int .i64 0, .int .i64 0, .int .i64 0]) 15 136 Try.underlying24 hi hz0 hz1 hz2 rfl (by decide) (.slice o xs.length cp) xs.length (xs.flatMap mgC) rfl HOW.out ox x2.length cx (x2.flatMap mgC) rfl HLX.out HSRC.out HOX.out HM.out HB.out hsz ?_)
          intro v5 w5 own5 gr5 nil5
          have B5 : Below w.heap.size w w5 := d.grown gr5 hsz HBL.out
          have own6 : w5.ownsRow w.heap.size 38 15 v5 (xs ++ x2).length ((xs ++ x2).flatMap mgC) := by
            rw [List.length_append, List.flatMap_append]
            exact own5
          obtain ⟨o5, c5, rfl⟩ := own_slice own6
          have HF : Hid _ := And.intro own6 B5
          clear own5 own6 gr5 nil5 B5 d HOW HBL HSRC HLX HOX HM HB
          generalize hxx : xs ++ x2 = xx at *
          clear hxx
          go_wp2_with fail
          go_roundw
          case rel => exact ⟨k + 1, xx, o5, c5, by omega, by go_num, rfl, HX.out, HF.out.1, HF.out.2⟩
          case measure => simp [intOf]; omega
        · obtain rfl : k = ls.length := by omega
          have HX : Hid (xs = catL ls) := by rw [Hid, hxs, List.take_length]
          have HF : Hid _ := And.intro own d
          clear own d hxs
          go_wp2_with fail
          go_ret
          exact ⟨_, rfl, by rw [← HX.out]; exact HF.out.1, HF.out.2⟩
end Go.Proofs.Ytghhphhnalfjaaa

