/-
  Chapter 14: the line's Push and Pop; container/heap's Push, Pop, Remove.
-/
import Derived.Test.YtghhphhnalfjaaaImHp4
import Derived.Test.YtghhphhnalfjaaaSteps
import Derived.Deep.Cut
import Derived.Test.YtghhphhnalfjaaaRows5
namespace Go.Proofs.Ytghhphhnalfjaaa
open Go.RowKit
set_option linter.unusedVariables false
set_option maxRecDepth 100000

theorem Try.infoMb : (Try.prog.info? 137).map (fun i => (i.zero, i.size, i.bytes)) = some (some (.agg #[.int .i64 0, .int .i64 0]), 2, 16) := by kernel_rfl

theorem as_mb (v : Value) (w : World) : (Instr.typeAssert (.iface 137 v) 20 137 false).run Try.prog w = .ok v w := by kernel_rfl

theorem only_grown {S : Nat → Prop} {a w w' : World} {row : Option Nat} (h : Only S a w) (hg : w.grownBy w' row) (hr : ∀ k, row = some k → S k) : Only S a w' := by
  have hb : Below 0 w w' := (Below.refl 0 w).grown hg (Nat.zero_le _) (fun _ _ => Nat.zero_le _)
  exact ⟨hb.os.trans h.os, hb.tape.trans h.tape, hb.output.trans h.output, Nat.le_trans h.size hb.size, fun i hi hc => by
    refine (hg.block i (Nat.lt_of_lt_of_le hi h.size) ?_).trans (h.block i hi hc)
    intro e
    exact hc (hr i e.symm)⟩

theorem implLen_any (o : Option Addr) (n c : Nat) (w : World) :
    Calls Try.prog 102 #[.slice o n c] w fun e w' => e = .returned (.int .i64 (n : Int)) ∧ w' = w := by
  go_enter Try.func102, Try.ntmps102
  go_wp2_with fail
  go_ret
  exact ⟨rfl, rfl⟩

theorem new_two (W : World) (x : Mb) (t : TypeId) : ∀ (j : Nat) (u : Value), (mbC x)[j]? = some u → (W.alloc (.cells #[.int .i64 x.1, .int .i64 x.2] t)).cell? ((⟨W.heap.size, 0, none⟩ : Addr).add j) = some u := by
  intro j u hj
  have hk := heap_alloc_new W (.cells #[.int .i64 x.1, .int .i64 x.2] t)
  rw [addr_add, at_cell hk]
  simpa [mbC] using hj
theorem mb_one (x : Mb) : ∀ u ∈ mbC x, u.oneCell' = true := by
  intro u hu
  simp only [mbC, List.mem_cons, List.not_mem_nil, or_false] at hu
  rcases hu with rfl | rfl <;> rfl

set_option maxHeartbeats 1600000 in
theorem implPush_any (S : Nat → Prop) (base b : Nat) (l : List Mb) (p h : Int) (w : World) (hp : Hp S base w b l) (hl : l.length ≤ 64) (hS : ∀ k, base ≤ k → S k) (hbase : base ≤ w.heap.size) :
    Calls Try.prog 126 #[.pointer (some ⟨b, 0, none⟩), .iface 137 (.agg #[.int .i64 p, .int .i64 h])] w fun e w' => e = .returned (.tuple #[]) ∧ Hp S base w' b (l ++ [(p, h)]) ∧ Only S w w' := by
  obtain ⟨i0, hi, hz0, hz1, hz2⟩ := info_parts Try.infoMb
  obtain ⟨v, kb, own, hSg0⟩ := hp.box
  have hSg : Hid _ := hSg0
  clear hSg0
  obtain ⟨o, cap, rfl⟩ := own_slice own
  have hlo := hp.inS
  have hlt := hp.lt
  have c0 := at_cell (W := w.drew) kb 0
  have f0 := at_open (W := w.drew) kb 0
  have c1 := at_cell kb 0
  have f1 := at_open kb 0
  have HKB : Hid _ := kb
  have HNB : Hid ((Value.slice o l.length cap).ownBlock ≠ some b) := own_not_box own kb (by decide)
  have HOW : Hid (OwnM base w (.slice o l.length cap) l) := own
  have n1 : ¬ b = w.heap.size := by omega
  have n2 : ¬ w.heap.size = b := by omega
  obtain ⟨L, hL⟩ : ∃ L, L = l.length + 1 := ⟨_, rfl⟩
  have HL : Hid (L = l.length + 1) := hL
  have has := as_mb
  clear kb own hp hL
  go_enter Try.func126, Try.ntmps126
  go_wp2_with fail
  go_region_law (first
    | (refine step_append rfl (.tmp 7) (.tmp 10) 126 rfl base 137 i0 (.agg #[.int .i64 0, .int .i64 0]) 2 16 Try.underlying126 hi hz0 hz1 hz2 rfl (by decide) (.slice o l.length cap) l.length (l.flatMap mbC) ?e1 ?own ⟨w.heap.size, 0, none⟩ 1 1 (mbC (p, h)) ?e2 rfl ?hn (mb_one _) ?h63 ?hb ?hbase ?_
       case e1 => simp [Act.eval]
       case own => exact World.ownsRow.alloc (w := w.drew) HOW.out _
       case e2 => simp [Act.eval]
       case hn => exact new_two w.drew (p, h) _
       case h63 => unfold maxLen; omega
       case hb => omega
       case hbase => simp; omega
       intro v' w5 own5 gr5 nil5
       have own6 := own5
       rw [← HL.out] at own5
       obtain ⟨o6, c6, rfl⟩ := own_slice own5
       have k6 := (gr5.block b (by simp; omega) (fun e => HNB.out e.symm)).trans ((Below.heap_alloc w.drew _ b hlt).trans HKB.out)
       have q1 := at_cell k6 0
       have g1 := at_open k6 0))
  all_goals
    have own7 : OwnM base w5 (.slice o6 L c6) (l ++ [(p, h)]) := by
      have e : (l ++ [(p, h)]).flatMap mbC = l.flatMap mbC ++ mbC (p, h) := by simp
      have e2 : (l ++ [(p, h)]).length = l.length + 1 := by simp
      rw [OwnM, e, e2]
      exact own6
    have hnb7 := own_not_box own7 k6 (by decide)
    have u7 : Upto b w5 (w5.setCell ⟨b, 0, none⟩ (.slice o6 L c6)) := (Upto.refl _ _).setCell ⟨b, 0, none⟩ (.inl rfl) _
    have own8 := own_only (S := fun k => k = b) own7 (⟨u7.os, u7.tape, u7.output, u7.size, fun k hk hn => u7.block k hk hn⟩ : Only _ _ (w5.setCell ⟨b, 0, none⟩ (.slice o6 L c6))) (fun q hq e => hnb7 (by rw [hq, e]))
    have k8 := set_at k6 0 (.slice o6 L c6)
    have bA : Below w.heap.size w (w.drew.alloc (.cells #[.int .i64 p, .int .i64 h] 137)) := bw_alloc (bw_drew (Below.refl _ _))
    have b5 : Only S w w5 := only_grown ((Only.refl S w).below bA) gr5 hSg.out
    have HE : Hid (Hp S base (w5.setCell ⟨b, 0, none⟩ (.slice o6 L c6)) b (l ++ [(p, h)]) ∧ Only S w (w5.setCell ⟨b, 0, none⟩ (.slice o6 L c6))) := ⟨⟨hlo, _, k8, own8, fun q hq => hS q (own8.lt q hq).1⟩, b5.trans (only_upto u7 hlo)⟩
    clear own5 own6 own7 own8 u7 k8 b5 gr5 nil5 hnb7
    go_wp2_with fail
    exact bodyPost_end (results_none rfl _ _ _) rfl ⟨rfl, HE.out⟩

/-- The line but for its last one, in the same row. -/
theorem own_front {w : World} {base g n cap : Nat} {e : TypeId} {size : Nat} {xs : List Value} (h : w.ownsRow base e size (.slice (some ⟨g, 0, none⟩) n cap) n xs) (m : Nat) (hm : m ≤ n) : w.ownsRow base e size (.slice (some ⟨g, 0, none⟩) m cap) m (xs.take (m * size)) := by
  obtain ⟨h1, h2⟩ := h
  refine ⟨by rw [List.length_take, h1]; exact Nat.min_eq_left (Nat.mul_le_mul_right _ hm), .inr ?_⟩
  rcases h2 with ⟨e', rfl⟩ | ⟨g', cap', cur, e', hg, hh, hc, hx, hs, ht⟩
  · cases e'
  · cases e'
    refine ⟨g, cap, cur, rfl, hg, hh, by omega, hx, hs, ?_⟩
    rw [← ht, List.take_take, Nat.min_eq_left (Nat.mul_le_mul_right _ hm)]
theorem flat_take {α : Type} {k : Nat} {cs : α → List Value} (hk : ∀ x, (cs x).length = k) : ∀ (l : List α) (m : Nat), (l.take m).flatMap cs = (l.flatMap cs).take (m * k)
  | [], m => by simp
  | x :: l, 0 => by simp
  | x :: l, m + 1 => by
    rw [List.take_succ_cons, List.flatMap_cons, List.flatMap_cons, flat_take hk l m, List.take_append, hk x, List.take_of_length_le (show (cs x).length ≤ (m + 1) * k by rw [hk, Nat.add_mul]; omega)]
    congr 2
    rw [Nat.add_mul]; omega

end Go.Proofs.Ytghhphhnalfjaaa
