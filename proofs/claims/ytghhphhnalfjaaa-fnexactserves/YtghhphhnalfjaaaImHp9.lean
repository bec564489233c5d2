/-
  Chapter 14: the line's view: emptied into a View's members.
-/
import Derived.Test.YtghhphhnalfjaaaImHp8
import Derived.Test.YtghhphhnalfjaaaPool2
import Derived.Test.YtghhphhnalfjaaaSteps
namespace Go.Proofs.Ytghhphhnalfjaaa
open Go.RowKit
set_option linter.unusedVariables false
set_option maxRecDepth 100000

/-- How memory lies while the line is emptied: its box, the answer's box, the View's box and its row. -/
structure DrSt (S : Nat → Prop) (base b0 : Nat) (w W : World) (n : Int) (mv : Value) (ms : List Int) (L : List Mb) : Prop where
  hp : Hp S base W b0 L
  own : W.ownsRow b0 2 1 mv ms.length (ms.map (Value.int .i64))
  kR : W.heap[b0 + 1]? = some (.cells #[.int .i64 0, .slice none 0 0] 59 (0, 0))
  kV : W.heap[b0 + 1 + 1 + 1]? = some (.cells #[.int .i64 n, mv] 59 (0, 0))
  u : Only (fun k => S k ∨ b0 ≤ k) w W
theorem DrSt.nb {S : Nat → Prop} {base b0 : Nat} {w W : World} {n : Int} {mv : Value} {ms : List Int} {L : List Mb} (h : DrSt S base b0 w W n mv ms L) : mv.ownBlock ≠ some b0 ∧ mv.ownBlock ≠ some (b0 + 1) ∧ mv.ownBlock ≠ some (b0 + 1 + 1 + 1) := by
  obtain ⟨v, k, -⟩ := h.hp.box
  exact ⟨own_not_box h.own k (by decide), own_not_box h.own h.kR (by decide), own_not_box h.own h.kV (by decide)⟩
theorem DrSt.below {S : Nat → Prop} {base b0 : Nat} {w W W' : World} {n : Int} {mv : Value} {ms : List Int} {L : List Mb} (h : DrSt S base b0 w W n mv ms L) (b : Below W.heap.size W W') : DrSt S base b0 w W' n mv ms L :=
  ⟨h.hp.below b, owns_below h.own b, (b.block _ (heap_lt h.kR)).trans h.kR, (b.block _ (heap_lt h.kV)).trans h.kV, h.u.below b⟩
/-- One is taken off the line. -/
theorem DrSt.take {S : Nat → Prop} {base b0 : Nat} {w W W' : World} {n : Int} {mv : Value} {ms : List Int} {L L' : List Mb} (h : DrSt S base b0 w W n mv ms L) (hS : ∀ k, S k → k ≤ b0) (hp : Hp S base W' b0 L') (u : Only S W W') : DrSt S base b0 w W' n mv ms L' := by
  obtain ⟨n0, n1, n2⟩ := h.nb
  refine ⟨hp, own_only h.own u (fun g hg hs => ?_), (u.block _ (heap_lt h.kR) (fun hs => by have := hS _ hs; omega)).trans h.kR, (u.block _ (heap_lt h.kV) (fun hs => by have := hS _ hs; omega)).trans h.kV, h.u.trans (u.mono (fun k hk => .inl hk))⟩
  have h1 := (h.own.lt g hg).1
  have h2 := hS g hs
  exact n0 (by rw [hg]; congr 1; omega)
/-- And put behind the members. -/
theorem DrSt.more {S : Nat → Prop} {base b0 : Nat} {w W W' : World} {n : Int} {mv mv' : Value} {ms : List Int} {L : List Mb} (h : DrSt S base b0 w W n mv ms L) (hS : ∀ k, S k → k ≤ b0) (g : W.grownBy W' mv.ownBlock) (x : Int) (own : W'.ownsRow b0 2 1 mv' (ms.length + 1) (ms.map (Value.int .i64) ++ [.int .i64 x])) :
    W'.heap[b0 + 1 + 1 + 1]? = some (.cells #[.int .i64 n, mv] 59 (0, 0)) ∧ DrSt S base b0 w (W'.setCell ⟨b0 + 1 + 1 + 1, 1, none⟩ mv') n mv' (ms ++ [x]) L := by
  obtain ⟨n0, n1, n2⟩ := h.nb
  have e : ms.map (Value.int .i64) ++ [.int .i64 x] = (ms ++ [x]).map (Value.int .i64) := by simp
  have e2 : ms.length + 1 = (ms ++ [x]).length := by simp
  rw [e, e2] at own
  have gu : Only (fun k => mv.ownBlock = some k) W W' := only_grown (Only.refl _ W) g (fun k hk => hk)
  have kV := (gu.block _ (heap_lt h.kV) n2).trans h.kV
  have u2 : Only (fun k => k = b0 + 1 + 1 + 1) W' (W'.setCell ⟨b0 + 1 + 1 + 1, 1, none⟩ mv') := (Only.refl (fun k => k = b0 + 1 + 1 + 1) _).setCell ⟨b0 + 1 + 1 + 1, 1, none⟩ rfl _
  have nb' : mv'.ownBlock ≠ some (b0 + 1 + 1 + 1) := own_not_box own kV (by decide)
  have hp1 : Hp S base W' b0 L := h.hp.same gu (fun k hk hs => by
    have h1 := (h.own.lt k hs).1
    have h2 := hS k hk
    exact n0 (by rw [hs]; congr 1; omega))
  refine ⟨kV, hp1.same u2 (fun k hk hs => by have := hS k hk; omega), own_only own u2 (fun q hq hs => nb' (by rw [hq, hs])), (u2.block _ (heap_lt ((gu.block _ (heap_lt h.kR) n1).trans h.kR)) (by omega)).trans ((gu.block _ (heap_lt h.kR) n1).trans h.kR), set_1 kV _, ?_⟩
  exact (h.u.trans (gu.mono (fun k hk => .inr (h.own.lt k hk).1))).trans (u2.mono (fun k hk => .inr (by omega)))
def inLine (v : Value) (b : Nat) (k : Nat) : Prop := v.ownBlock = some k ∨ k = b
theorem drainP_go (L : List Mb) (h : 0 < L.length) : drainP L.length L = (popP L).2.2 :: drainP (popP L).1.length (popP L).1 := by
  have hl := popP_len L
  obtain ⟨q, hq⟩ : ∃ q, L.length = q + 1 := ⟨L.length - 1, by omega⟩
  rw [hq, drainP, if_neg (by omega), hl, hq, Nat.add_sub_cancel]

theorem made_roomV (n : Nat) (hn : n ≤ 1048576) : ∃ M : Array Value, (∀ W : World, (Instr.makeSlice 52 (.int .i64 0) (.int .i64 (n : Int))).run Try.prog W = .ok (.slice (some ⟨W.heap.size, 0, none⟩) 0 n) (W.alloc (.cells M 2))) ∧
    ∀ (W : World) (base : Nat), base ≤ W.heap.size → (W.alloc (.cells M 2)).ownsRow base 2 1 (.slice (some ⟨W.heap.size, 0, none⟩) 0 n) 0 [] := by
  obtain ⟨i0, hi, hz0, hz1, hz2⟩ := info_parts Try.infoI64
  refine ⟨madeCells (Value.int .i64 0).cells (n * 1), fun W => ?_, fun W base hb => ?_⟩
  · have h := run_make (P := Try.prog) W 52 2 i0 (.int .i64 0) Try.underlying52 hi hz0 .i64 .i64 0 (n : Int) (by omega) (by omega) (by rw [hz2]; omega) (by omega)
    rw [hz1, Int.toNat_natCast] at h
    simpa using h
  · exact ⟨rfl, .inr ⟨_, n, _, rfl, hb, heap_alloc_new W _, Nat.zero_le _, by unfold maxLen; omega, by rw [size_madeCells], by simp⟩⟩

end Go.Proofs.Ytghhphhnalfjaaa
