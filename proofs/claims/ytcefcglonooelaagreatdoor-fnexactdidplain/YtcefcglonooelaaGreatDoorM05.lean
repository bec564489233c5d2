/-
  Contracts and plain laws, one chapter behind the other.
-/
import Derived.Test.YtcefcglonooelaaGreatDoorRows
import Derived.Test.YtcefcglonooelaaGreatDoorTie
import Derived.Test.YtcefcglonooelaaGreatDoorCards
import Derived.SevenTiedAt
import Derived.JoinedOf
import Derived.ProofKit
import Derived.Laws.Bits128
import Derived.IntWalk
import Derived.Test.YtcefcglonooelaaGreatDoorChecked
import Derived.WalkKit
import Derived.WalkSpells
import Derived.Handy
import Derived.Below
import Derived.Deep.QuietTactic
import Derived.BigQuiet
import Derived.OpenShut
import Derived.ShutString
import Derived.Lib.SmallJoins
import Derived.SliceStrings
import Derived.ChangeSlices
import Derived.Deep.Slices
import Derived.Deep.Strs
import Derived.Laws.MakeOwn
import Derived.Test.YtcefcglonooelaaGreatDoorM01
import Derived.Test.YtcefcglonooelaaGreatDoorM02
import Derived.Test.YtcefcglonooelaaGreatDoorM03
namespace Go.Proofs.YtcefcglonooelaaGreatDoor.fnExactDidPlain
open Go

set_option linter.unusedVariables false


theorem both {a b : Bool} (h : a = true) (k : b = true) : (a && b) = true := by rw [h, k]; rfl

theorem hfn : Tryz.prog.funcNamed Rows.fnExactDidPlainRow.func = some 6 := by kernel_rfl

set_option maxRecDepth 100000 in
set_option maxHeartbeats 12800000 in
theorem closed : joinedFacts Tryz.prog 6 Tryz.f6 Rows.fnExactDidPlainSpec Rows.fnExactDidPlainRow = true := by
  unfold joinedFacts
  refine both (both (both (both (both (both (both (both (both (both (both (both (both (both (both (both (both (both (both (both (both (both (both (both (both (both (both (both (both (both (both ?_ ?_) ?_) ?_) ?_) ?_) ?_) ?_) ?_) ?_) ?_) ?_) ?_) ?_) ?_) ?_) ?_) ?_) ?_) ?_) ?_) ?_) ?_) ?_) ?_) ?_) ?_) ?_) ?_) ?_) ?_) ?_
  all_goals as_aux_lemma => kernel_rfl

theorem hinst : Tryz.f6.isInstance Tryz.prog Rows.fnExactDidPlainRow.origin Rows.fnExactDidPlainRow.targs := of_decide_eq_true (by kernel_rfl)

theorem hwrap : Tryz.f6.isWrapper Tryz.prog Rows.fnExactDidPlainRow.wrapper Rows.fnExactDidPlainRow.mainSum := by unfold Func.isWrapper; first | (rw [if_pos (by decide +kernel)]; kernel_rfl) | (rw [if_neg (by decide +kernel)]; exact ⟨rfl, rfl⟩)

theorem byText : Rows.fnExactDidPlainRow.wfByText (OpenSpec.ofChange Rows.fnExactDidPlainSpec) = true := by kernel_rfl

theorem mainIs : Tryz.prog.mainIs = some (true, "c1202ad587a82d4a6b2824aa68a774fbcede363e1cfa9649eab5822d3dd22308".toList) := by kernel_rfl

theorem looks : true = Tryz.prog.looks [] := by kernel_rfl

theorem goes : false = Rows.fnExactDidPlainRow.goesBy Tryz.prog := by kernel_rfl

theorem stand2 : Tryz.prog.wantsStandIn 2 = false := by kernel_rfl

theorem stand53 : Tryz.prog.wantsStandIn 53 = false := by kernel_rfl

theorem stand54 : Tryz.prog.wantsStandIn 54 = false := by kernel_rfl
end Go.Proofs.YtcefcglonooelaaGreatDoor.fnExactDidPlain

namespace Go.Proofs.YtcefcglonooelaaGreatDoor
open Go.RowKit

set_option linter.unusedVariables false

set_option maxRecDepth 100000


/-- The bytes of an argument, below block c. -/
def Src (w : World) (c : Nat) (x : Option Addr) (len : Nat) : Prop :=
  len ≤ maxLen ∧ ∀ j, j < len → ∃ b off z, x = some ⟨b, off, none⟩ ∧ b < c ∧ w.cell? ⟨b, off + j, none⟩ = some (.int .u8 z) ∧ 0 ≤ z ∧ z ≤ 255

theorem Src.below {w w' : World} {c : Nat} {x : Option Addr} {len : Nat} (h : Src w c x len) (k : Below c w w') : Src w' c x len :=
  ⟨h.1, fun j hj => by obtain ⟨b, off, z, e, hb, hz, r⟩ := h.2 j hj; exact ⟨b, off, z, e, hb, (k.cell (p := ⟨b, off + j, none⟩) hb).trans hz, r⟩⟩

theorem Src.mono {w : World} {c d : Nat} {x : Option Addr} {len : Nat} (h : Src w c x len) (k : c ≤ d) : Src w d x len :=
  ⟨h.1, fun j hj => by obtain ⟨b, off, z, e, hb, r⟩ := h.2 j hj; exact ⟨b, off, z, e, Nat.lt_of_lt_of_le hb k, r⟩⟩

theorem Cur.new {w : World} {x : Option Addr} {len cap : Nat} (h : Src w w.heap.size x len) (q : Int) (t : TypeId) :
    Cur (w.alloc (.cells #[.slice x len cap, .int .i64 0, .int .i64 q] t)) w.heap.size x len cap := by
  have hb : Below w.heap.size w (w.alloc (.cells #[.slice x len cap, .int .i64 0, .int .i64 q] t)) := (Below.refl _ _).alloc (Nat.le_refl _) _
  refine ⟨by simp [go_sem], h.1, by simp [go_sem], ⟨0, q, Nat.zero_le _, by simp [go_sem], by simp [go_sem]⟩, by simp [go_sem], by simp [go_sem], fun j hj => ?_⟩
  obtain ⟨b, off, z, e, hb', hz, r⟩ := h.2 j hj
  exact ⟨b, off, z, e, hb', (hb.cell (p := ⟨b, off + j, none⟩) hb').trans hz, r⟩
end Go.Proofs.YtcefcglonooelaaGreatDoor

namespace Go.Proofs.YtcefcglonooelaaGreatDoor
open Go.ChangeShapes Go.WideShapes Go.ChangeAt Go.RowKit Go.Joins

open Go.ChangeMaps (open_string)

set_option linter.unusedVariables false

set_option maxRecDepth 100000


theorem open_i64 {H : Type} {enc : TypeId × Value → H} {W : World} {base : Nat} {v : Value} {d : DataW H} {p : List MemPlace} (hv : Value.okWide Tryz.prog W .any base 2 v) (h : DataW.Trod enc Tryz.prog W 0 (fun _ => true) true 2 v d p) :
    ∃ a : Int, v = .int .i64 a ∧ (Lit.int .i64 a).wf = true := by
  obtain ⟨a, rfl, _, _, w⟩ := open_int Tryz.underlying2 hv h
  exact ⟨a, rfl, w⟩

/-- A row of integers, read out of whatever it lies in. -/
theorem row_i64 {H : Type} {enc : TypeId × Value → H} {W : World} {n : Nat} {v : Value} {y : DataW H × List MemPlace} (h : DataW.trod enc Tryz.prog W 0 (fun _ => true) true n 37 [v] = some y) :
    ∃ xs : List Int, Reads W.heap.size W v (xs.map (Value.int .i64)) ∧ ∀ x ∈ xs, (Lit.int .i64 x).wf = true := by
  rcases open_ints Tryz.underlying37 Tryz.underlying2 (by kernel_rfl) h with ⟨hcs, _⟩ | ⟨x, len, cap, zs, hcs, _, hl, hm, hz, _, hcell, hwz⟩
  · simp at hcs
    subst hcs
    exact ⟨[], ⟨none, 0, rfl, Nat.zero_le _, fun j u hj => absurd hj (by simp), Nat.le_refl _⟩, fun x hx => absurd hx (by simp)⟩
  · simp at hcs
    subst hcs
    have hzz : zs.length = cap := by simpa using hz
    refine ⟨zs.take len, ⟨some x, cap, by simp; omega, by simp; omega, fun j u hj => ?_, by simp; omega⟩, fun y hy => hwz y (List.mem_of_mem_take hy)⟩
    have hjl : j < len := by have := (List.getElem?_eq_some_iff.1 hj).1; simp at this; omega
    have hc := hcell j (by omega)
    obtain ⟨b, off, spot⟩ := x
    have hspot : spot = none := by simpa [Addr.add] using World.cell?_spot (hcell 0 (by omega))
    subst hspot
    have e : (⟨b, off, none⟩ : Addr).add j = ⟨b, off + j, none⟩ := by unfold Addr.add; split <;> simp_all
    rw [e] at hc
    have hb : b < W.heap.size := by
      rcases Nat.lt_or_ge b W.heap.size with q | q
      · exact q
      · simp [World.cell?, Array.getElem?_eq_none q] at hc
    refine ⟨b, off, rfl, hb, ?_⟩
    rw [hc, ← hj, List.getElem?_map, List.getElem?_take_of_lt hjl, List.getD_eq_getElem?_getD, List.getElem?_eq_getElem (by omega)]
    rfl
end Go.Proofs.YtcefcglonooelaaGreatDoor

namespace Go.Proofs.YtcefcglonooelaaGreatDoor
open Go.ChangeShapes Go.WideShapes Go.ChangeAt Go.RowKit Go.Deep

set_option linter.unusedVariables false

set_option maxRecDepth 100000


theorem lit_i64 {a : Int} (h : (Lit.int .i64 a).wf = true) : -9223372036854775808 ≤ a ∧ a ≤ 9223372036854775807 := by simpa [Lit.wf, IntKind.min, IntKind.max, IntKind.signed, IntKind.bits] using h
end Go.Proofs.YtcefcglonooelaaGreatDoor

namespace Go.Proofs.YtcefcglonooelaaGreatDoor
open Go.ChangeShapes Go.WideShapes Go.ChangeAt Go.RowKit Go.Deep Go.Joins

set_option linter.unusedVariables false

set_option maxRecDepth 100000


theorem list5 {α : Type} {cs : List α} (h : cs.length = 5) : ∃ c0 c1 c2 c3 c4, cs = [c0, c1, c2, c3, c4] := by
  match cs, h with
  | [c0, c1, c2, c3, c4], _ => exact ⟨c0, c1, c2, c3, c4, rfl⟩
end Go.Proofs.YtcefcglonooelaaGreatDoor

namespace Go.Proofs.YtcefcglonooelaaGreatDoor
open Go.RowKit

set_option linter.unusedVariables false

set_option maxRecDepth 100000


theorem szInts_any (o : Option Addr) (n cap : Nat) (left : Int) (w : World) (h0 : 0 ≤ left) (hl : left ≤ 1048576) (hm : n ≤ maxLen) :
    Calls Tryz.prog 107 #[.slice o n cap, .int .i64 left] w fun e w' => e = .returned (.int .i64 (if left < n then -1 else left - n)) ∧ w' = w := by
  unfold maxLen at hm
  by_cases hbig : left < (n : Int)
  · rw [if_pos hbig]
    have h1 : left - (n : Int) < 0 := by omega
    go_enter Tryz.func107, Tryz.ntmps107
    go_wp2_with fail
    go_ret
    exact ⟨rfl, rfl⟩
  · rw [if_neg hbig]
    have h1 : 0 ≤ left - (n : Int) := by omega
    go_enter Tryz.func107, Tryz.ntmps107
    go_wp2_with fail
    go_ret
    exact ⟨rfl, rfl⟩

theorem copied_setI (ps : List Int) (xs : List Value) (j : Nat) (hj : j < ps.length) (hx : xs.length = ps.length) :
    ((ps.take j).map (Value.int .i64) ++ xs.drop j).set j (.int .i64 ps[j]) = (ps.take (j + 1)).map (Value.int .i64) ++ xs.drop (j + 1) := by
  have hl : ((ps.take j).map (Value.int .i64)).length = j := by simp; omega
  rw [List.set_append_right _ _ (by omega), hl, Nat.sub_self, List.drop_eq_getElem_cons (show j < xs.length by omega), List.set_cons_zero, List.take_succ_eq_append_getElem hj, List.map_append, List.append_assoc]
  rfl

/-- make([]int64, n): a row of noughts, at the end of memory. -/
theorem made_ints (n : Nat) (hn : n ≤ 1048576) : ∃ M : Array Value, M.toList = (List.replicate n (0 : Int)).map (Value.int .i64) ∧ (∀ W : World, (Instr.makeSlice 37 (.int .i64 (n : Int)) (.int .i64 (n : Int))).run Tryz.prog W = .ok (.slice (some ⟨W.heap.size, 0, none⟩) n n) (W.alloc (.cells M 2))) ∧
    ∀ (W : World) (base : Nat), base ≤ W.heap.size → (W.alloc (.cells M 2)).ownsRow base 2 1 (.slice (some ⟨W.heap.size, 0, none⟩) n n) n ((List.replicate n (0 : Int)).map (Value.int .i64)) := by
  obtain ⟨i0, hi, hz0, hz1, hz2⟩ := info_parts Tryz.infoI64
  have e : (madeCells (Value.int .i64 0).cells n).toList = (List.replicate n (0 : Int)).map (Value.int .i64) := by
    show (madeCells #[.int .i64 0] n).toList = _
    rw [toList_madeCells_one]
    simp
  refine ⟨madeCells (Value.int .i64 0).cells n, e, fun W => ?_, fun W base hb => ?_⟩
  · have h := run_make (P := Tryz.prog) W 37 2 i0 (.int .i64 0) Tryz.underlying37 hi hz0 .i64 .i64 (n : Int) (n : Int) (by omega) (by omega) (by rw [hz2]; omega) (by omega)
    rw [hz1, Nat.mul_one, Int.toNat_natCast] at h
    simpa using h
  · have h := World.ownsRow_lit (base := base) (size := 1) (e := 2) W (madeCells (Value.int .i64 0).cells n) n hb (by unfold maxLen; omega) (by rw [size_madeCells]; omega)
    rwa [e] at h

set_option maxHeartbeats 1600000 in
theorem toInts_any (v : Value) (ps : List Int) (w : World) (hn : ps.length ≤ 1048576) (hp : Reads w.heap.size w v (ps.map (Value.int .i64))) :
    Calls Tryz.prog 108 #[v] w fun e w' => e = .returned (.slice (some ⟨w.heap.size, 0, none⟩) ps.length ps.length) ∧ w'.ownsRow w.heap.size 2 1 (.slice (some ⟨w.heap.size, 0, none⟩) ps.length ps.length) ps.length (ps.map (Value.int .i64)) ∧ Below w.heap.size w w' := by
  obtain ⟨o, cap, rfl, hm, hcells, -⟩ := hp
  have HC : Hid (∀ j u, (ps.map (Value.int .i64))[j]? = some u → ∃ g off, o = some ⟨g, off, none⟩ ∧ g < w.heap.size ∧ w.cell? ⟨g, off + j, none⟩ = some u) := hcells
  have hlen : (ps.map (Value.int .i64)).length = ps.length := by simp
  rw [hlen]
  clear hcells hlen hm
  obtain ⟨M, hM, hmk, hown⟩ := made_ints ps.length hn
  have own0 := hown w w.heap.size (Nat.le_refl _)
  have bd0 : Below w.heap.size w (w.alloc (.cells M 2)) := (Below.refl _ _).alloc (Nat.le_refl _) _
  clear hown hM
  go_enter Tryz.func108, Tryz.ntmps108
  go_wp2_with fail
  generalize w.alloc (.cells M 2) = W0 at own0 bd0 ⊢
  generalize hxs : (List.replicate ps.length (0 : Int)).map (Value.int .i64) = xs at own0
  have hMl : xs.length = ps.length := by rw [← hxs]; simp
  clear hmk hxs
  go_loopw [4] (fun i wr => ∃ j : Nat, j ≤ ps.length ∧ i = .int .i64 j ∧ wr.ownsRow w.heap.size 2 1 (.slice (some ⟨w.heap.size, 0, none⟩) ps.length ps.length) ps.length ((ps.take j).map (Value.int .i64) ++ xs.drop j) ∧ Below w.heap.size w wr) (fun i _ => ps.length - (intOf i).toNat)
  case atStart => exact ⟨0, Nat.zero_le _, rfl, by simpa using own0, bd0⟩
  case round =>
    obtain ⟨j, hj, rfl, own, hb⟩ := hrel
    by_cases hlt : j < ps.length
    · obtain ⟨g, off, rfl, hg, hx⟩ := HC.out j (.int .i64 ps[j]) (by simp [hlt])
      have hx1 : wr.cell? ⟨g, off + j, none⟩ = some (.int .i64 ps[j]) := (hb.cell (p := ⟨g, off + j, none⟩) hg).trans hx
      have hc0 := own.cellAt j (by omega)
      have hf := own.frozenAt j
      have hst := (own.stored j (.int .i64 ps[j])).1
      rw [copied_setI ps xs j hlt hMl] at hst
      obtain ⟨u0, hu0⟩ : ∃ u0, ((ps.take j).map (Value.int .i64) ++ xs.drop j)[j]? = some u0 := ⟨_, List.getElem?_eq_getElem (by simp; omega)⟩
      have hc : wr.cell? ⟨w.heap.size, j, none⟩ = some u0 := hc0.trans hu0
      have hb2 : Below w.heap.size w (wr.setCell ⟨w.heap.size, j, none⟩ (.int .i64 ps[j])) := hb.setCell (p := ⟨w.heap.size, j, none⟩) (Nat.le_refl _) _
      have HST : Hid _ := And.intro hst hb2
      clear hst hb2 hc0 hu0 own hx
      generalize ps[j] = x at hx1 HST
      go_wp2_with fail
      go_roundw
      case rel => exact ⟨j + 1, by omega, by go_num, HST.out.1, HST.out.2⟩
      case measure => simp [intOf]; omega
    · obtain rfl : j = ps.length := by omega
      rw [List.take_length, List.drop_of_length_le (by omega), List.append_nil] at own
      go_wp2_with fail
      go_ret
      exact ⟨rfl, own, hb⟩

theorem int_ne {x y : Int} (h : (x != y) = true) : x ≠ y := by simpa using h

theorem int_same {x y : Int} (h : (x != y) = false) : x = y := by simpa using h

set_option maxHeartbeats 800000 in
theorem eqInts_any (v1 v2 : Value) (xs ys : List Int) (w : World) (h1 : Reads w.heap.size w v1 (xs.map (Value.int .i64))) (h2 : Reads w.heap.size w v2 (ys.map (Value.int .i64))) :
    Calls Tryz.prog 109 #[v1, v2] w fun e w' => e = .returned (.bool (decide (xs = ys))) ∧ Below w.heap.size w w' := by
  obtain ⟨o1, cap1, rfl, m1, c1, -⟩ := h1
  obtain ⟨o2, cap2, rfl, m2, c2, -⟩ := h2
  simp only [List.length_map] at m1 m2 c1 c2 ⊢
  by_cases hlen : xs.length = ys.length
  · rw [← hlen]
    have C1 : Hid (∀ j u, (xs.map (Value.int .i64))[j]? = some u → ∃ g off, o1 = some ⟨g, off, none⟩ ∧ g < w.heap.size ∧ w.cell? ⟨g, off + j, none⟩ = some u) := c1
    have C2 : Hid (∀ j u, (ys.map (Value.int .i64))[j]? = some u → ∃ g off, o2 = some ⟨g, off, none⟩ ∧ g < w.heap.size ∧ w.cell? ⟨g, off + j, none⟩ = some u) := c2
    have HL : Hid (xs.length = ys.length) := hlen
    have hle : ys.length ≤ xs.length := by omega
    have hge : xs.length ≤ ys.length := by omega
    unfold maxLen at m1
    clear c1 c2 m2 hlen
    go_enter Tryz.func109, Tryz.ntmps109
    go_wp2
    go_loopw [5] (fun i wr => ∃ k : Nat, k ≤ xs.length ∧ i = .int .i64 k ∧ xs.take k = ys.take k ∧ Below w.heap.size w wr) (fun i _ => xs.length - (intOf i).toNat)
    case atStart => exact ⟨0, Nat.zero_le _, rfl, rfl, Below.refl _ _⟩
    case round =>
      obtain ⟨k, hk, rfl, htk, hb⟩ := hrel
      have HT : Hid (xs.take k = ys.take k) := htk
      clear htk
      by_cases hlt : k < xs.length
      · have hlt2 : k < ys.length := by omega
        obtain ⟨g1, of1, rfl, q1, cc1⟩ := C1.out k (.int .i64 xs[k]) (by simp [hlt])
        obtain ⟨g2, of2, rfl, q2, cc2⟩ := C2.out k (.int .i64 ys[k]) (by simp [hlt2])
        generalize hx : xs[k] = x at cc1
        generalize hy : ys[k] = y at cc2
        have HX : Hid (xs[k] = x) := hx
        have HY : Hid (ys[k] = y) := hy
        clear hx hy C1 C2
        have d1 := (hb.cell (p := ⟨g1, of1 + k, none⟩) q1).trans cc1
        have d2 := (hb.cell (p := ⟨g2, of2 + k, none⟩) q2).trans cc2
        clear cc1 cc2
        go_wp2
        go_quiet (fail)
        go_wp2
        · have hne : x ≠ y := int_ne (by assumption)
          rw [← HX.out, ← HY.out] at hne
          go_ret
          exact ⟨ret_bool (by simp [ne_at xs ys k hlt hlt2 hne]), ⟨hb.os, hb.tape, hb.output, hb.size, hb.block⟩⟩
        · have he : x = y := int_same (by assumption)
          rw [← HX.out, ← HY.out] at he
          go_roundw
          case rel => exact ⟨k + 1, by omega, by go_num, take_more xs ys k hlt hlt2 HT.out he, ⟨hb.os, hb.tape, hb.output, hb.size, hb.block⟩⟩
          case measure => simp [intOf]; omega
      · go_wp2
        go_ret
        exact ⟨ret_bool (by simp [all_taken xs ys k hlt HL.out HT.out]), hb⟩
  · have hn : ((xs.length : Int) != (ys.length : Int)) = true := by rw [bne_iff_ne]; omega
    have HX : Hid (decide (xs = ys) = false) := by rw [Hid, decide_eq_false_iff_not]; intro e; rw [e] at hlen; exact hlen rfl
    unfold maxLen at m1 m2
    clear hlen c1 c2
    go_enter Tryz.func109, Tryz.ntmps109
    go_wp2
    go_ret
    exact ⟨ret_bool HX.out.symm, Below.refl _ _⟩

def marksI (k : Int) (n : Nat) : List Int := (List.range n).map fun i : Nat => k + (i : Int)

theorem marksI_length (k : Int) (n : Nat) : (marksI k n).length = n := by simp [marksI]

theorem marksI_get (k : Int) (n j : Nat) (h : j < n) : ((marksI k n).map (Value.int .i64))[j]? = some (.int .i64 (k + j)) := by simp [marksI, h]

theorem marked_setI (k : Int) (xs : List Value) (j : Nat) (h : j < xs.length) :
    ((marksI k j).map (Value.int .i64) ++ xs.drop j).set j (.int .i64 (k + j)) = (marksI k (j + 1)).map (Value.int .i64) ++ xs.drop (j + 1) := by
  have hl : ((marksI k j).map (Value.int .i64)).length = j := by simp [marksI]
  have hs : (marksI k (j + 1)).map (Value.int .i64) = (marksI k j).map (Value.int .i64) ++ [.int .i64 (k + j)] := by simp [marksI, List.range_succ]
  rw [List.set_append_right _ _ (by omega), hl, Nat.sub_self, List.drop_eq_getElem_cons h, List.set_cons_zero, hs]
  exact (List.append_assoc _ [Value.int .i64 (k + j)] _).symm

theorem marked_allI (k : Int) (xs : List Value) (n : Nat) (h : xs.length = n) : (marksI k n).map (Value.int .i64) ++ xs.drop n = (marksI k n).map (Value.int .i64) := by
  rw [List.drop_of_length_le (by omega)]; simp

set_option maxHeartbeats 800000 in
theorem markedI_any (g cap n base : Nat) (k : Int) (xs : List Value) (w : World) (hk : 0 ≤ k) (hn : k + n ≤ 1099511627776) (own : w.ownsRow base 2 1 (.slice (some ⟨g, 0, none⟩) n cap) n xs) :
    Calls Tryz.prog 66 #[.slice (some ⟨g, 0, none⟩) n cap, .int .i64 k] w fun e w' => e = .returned (.int .i64 (k + n)) ∧ w'.ownsRow base 2 1 (.slice (some ⟨g, 0, none⟩) n cap) n ((marksI k n).map (Value.int .i64)) ∧ Upto g w w' := by
  have hx : xs.length = n := by simpa using own.1
  have hg := own.lt g rfl
  go_enter Tryz.func66, Tryz.ntmps66
  go_wp2
  go_loopw [1, 5] (fun q i wr => ∃ j : Nat, j ≤ n ∧ i = .int .i64 j ∧ q = .int .i64 (k + j) ∧ wr.ownsRow base 2 1 (.slice (some ⟨g, 0, none⟩) n cap) n ((marksI k j).map (Value.int .i64) ++ xs.drop j) ∧ Upto g w wr) (fun _ i _ => n - (intOf i).toNat)
  case atStart => exact ⟨0, Nat.zero_le _, rfl, by simp, by simpa [marksI] using own, Upto.refl _ _⟩
  case round =>
    obtain ⟨j, hj, rfl, rfl, ow, u⟩ := hrel
    clear own
    by_cases hlt : j < n
    · have hc0 := ow.cellAt j (by omega)
      have hf := ow.frozenAt j
      have hst := (ow.stored j (.int .i64 (k + j))).1
      rw [marked_setI k xs j (by omega)] at hst
      have HST : Hid ((wr.setCell ⟨g, j, none⟩ (.int .i64 (k + j))).ownsRow base 2 1 (.slice (some ⟨g, 0, none⟩) n cap) n ((marksI k (j + 1)).map (Value.int .i64) ++ xs.drop (j + 1))) := hst
      obtain ⟨u0, hu0⟩ : ∃ u0, ((marksI k j).map (Value.int .i64) ++ xs.drop j)[j]? = some u0 := ⟨_, List.getElem?_eq_getElem (by simp [marksI_length]; omega)⟩
      have hc : wr.cell? ⟨g, j, none⟩ = some u0 := hc0.trans hu0
      have u2 : Upto g w (wr.setCell ⟨g, j, none⟩ (.int .i64 (k + j))) := u.setCell _ (.inl rfl) _
      clear ow hc0 hu0 hst u
      go_wp2_with fail
      go_roundw
      case rel => exact ⟨j + 1, by omega, by go_num, by go_num, HST.out, u2⟩
      case measure => simp [intOf]; omega
    · obtain rfl : j = n := by omega
      rw [marked_allI k xs j hx] at ow
      go_wp2_with fail
      go_ret
      exact ⟨rfl, ow, u⟩

/-- A row of one's own, marked; whatever other row lies in another block stays. -/
theorem markedIRow_any (v : Value) (n base : Nat) (k : Int) (xs : List Value) (w : World) (hk : 0 ≤ k) (hn : k + n ≤ 1099511627776) (hbase : base ≤ w.heap.size) (own : w.ownsRow base 2 1 v n xs) :
    Calls Tryz.prog 66 #[v, .int .i64 k] w fun e w' => e = .returned (.int .i64 (k + n)) ∧ w'.ownsRow base 2 1 v n ((marksI k n).map (Value.int .i64)) ∧ Below base w w' ∧ w.heap.size ≤ w'.heap.size ∧ ∀ i, i < w.heap.size → v.ownBlock ≠ some i → w'.heap[i]? = w.heap[i]? := by
  rcases own.2 with ⟨rfl, rfl⟩ | ⟨g, cap, cur, rfl, hg, _⟩
  · go_enter Tryz.func66, Tryz.ntmps66
    go_wp2
    refine wp_loop_rounds 1 ?_
    rw [rounds_succ]
    go_wp2
    go_ret
    exact ⟨ret_int (by simp), World.ownsRow_nil _ _ _ _, Below.refl _ _, Nat.le_refl _, fun _ _ _ => rfl⟩
  · refine (markedI_any g cap n base k xs w hk hn own).mono ?_
    rintro e w' ⟨he, ho, hu⟩
    exact ⟨he, ho, hu.toBelow hbase hg, hu.size, fun i hi hn => hu.block i hi (fun e => hn (by rw [e]; rfl))⟩

set_option maxHeartbeats 800000 in
theorem heldI_any (v : Value) (n : Nat) (k : Int) (w : World) (hk : 0 ≤ k) (hn : k + n ≤ 1099511627776) (hr : Reads w.heap.size w v ((marksI k n).map (Value.int .i64))) :
    Calls Tryz.prog 67 #[v, .int .i64 k] w fun e w' => e = .returned (.int .i64 (k + n)) ∧ Below w.heap.size w w' := by
  obtain ⟨o, cap, rfl, hm, hc, -⟩ := hr
  have hl : ((marksI k n).map (Value.int .i64)).length = n := by simp [marksI_length]
  rw [hl] at hm ⊢
  have HC : Hid (∀ j u, ((marksI k n).map (Value.int .i64))[j]? = some u → ∃ g off, o = some ⟨g, off, none⟩ ∧ g < w.heap.size ∧ w.cell? ⟨g, off + j, none⟩ = some u) := hc
  clear hc hl hm
  go_enter Tryz.func67, Tryz.ntmps67
  go_wp2
  go_loopw [1, 5] (fun q i wr => ∃ j : Nat, j ≤ n ∧ i = .int .i64 j ∧ q = .int .i64 (k + j) ∧ Below w.heap.size w wr) (fun _ i _ => n - (intOf i).toNat)
  case atStart => exact ⟨0, Nat.zero_le _, rfl, by simp, Below.refl _ _⟩
  case round =>
    obtain ⟨j, hj, rfl, rfl, hb⟩ := hrel
    by_cases hlt : j < n
    · obtain ⟨g, off, rfl, hg, hx⟩ := HC.out j _ (marksI_get k n j hlt)
      have hx1 : wr.cell? ⟨g, off + j, none⟩ = some (.int .i64 (k + j)) := (hb.cell (p := ⟨g, off + j, none⟩) hg).trans hx
      have g1 : (0 : Int) ≤ (j : Int) := by omega
      have g2 : (j : Int) < (n : Int) := by omega
      clear HC hx
      go_wp2
      go_roundw
      case rel => exact ⟨j + 1, by omega, by go_num, by go_num, hb⟩
      case measure => simp [intOf]; omega
    · obtain rfl : j = n := by omega
      go_wp2_with fail
      go_ret
      exact ⟨rfl, hb⟩
end Go.Proofs.YtcefcglonooelaaGreatDoor

namespace Go.Proofs.YtcefcglonooelaaGreatDoor
open Go.RowKit

set_option linter.unusedVariables false

set_option maxRecDepth 100000


def intC (x : Int) : List Value := [.int .i64 x]

theorem intC_len (x : Int) : (intC x).length = 1 := rfl

theorem flat_intC (xs : List Int) : xs.flatMap intC = xs.map (Value.int .i64) := by
  induction xs with
  | nil => rfl
  | cons x t ih => rw [List.flatMap_cons, ih]; rfl

theorem readsK_of {B : Nat} {w : World} {v : Value} {xs : List Int} (h : Reads B w v (xs.map (Value.int .i64))) : ReadsR 1 intC B w v xs := by
  obtain ⟨o, cap, hv, hm, hc, hr⟩ := h
  rw [List.length_map] at hv hm hr
  refine ⟨o, cap, hv, hm, fun i x hi => ?_, hr⟩
  obtain ⟨g, off, e, hg, hx⟩ := hc i (.int .i64 x) (by rw [List.getElem?_map, hi]; rfl)
  refine ⟨g, off, e, hg, fun j u hj => ?_⟩
  match j, hj with
  | 0, hj => simp only [intC, List.getElem?_cons_zero, Option.some.injEq] at hj; subst hj; simpa using hx

theorem readsK_to {B : Nat} {w : World} {v : Value} {xs : List Int} (h : ReadsR 1 intC B w v xs) : Reads B w v (xs.map (Value.int .i64)) := by
  obtain ⟨o, cap, hv, hm, hc, hr⟩ := h
  refine ⟨o, cap, by rw [List.length_map]; exact hv, by rw [List.length_map]; exact hm, fun i u hi => ?_, by rw [List.length_map]; exact hr⟩
  rw [List.getElem?_map] at hi
  cases hx : xs[i]? with
  | none => rw [hx] at hi; cases hi
  | some x =>
    rw [hx] at hi
    simp only [Option.map_some, Option.some.injEq] at hi
    subst hi
    obtain ⟨g, off, e, hg, hc'⟩ := hc i x hx
    exact ⟨g, off, e, hg, by simpa using hc' 0 _ rfl⟩

/-- A plain: its cells, and the values that it reads. -/
structure Pk where
  nm : ByteArray
  sz : Int
  m : Value
  rs : List Int
  fx : Bool
  ep : Int

def pkC (b : Pk) : List Value := [.string b.nm, .int .i64 b.sz, b.m, .bool b.fx, .int .i64 b.ep]

theorem pkC_len (b : Pk) : (pkC b).length = 5 := rfl

/-- A row of plains that is read, the values too. -/
structure ReadsK (B : Nat) (w : World) (v : Value) (bs : List Pk) : Prop where
  row : ReadsR 5 pkC B w v bs
  maps : ∀ b ∈ bs, ReadsR 1 intC B w b.m b.rs

theorem ReadsK.below {B : Nat} {w w' : World} {v : Value} {bs : List Pk} (h : ReadsK B w v bs) (k : Below B w w') : ReadsK B w' v bs := ⟨h.row.below k, fun b hb => (h.maps b hb).below k⟩

theorem ReadsK.mono {B B' : Nat} {w : World} {v : Value} {bs : List Pk} (h : ReadsK B w v bs) (k : B ≤ B') : ReadsK B' w v bs := ⟨h.row.mono k, fun b hb => (h.maps b hb).mono k⟩

theorem toIntsK_any (v : Value) (ps : List Int) (w : World) (hn : ps.length ≤ 1048576) (hp : ReadsR 1 intC w.heap.size w v ps) :
    Calls Tryz.prog 108 #[v] w fun e w' => e = .returned (.slice (some ⟨w.heap.size, 0, none⟩) ps.length ps.length) ∧ w'.ownsRow w.heap.size 2 1 (.slice (some ⟨w.heap.size, 0, none⟩) ps.length ps.length) ps.length (ps.flatMap intC) ∧ Below w.heap.size w w' := by
  rw [flat_intC]
  exact toInts_any v ps w hn (readsK_to hp)

theorem eqIntsK_any (v1 v2 : Value) (xs ys : List Int) (w : World) (h1 : ReadsR 1 intC w.heap.size w v1 xs) (h2 : ReadsR 1 intC w.heap.size w v2 ys) :
    Calls Tryz.prog 109 #[v1, v2] w fun e w' => e = .returned (.bool (decide (xs = ys))) ∧ Below w.heap.size w w' := eqInts_any v1 v2 xs ys w (readsK_to h1) (readsK_to h2)

theorem markedKRow_any (v : Value) (base : Nat) (k : Int) (xs : List Int) (w : World) (hk : 0 ≤ k) (hk2 : k ≤ 1073741824) (hn : xs.length ≤ 1048576) (hbase : base ≤ w.heap.size) (own : w.ownsRow base 2 1 v xs.length (xs.flatMap intC)) :
    Calls Tryz.prog 66 #[v, .int .i64 k] w fun e w' => e = .returned (.int .i64 (k + xs.length)) ∧ w'.ownsRow base 2 1 v (marksI k xs.length).length ((marksI k xs.length).flatMap intC) ∧ Below base w w' ∧ w.heap.size ≤ w'.heap.size ∧ ∀ i, i < w.heap.size → v.ownBlock ≠ some i → w'.heap[i]? = w.heap[i]? := by
  rw [flat_intC] at own
  rw [flat_intC, marksI_length]
  exact markedIRow_any v xs.length base k _ w hk (by omega) hbase own

theorem heldK_any (v : Value) (n : Nat) (k : Int) (w : World) (hk : 0 ≤ k) (hk2 : k ≤ 1073741824) (hn : n ≤ 1048576) (hr : ReadsR 1 intC w.heap.size w v (marksI k n)) :
    Calls Tryz.prog 67 #[v, .int .i64 k] w fun e w' => e = .returned (.int .i64 (k + n)) ∧ Below w.heap.size w w' := heldI_any v n k w hk (by omega) (readsK_to hr)
end Go.Proofs.YtcefcglonooelaaGreatDoor

namespace Go.Proofs.YtcefcglonooelaaGreatDoor
open Go.ChangeShapes Go.WideShapes Go.ChangeAt Go.RowKit Go.Deep Go.Joins

set_option linter.unusedVariables false

set_option maxRecDepth 100000


/-- A book's five cells, read out of whatever they lie in. -/
theorem plain_cells {H : Type} {enc : TypeId × Value → H} {W : World} {n : Nat} {cs : List Value} {y : DataW H × List MemPlace} (h : DataW.trod enc Tryz.prog W 0 (fun _ => true) true n 93 cs = some y) :
    ∃ b : Pk, cs = pkC b ∧ ReadsR 1 intC W.heap.size W b.m b.rs ∧ b.nm.size ≤ maxLen ∧ I64 b.sz ∧ I64 b.ep := by
  have ce : Tryz.prog.cellsOf 93 = 5 := by kernel_rfl
  have c1 : Tryz.prog.cellsOf 2 = 1 := by kernel_rfl
  have c2 : Tryz.prog.cellsOf 9 = 1 := by kernel_rfl
  have c3 : Tryz.prog.cellsOf 4 = 1 := by kernel_rfl
  have c4 : Tryz.prog.cellsOf 37 = 1 := by kernel_rfl
  obtain ⟨xs, m, _, -, hl, hlen, hf⟩ := DataW.trod_struct Tryz.underlying93 h
  obtain ⟨v0, v1, v2, v3, v4, rfl⟩ := list5 (hl.trans ce)
  obtain ⟨y0, y1, y2, y3, y4, rfl⟩ := list5 (show xs.length = 5 from hlen)
  have t0 := hf 0 _ rfl
  have t1 := hf 1 _ rfl
  have t2 := hf 2 _ rfl
  have t3 := hf 3 _ rfl
  have t4 := hf 4 _ rfl
  simp [c1, c2, c3, c4] at t0 t1 t2 t3 t4
  obtain ⟨nm, e0, _, z0⟩ := DataW.trod_string Tryz.underlying9 t0
  obtain ⟨sz, e1, _, z1⟩ := DataW.trod_int Tryz.underlying2 t1
  obtain ⟨rs, r2, _⟩ := row_i64 t2
  replace r2 := readsK_of r2
  obtain ⟨fx, e3, _⟩ := DataW.trod_bool Tryz.underlying4 t3
  obtain ⟨ep, e4, _, z4⟩ := DataW.trod_int Tryz.underlying2 t4
  simp at e0 e1 e3 e4
  subst e0 e1 e3 e4
  exact ⟨⟨nm, sz, v2, rs, fx, ep⟩, rfl, r2, z0, lit_i64 z1, lit_i64 z4⟩

theorem open_plains {H : Type} {enc : TypeId × Value → H} {W : World} {base : Nat} {v : Value} {d : DataW H} {p : List MemPlace} (hv : Value.okWide Tryz.prog W .any base 53 v) (h : DataW.Trod enc Tryz.prog W 0 (fun _ => true) true 53 v d p) :
    ∃ bs : List Pk, ReadsK W.heap.size W v bs ∧ ∀ b ∈ bs, b.nm.size ≤ maxLen := by
  obtain ⟨o, len, cap, rfl⟩ := okWide_slice Tryz.underlying53 hv
  obtain ⟨n, hn⟩ := h
  rcases open_slice Tryz.underlying53 hn with ⟨hcs, _⟩ | ⟨a, len', cap', m, k, D, Pl, hcs, _, hl, hm, hmm, _, hx⟩
  · simp [Value.cells] at hcs
    obtain ⟨rfl, rfl, rfl⟩ := hcs
    exact ⟨[], ⟨ReadsR.nil _ _ _ _, fun b hb => by cases hb⟩, fun b hb => by cases hb⟩
  · simp [Value.cells] at hcs
    obtain ⟨rfl, rfl, rfl⟩ := hcs
    have hlm : len ≤ m := by rw [hmm]; split <;> omega
    have ce : Tryz.prog.cellsOf 93 = 5 := by kernel_rfl
    have each : ∀ i, i < len → ∃ b : Pk, (∀ j u, (pkC b)[j]? = some u → W.cell? (a.add (i * 5 + j)) = some u) ∧ ReadsR 1 intC W.heap.size W b.m b.rs ∧ b.nm.size ≤ maxLen := by
      intro i hi
      obtain ⟨cs', h1, h2⟩ := hx i (by omega)
      rw [ce] at h1
      obtain ⟨_, hlen, hcell⟩ := World.cells?_some h1
      obtain ⟨b, rfl, hr, hnn, -, -⟩ := plain_cells h2
      refine ⟨b, fun j u hj => ?_, hr, hnn⟩
      have hj5 : j < 5 := by have := (List.getElem?_eq_some_iff.1 hj).1; rwa [pkC_len] at this
      have q := hcell j hj5
      rw [add_add] at q
      rw [q]
      exact hj
    have hin : Inhabited Pk := ⟨⟨ByteArray.empty, 0, .slice none 0 0, [], false, 0⟩⟩
    obtain ⟨r, hr⟩ := choose_lt each
    have hmem : ∀ x ∈ (List.range len).map r, ReadsR 1 intC W.heap.size W x.m x.rs ∧ x.nm.size ≤ maxLen := fun x hx => by
      obtain ⟨i, hi, rfl⟩ := List.mem_map.1 hx
      exact (hr i (List.mem_range.1 hi)).2
    refine ⟨(List.range len).map r, ⟨⟨some a, cap, by simp, by simp; omega, fun i x hi => ?_, by simp; omega⟩, fun b hb => (hmem b hb).1⟩, fun b hb => (hmem b hb).2⟩
    have hil : i < len := by have := (List.getElem?_eq_some_iff.1 hi).1; simpa using this
    have ex : r i = x := by
      rw [List.getElem?_map, List.getElem?_range hil] at hi
      simpa using hi
    have h0 := (hr i hil).1
    rw [ex] at h0
    obtain ⟨b, off, spot⟩ := a
    have hspot : spot = none := by simpa [Addr.add] using World.cell?_spot ((hr 0 (by omega)).1 0 _ rfl)
    subst hspot
    have e : ∀ z, (⟨b, off, none⟩ : Addr).add z = ⟨b, off + z, none⟩ := fun z => by unfold Addr.add; split <;> simp_all
    have hb : b < W.heap.size := by
      have q := h0 0 _ rfl
      rw [e] at q
      rcases Nat.lt_or_ge b W.heap.size with g | g
      · exact g
      · simp [World.cell?, Array.getElem?_eq_none g] at q
    refine ⟨b, off, rfl, hb, fun j u hj => ?_⟩
    have q := h0 j u hj
    rw [e] at q
    rw [Nat.add_assoc]
    exact q
end Go.Proofs.YtcefcglonooelaaGreatDoor

