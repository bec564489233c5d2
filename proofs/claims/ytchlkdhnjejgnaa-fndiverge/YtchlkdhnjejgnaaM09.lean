/-
  Contracts and plain laws, one chapter behind the other.
-/
import Derived.Deep.WholeRow
import Derived.Deep.RegionHeld3
import Derived.LaidEql
import Derived.Stop.Asserts
import Derived.RowKitTokens
import Derived.RangeFuncBox
import Derived.Test.YtchlkdhnjejgnaaM01
import Derived.Test.YtchlkdhnjejgnaaM02
import Derived.Test.YtchlkdhnjejgnaaM03
import Derived.Test.YtchlkdhnjejgnaaM04
import Derived.Test.YtchlkdhnjejgnaaM06
import Derived.Test.YtchlkdhnjejgnaaM07
import Derived.Test.YtchlkdhnjejgnaaM08
namespace Go.Proofs.Ytchlkdhnjejgnaa
open Go.RowKit

set_option linter.unusedVariables false

set_option maxRecDepth 100000


/-- What Did answers, plain. -/
def didOp (s : Sf) (o : Oq) : Sf × (Int × Int) := if shelfOk s = true then doOp s o else (⟨[], [], []⟩, (1, 0))

theorem didOp_no {s : Sf} {o : Oq} (h : shelfOk s = false) : didOp s o = (⟨[], [], []⟩, (1, 0)) := by rw [didOp, if_neg (by rw [h]; decide)]

theorem didOp_yes {s : Sf} {o : Oq} (h : shelfOk s = true) : didOp s o = doOp s o := by rw [didOp, if_pos h]

/-- How Did ends: the shelf and the reply are laid into their boxes. -/
theorem did_end {w W : World} {c d : Nat} {x0 x1 x2 x3 x4 : Value} {T U : TypeId} (kc : W.heap[c]? = some (.cells #[x0, x1, x2] T (0, 0))) (kd : W.heap[d]? = some (.cells #[x3, x4] U (0, 0))) (hcd : ¬ c = d) (hb : w.heap.size ≤ c ∧ w.heap.size ≤ d) (h0 : Below w.heap.size w W) (y0 y1 y2 y3 y4 : Value) :
    (((((W.setCell ⟨c, 0, none⟩ y0).setCell ⟨c, 1, none⟩ y1).setCell ⟨c, 2, none⟩ y2).setCell ⟨d, 0, none⟩ y3).setCell ⟨d, 1, none⟩ y4).heap[c]? = some (.cells #[y0, y1, y2] T (0, 0)) ∧
    (((((W.setCell ⟨c, 0, none⟩ y0).setCell ⟨c, 1, none⟩ y1).setCell ⟨c, 2, none⟩ y2).setCell ⟨d, 0, none⟩ y3).setCell ⟨d, 1, none⟩ y4).heap[d]? = some (.cells #[y3, y4] U (0, 0)) ∧
    Below w.heap.size w (((((W.setCell ⟨c, 0, none⟩ y0).setCell ⟨c, 1, none⟩ y1).setCell ⟨c, 2, none⟩ y2).setCell ⟨d, 0, none⟩ y3).setCell ⟨d, 1, none⟩ y4) := by
  have hdc : d ≠ c := fun e => hcd e.symm
  have e1 := set_at (set_at (set_at kc 0 y0) 1 y1) 2 y2
  have e2 : (((W.setCell ⟨c, 0, none⟩ y0).setCell ⟨c, 1, none⟩ y1).setCell ⟨c, 2, none⟩ y2).heap[d]? = some (.cells #[x3, x4] U (0, 0)) :=
    (Below.heap_setCell _ ⟨c, 2, none⟩ y2 d hdc).trans ((Below.heap_setCell _ ⟨c, 1, none⟩ y1 d hdc).trans ((Below.heap_setCell _ ⟨c, 0, none⟩ y0 d hdc).trans kd))
  refine ⟨(Below.heap_setCell _ ⟨d, 1, none⟩ y4 c hcd).trans ((Below.heap_setCell _ ⟨d, 0, none⟩ y3 c hcd).trans e1), set_at (set_at e2 0 y3) 1 y4, ?_⟩
  exact bw_set (p := ⟨d, 1, none⟩) (bw_set (p := ⟨d, 0, none⟩) (bw_set (p := ⟨c, 2, none⟩) (bw_set (p := ⟨c, 1, none⟩) (bw_set (p := ⟨c, 0, none⟩) h0 hb.1 _) hb.1 _) hb.1 _) hb.2 _) hb.2 _

theorem did_end2 {w W : World} {c d : Nat} {x0 x1 x2 x3 x4 : Value} {T U : TypeId} (kc : W.heap[c]? = some (.cells #[x0, x1, x2] T (0, 0))) (kd : W.heap[d]? = some (.cells #[x3, x4] U (0, 0))) (hcd : ¬ c = d) (hb : w.heap.size ≤ c ∧ w.heap.size ≤ d) (h0 : Below w.heap.size w W) (y0 y1 y2 y3 y4 : Value) :
    (((((W.setCell ⟨d, 0, none⟩ y3).setCell ⟨d, 1, none⟩ y4).setCell ⟨c, 0, none⟩ y0).setCell ⟨c, 1, none⟩ y1).setCell ⟨c, 2, none⟩ y2).heap[c]? = some (.cells #[y0, y1, y2] T (0, 0)) ∧
    (((((W.setCell ⟨d, 0, none⟩ y3).setCell ⟨d, 1, none⟩ y4).setCell ⟨c, 0, none⟩ y0).setCell ⟨c, 1, none⟩ y1).setCell ⟨c, 2, none⟩ y2).heap[d]? = some (.cells #[y3, y4] U (0, 0)) ∧
    Below w.heap.size w (((((W.setCell ⟨d, 0, none⟩ y3).setCell ⟨d, 1, none⟩ y4).setCell ⟨c, 0, none⟩ y0).setCell ⟨c, 1, none⟩ y1).setCell ⟨c, 2, none⟩ y2) := by
  have hdc : d ≠ c := fun e => hcd e.symm
  have e2 := set_at (set_at kd 0 y3) 1 y4
  have e1 : ((W.setCell ⟨d, 0, none⟩ y3).setCell ⟨d, 1, none⟩ y4).heap[c]? = some (.cells #[x0, x1, x2] T (0, 0)) :=
    (Below.heap_setCell _ ⟨d, 1, none⟩ y4 c hcd).trans ((Below.heap_setCell _ ⟨d, 0, none⟩ y3 c hcd).trans kc)
  refine ⟨set_at (set_at (set_at e1 0 y0) 1 y1) 2 y2, (Below.heap_setCell _ ⟨c, 2, none⟩ y2 d hdc).trans ((Below.heap_setCell _ ⟨c, 1, none⟩ y1 d hdc).trans ((Below.heap_setCell _ ⟨c, 0, none⟩ y0 d hdc).trans e2)), ?_⟩
  exact bw_set (p := ⟨c, 2, none⟩) (bw_set (p := ⟨c, 1, none⟩) (bw_set (p := ⟨c, 0, none⟩) (bw_set (p := ⟨d, 1, none⟩) (bw_set (p := ⟨d, 0, none⟩) h0 hb.2 _) hb.2 _) hb.1 _) hb.1 _) hb.1 _
end Go.Proofs.Ytchlkdhnjejgnaa

namespace Go.Proofs.Ytchlkdhnjejgnaa
open Go.RowKit

set_option linter.unusedVariables false

set_option maxRecDepth 100000


theorem wpList_load_arr {P : Program} {w : World} {ops : Array Oper} {rest : List Oper} {o : Oper} {a : Act} {Q : Exit → Act → World → Prop} (hgd : o.guard = none) (p : Operand) (t : TypeId) (ho : o.op = .load t p)
    (g : Nat) (hp : a.eval p = .pointer (some ⟨g, 0, none⟩)) (cs : Array Value) (ty : TypeId) (fr : Nat × Nat) (hg : w.heap[g]? = some (.cells cs ty fr)) (d : TypeDesc) (hu : P.underlying t = some d)
    (hd : (match d with | .struct _ | .array _ _ => true | _ => false) = true) (hi : (P.info? t).map (·.size) = some cs.size)
    (h : wpList P ops Q rest (a.put o.dst (.agg cs)) w) : wpList P ops Q (o :: rest) a w :=
  wpList_plain hgd fun K hK => by
    have hKK := hK _ _ h
    have hr := run_loadVar_row (P := P) w g ty t cs fr d hg hu hd hi
    unfold Oper.wp execOp
    simp only [ho, hp, Instr.loadAt, Instr.sureAddr, Sem.run_bind, Sem.run_pure, Result.andThen_ok, hr]
    exact hKK

theorem wpList_store_arr {P : Program} {w : World} {ops : Array Oper} {rest : List Oper} {o : Oper} {a : Act} {Q : Exit → Act → World → Prop} (hgd : o.guard = none) (p x : Operand) (t : TypeId) (ho : o.op = .store t p x)
    (g : Nat) (hp : a.eval p = .pointer (some ⟨g, 0, none⟩)) (cs : Array Value) (hx : a.eval x = .agg cs) (old : Array Value) (ty : TypeId) (hg : w.heap[g]? = some (.cells old ty (0, 0)))
    (hi : (P.info? t).map (·.size) = some cs.size) (hs : old.size = cs.size) (h1 : cs.all (·.oneCell') = true)
    (h : wpList P ops Q rest (a.put o.dst undef) (w.setRow g cs)) : wpList P ops Q (o :: rest) a w :=
  wpList_plain hgd fun K hK => by
    have hKK := hK _ _ h
    have hr := run_storeVar_row (P := P) w g ty t old cs hg hi hs h1
    unfold Oper.wp execOp
    simp only [ho, hp, hx, Instr.storeAt, Instr.sureAddr, Sem.run_bind, Sem.run_pure, Result.andThen_ok, hr]
    exact hKK

theorem setRow_row {w : World} {g : Nat} {old cs : Array Value} {ty : TypeId} {fr : Nat × Nat} (hg : w.heap[g]? = some (.cells old ty fr)) : (w.setRow g cs).heap[g]? = some (.cells cs ty fr) := by
  simp only [World.setRow, Array.getElem?_modify, hg, if_true]
  rfl

theorem setRow_below {w : World} {g B : Nat} {cs : Array Value} (h : B ≤ g) : Below B w (w.setRow g cs) := by
  refine ⟨rfl, rfl, rfl, by simp [World.setRow], fun k hk => ?_⟩
  simp only [World.setRow, Array.getElem?_modify]
  rw [if_neg (by omega)]

/-- The cells of a row that fills its block. -/
theorem own_cells {w : World} {base g n : Nat} {e : TypeId} {xs : List Value} (h : w.ownsRow base e 1 (.slice (some ⟨g, 0, none⟩) n n) n xs) : ∃ cur : Array Value, w.heap[g]? = some (.cells cur e (0, 0)) ∧ cur.toList = xs := by
  rcases h.2 with ⟨h', _⟩ | ⟨g', cap', cur, h', _, hg, _, _, hs, ht⟩
  · simp at h'
  · simp only [Value.slice.injEq, Option.some.injEq, Addr.mk.injEq, and_true, true_and] at h'
    obtain ⟨rfl, rfl⟩ := h'
    refine ⟨cur, hg, ?_⟩
    rw [← ht, List.take_of_length_le]
    rw [Array.length_toList, hs]
    exact Nat.le_refl _

theorem one_cells (xs : List Int) (c : Array Value) (h : c.toList = xs.map (Value.int .i64)) : c.all (·.oneCell') = true := by
  rw [Array.all_eq_true_iff_forall_mem]
  intro u hu
  have : u ∈ c.toList := by simpa using hu
  rw [h] at this
  obtain ⟨x, _, rfl⟩ := List.mem_map.1 this
  rfl
end Go.Proofs.Ytchlkdhnjejgnaa

namespace Go.Proofs.Ytchlkdhnjejgnaa
open Go.RowKit

set_option linter.unusedVariables false

set_option maxRecDepth 100000


/-- A book's five cells, written. -/
theorem set_five {W : World} {b : Nat} {x0 x1 x2 x3 x4 : Value} {t : TypeId} (h : W.heap[b]? = some (.cells #[x0, x1, x2, x3, x4] t (0, 0))) (y0 y1 y2 y3 y4 : Value) :
    (((((W.setCell ⟨b, 0, none⟩ y0).setCell ⟨b, 1, none⟩ y1).setCell ⟨b, 2, none⟩ y2).setCell ⟨b, 3, none⟩ y3).setCell ⟨b, 4, none⟩ y4).heap[b]? = some (.cells #[y0, y1, y2, y3, y4] t (0, 0)) :=
  set_at (set_at (set_at (set_at (set_at h 0 y0) 1 y1) 2 y2) 3 y3) 4 y4

theorem bw_five {w W : World} {b : Nat} (h : Below w.heap.size w W) (hb : w.heap.size ≤ b) (y0 y1 y2 y3 y4 : Value) :
    Below w.heap.size w (((((W.setCell ⟨b, 0, none⟩ y0).setCell ⟨b, 1, none⟩ y1).setCell ⟨b, 2, none⟩ y2).setCell ⟨b, 3, none⟩ y3).setCell ⟨b, 4, none⟩ y4) :=
  bw_set (bw_set (bw_set (bw_set (bw_set h hb _) hb _) hb _) hb _) hb _

set_option maxHeartbeats 800000 in
theorem specFindBook_any (v : Value) (bs : List Bk) (n : ByteArray) (w : World) (r : ReadsR 5 bookC w.heap.size w v bs) :
    Calls Try.prog 75 #[v, .string n] w fun e w' => e = .returned (.int .i64 (findB bs n)) ∧ w' = w := by
  obtain ⟨o, cap, rfl, hm, hc, -⟩ := r
  have HC : Hid (∀ i (hi : i < bs.length), ∃ g off, o = some ⟨g, off, none⟩ ∧ w.cell? ⟨g, off + i * 5, none⟩ = some (.string bs[i].nm)) := fun i hi => by
    obtain ⟨g, off, e, -, hx⟩ := hc i bs[i] (List.getElem?_eq_getElem hi)
    exact ⟨g, off, e, hx 0 _ rfl⟩
  unfold maxLen at hm
  clear hc
  go_enter Try.func75, Try.ntmps75
  go_wp2_with fail
  go_loopw [5] (fun i wr => ∃ k : Nat, k ≤ bs.length ∧ i = .int .i64 k ∧ findB bs n = findFrom n ((bs.map Bk.nm).drop k) k ∧ wr = w) (fun i _ => bs.length - (intOf i).toNat)
  case atStart => exact ⟨0, Nat.zero_le _, rfl, rfl, rfl⟩
  case round =>
    obtain ⟨k, hk, rfl, hf, rfl⟩ := hrel
    by_cases hlt : k < bs.length
    · obtain ⟨g, off, rfl, a0⟩ := HC.out k hlt
      rw [find_at bs n k hlt] at hf
      have HF : Hid _ := hf
      clear hf HC
      generalize bs[k].nm = x at a0 HF
      by_cases hx : x = n
      · have hq : (x.toList == n.toList) = true := by rw [text_eq]; exact decide_eq_true hx
        have HV : Hid (findB bs n = k) := by have := HF.out; rwa [if_pos hx] at this
        clear HF hx
        go_wp2_with fail
        go_ret
        exact ⟨ret_int HV.out.symm, rfl⟩
      · have hq : (x.toList == n.toList) = false := by rw [text_eq]; exact decide_eq_false hx
        have HV : Hid (findB bs n = findFrom n ((bs.map Bk.nm).drop (k + 1)) (k + 1)) := by have := HF.out; rwa [if_neg hx] at this
        clear HF hx
        go_wp2_with fail
        go_roundw
        case rel => exact ⟨k + 1, by omega, by go_num, HV.out, by trivial⟩
        case measure => simp [intOf]; omega
    · rw [find_end bs n k hlt] at hf
      have HF : Hid _ := hf
      clear hf HC
      go_wp2_with fail
      go_ret
      exact ⟨ret_int HF.out.symm, rfl⟩
end Go.Proofs.Ytchlkdhnjejgnaa

namespace Go.Proofs.Ytchlkdhnjejgnaa
open Go.RowKit

set_option linter.unusedVariables false

set_option maxRecDepth 100000

/-- A book's five cells in a row. -/
theorem five_cells {B : Nat} {w : World} {o : Option Addr} {bs : List Bk} (hc : ∀ i x, bs[i]? = some x → ∃ g off, o = some ⟨g, off, none⟩ ∧ g < B ∧ ∀ j u, (bookC x)[j]? = some u → w.cell? ⟨g, off + i * 5 + j, none⟩ = some u) (i : Nat) (hi : i < bs.length) :
    ∃ g off, o = some ⟨g, off, none⟩ ∧ g < B ∧ w.cell? ⟨g, off + i * 5, none⟩ = some (.string bs[i].nm) ∧ w.cell? ⟨g, off + i * 5 + 1, none⟩ = some (.int .i64 bs[i].sz) ∧ w.cell? ⟨g, off + i * 5 + 2, none⟩ = some bs[i].m ∧ w.cell? ⟨g, off + i * 5 + 3, none⟩ = some (.bool bs[i].fx) ∧ w.cell? ⟨g, off + i * 5 + 4, none⟩ = some (.int .i64 bs[i].ep) := by
  obtain ⟨g, off, e, hg, hx⟩ := hc i bs[i] (List.getElem?_eq_getElem hi)
  exact ⟨g, off, e, hg, hx 0 _ rfl, hx 1 _ rfl, hx 2 _ rfl, hx 3 _ rfl, hx 4 _ rfl⟩

theorem Try.infoBook : (Try.prog.info? 39).map (fun i => (i.zero, i.size, i.bytes)) = some (some (.agg #[.string ByteArray.empty, .int .i64 0, .slice none 0 0, .bool false, .int .i64 0]), 5, 64) := by kernel_rfl

theorem own_five {w : World} {base g n cap : Nat} {xs : List Bk} (h : w.ownsRow base 39 5 (.slice (some ⟨g, 0, none⟩) n cap) xs.length (xs.flatMap bookC)) (i : Nat) (hi : i < xs.length) :
    (w.cell? ⟨g, i * 5, none⟩ = some (.string xs[i].nm) ∧ w.cell? ⟨g, i * 5 + 1, none⟩ = some (.int .i64 xs[i].sz) ∧ w.cell? ⟨g, i * 5 + 2, none⟩ = some xs[i].m ∧ w.cell? ⟨g, i * 5 + 3, none⟩ = some (.bool xs[i].fx) ∧ w.cell? ⟨g, i * 5 + 4, none⟩ = some (.int .i64 xs[i].ep)) ∧ w.frozen? ⟨g, i * 5, none⟩ = false ∧ w.frozen? ⟨g, i * 5 + 1, none⟩ = false ∧ w.frozen? ⟨g, i * 5 + 2, none⟩ = false ∧ w.frozen? ⟨g, i * 5 + 3, none⟩ = false ∧ w.frozen? ⟨g, i * 5 + 4, none⟩ = false := by
  obtain ⟨a0, b0⟩ := own_cell bookC_len h i 0 _ (List.getElem?_eq_getElem hi) (by omega)
  obtain ⟨a1, b1⟩ := own_cell bookC_len h i 1 _ (List.getElem?_eq_getElem hi) (by omega)
  obtain ⟨a2, b2⟩ := own_cell bookC_len h i 2 _ (List.getElem?_eq_getElem hi) (by omega)
  obtain ⟨a3, b3⟩ := own_cell bookC_len h i 3 _ (List.getElem?_eq_getElem hi) (by omega)
  obtain ⟨a4, b4⟩ := own_cell bookC_len h i 4 _ (List.getElem?_eq_getElem hi) (by omega)
  exact ⟨⟨a0, a1, a2, a3, a4⟩, b0, b1, b2, b3, b4⟩

/-- A row of books of one's own: the row, and each map. -/
structure OwnB (base : Nat) (w : World) (v : Value) (bs : List Bk) : Prop where
  row : w.ownsRow base 39 5 v bs.length (bs.flatMap bookC)
  maps : ∀ b ∈ bs, w.ownsRow base 102 3 b.m b.rs.length (b.rs.flatMap runC)

theorem OwnB.reads {base : Nat} {w : World} {v : Value} {bs : List Bk} (h : OwnB base w v bs) : ReadsB w.heap.size w v bs := ⟨ReadsR.of_own bookC_len h.row, fun b hb => ReadsR.of_own runC_len (h.maps b hb)⟩

theorem OwnB.below {base : Nat} {w w' : World} {v : Value} {bs : List Bk} (h : OwnB base w v bs) (k : Below w.heap.size w w') : OwnB base w' v bs := ⟨owns_below h.row k, fun b hb => owns_below (h.maps b hb) k⟩

theorem OwnB.mono {base base' : Nat} {w : World} {v : Value} {bs : List Bk} (h : OwnB base w v bs) (k : base' ≤ base) : OwnB base' w v bs := ⟨owns_mono h.row k, fun b hb => owns_mono (h.maps b hb) k⟩

/-- No two maps lie in one block. -/
def ApartM (ms : List Bk) : Prop := ms.Pairwise (fun a b => ∀ g, a.m.ownBlock = some g → b.m.ownBlock ≠ some g)

theorem ApartM.snoc {ms : List Bk} (h : ApartM ms) (y : Bk) (hy : ∀ b ∈ ms, ∀ g, b.m.ownBlock = some g → y.m.ownBlock ≠ some g) : ApartM (ms ++ [y]) :=
  List.pairwise_append.2 ⟨h, List.pairwise_singleton _ _, fun a ha b hb => by simp only [List.mem_singleton] at hb; subst hb; exact hy a ha⟩
end Go.Proofs.Ytchlkdhnjejgnaa

namespace Go.Proofs.Ytchlkdhnjejgnaa
open Go.RowKit

set_option linter.unusedVariables false

set_option maxRecDepth 100000

theorem text_nil (s : ByteArray) : (s.toList == (⟨#[]⟩ : ByteArray).toList) = decide (s.size = 0) := by
  rw [text_eq, decide_eq_decide]
  constructor
  · intro h; rw [h]; rfl
  · intro h; apply ext_list; exact List.length_eq_zero_iff.1 (by simpa using h)

theorem text_none2 (s : ByteArray) : s.toList = [] ↔ s.size = 0 := by
  have h := text_nil s
  have e : (⟨#[]⟩ : ByteArray).toList = [] := by rw [ByteArray.toList_eq]
  rw [e, Bool.eq_iff_iff, beq_iff_eq, decide_eq_true_eq] at h
  exact h

set_option maxHeartbeats 6400000 in
theorem specOpOk_any (k : Int) (nm ot : ByteArray) (at_ va ep : Int) (w : World) (hn : nm.size ≤ maxLen) (ho : ot.size ≤ maxLen) :
    Calls Try.prog 63 #[.agg #[.int .i64 k, .string nm, .string ot, .int .i64 at_, .int .i64 va, .int .i64 ep]] w fun e w' => e = .returned (.bool (opOk ⟨k, nm, ot, at_, va, ep⟩)) ∧ Below w.heap.size w w' := by
  obtain ⟨W0, hW0, k0, d0, z0⟩ := box1 w #[.int .i64 k, .string nm, .string ot, .int .i64 at_, .int .i64 va, .int .i64 ep] 31
  have HW0 : Hid (W0 = _) := hW0
  have p0 := at_cell k0 0
  have p1 := at_cell k0 1
  have p2 := at_cell k0 2
  have p3 := at_cell k0 3
  have p4 := at_cell k0 4
  have p5 := at_cell k0 5
  clear hW0 k0
  go_enter Try.func63, Try.ntmps63
  go_wp2_with fail
  rw [← HW0.out]
  clear HW0
  refine (specName_any nm _ hn).mono ?_
  rintro e w' ⟨rfl, rfl⟩
  cases h1 : Nums.nameB nm.data.toList
  · have HV : Hid (opOk ⟨k, nm, ot, at_, va, ep⟩ = false) := by simp [Hid, opOk, h1]
    clear h1
    go_wp2_with fail
    go_ret
    exact ⟨ret_bool HV.out.symm, d0⟩
  have H1 : Hid _ := h1
  clear h1
  go_wp2_with fail
  refine (l1In_any k 1 9 _).mono ?_
  rintro e w' ⟨rfl, rfl⟩
  cases h2 : (decide (1 ≤ k) && decide (k ≤ 9))
  · have HV : Hid (opOk ⟨k, nm, ot, at_, va, ep⟩ = false) := by simp [Hid, opOk, inB, h2]
    clear h2
    go_wp2_with fail
    go_ret
    exact ⟨ret_bool HV.out.symm, d0⟩
  have h2' : k = 1 ∨ k = 2 ∨ k = 3 ∨ k = 4 ∨ k = 5 ∨ k = 6 ∨ k = 7 ∨ k = 8 ∨ k = 9 := by simp at h2; omega
  clear h2
  have e0 := text_none2 ot
  rcases h2' with rfl | rfl | rfl | rfl | rfl | rfl | rfl | rfl | rfl
  · cases h3 : decide (ot.size = 0)
    · have h3' : ¬ ot.size = 0 := of_decide_eq_false h3
      have HV : Hid (opOk ⟨1, nm, ot, at_, va, ep⟩ = false) := by simp [Hid, opOk, inB, kOther, kAt, kEpoch, kSize, valOk, h3']
      have e1 : ¬ ot.toList = [] := fun h => h3' (e0.1 h)
      clear e0
      go_wp2_with fail
      go_ret
      exact ⟨ret_bool HV.out.symm, d0⟩
    · have h3' : ot.size = 0 := of_decide_eq_true h3
      have e1 : ot.toList = [] := e0.2 h3'
      clear e0
      by_cases h5 : ¬ at_ = 0
      · have HV : Hid (opOk ⟨1, nm, ot, at_, va, ep⟩ = false) := by simp [Hid, opOk, inB, kOther, kAt, kEpoch, kSize, valOk, h5]
        have hq : (at_ != 0) = true := by rw [bne_iff_ne]; exact h5
        go_wp2_with fail
        go_ret
        exact ⟨ret_bool HV.out.symm, d0⟩
      obtain rfl : at_ = 0 := by omega
      clear h5
      go_wp2_with fail
      refine (l1In_any 0 0 255 _).mono ?_
      rintro e w' ⟨rfl, rfl⟩
      by_cases h7 : ¬ ep = 0
      · have HV : Hid (opOk ⟨1, nm, ot, 0, va, ep⟩ = false) := by simp [Hid, opOk, inB, kOther, kAt, kEpoch, kSize, valOk, h7]
        have hq : (ep != 0) = true := by rw [bne_iff_ne]; exact h7
        go_wp2_with fail
        go_ret
        exact ⟨ret_bool HV.out.symm, d0⟩
      obtain rfl : ep = 0 := by omega
      clear h7
      go_wp2_with fail
      refine (l1In_any 0 0 1000 _).mono ?_
      rintro e w' ⟨rfl, rfl⟩
      have HV : Hid (opOk ⟨1, nm, ot, 0, va, 0⟩ = (decide ((1 : Int) ≤ va) && decide (va ≤ 16))) := by simp [Hid, opOk, inB, kOther, kAt, kEpoch, kSize, valOk, H1.out, h3']
      go_wp2_with fail
      refine (l1In_any va 1 16 _).mono ?_
      rintro e w' ⟨rfl, rfl⟩
      go_wp2_with fail
      go_ret
      exact ⟨ret_bool HV.out.symm, d0⟩
  · cases h3 : decide (ot.size = 0)
    · have h3' : ¬ ot.size = 0 := of_decide_eq_false h3
      have HV : Hid (opOk ⟨2, nm, ot, at_, va, ep⟩ = false) := by simp [Hid, opOk, inB, kOther, kAt, kEpoch, kSize, valOk, h3']
      have e1 : ¬ ot.toList = [] := fun h => h3' (e0.1 h)
      clear e0
      go_wp2_with fail
      go_ret
      exact ⟨ret_bool HV.out.symm, d0⟩
    · have h3' : ot.size = 0 := of_decide_eq_true h3
      have e1 : ot.toList = [] := e0.2 h3'
      clear e0
      go_wp2_with fail
      refine (l1In_any at_ 0 255 _).mono ?_
      rintro e w' ⟨rfl, rfl⟩
      cases h6 : (decide ((0 : Int) ≤ at_) && decide (at_ ≤ 255))
      · have HV : Hid (opOk ⟨2, nm, ot, at_, va, ep⟩ = false) := by simp [Hid, opOk, inB, kOther, kAt, kEpoch, kSize, valOk, h6]
        clear h6
        go_wp2_with fail
        go_ret
        exact ⟨ret_bool HV.out.symm, d0⟩
      have H6 : Hid _ := h6
      clear h6
      go_wp2_with fail
      refine (l1In_any ep 0 1000 _).mono ?_
      rintro e w' ⟨rfl, rfl⟩
      cases h8 : (decide ((0 : Int) ≤ ep) && decide (ep ≤ 1000))
      · have HV : Hid (opOk ⟨2, nm, ot, at_, va, ep⟩ = false) := by simp [Hid, opOk, inB, kOther, kAt, kEpoch, kSize, valOk, h8]
        clear h8
        go_wp2_with fail
        go_ret
        exact ⟨ret_bool HV.out.symm, d0⟩
      have H8 : Hid _ := h8
      clear h8
      have HV : Hid (opOk ⟨2, nm, ot, at_, va, ep⟩ = (decide ((0 : Int) ≤ va) && decide (va ≤ 999))) := by simp [Hid, opOk, inB, kOther, kAt, kEpoch, kSize, valOk, H1.out, h3', H6.out, H8.out]
      go_wp2_with fail
      refine (l1In_any va 0 999 _).mono ?_
      rintro e w' ⟨rfl, rfl⟩
      go_wp2_with fail
      go_ret
      exact ⟨ret_bool HV.out.symm, d0⟩
  · cases h3 : decide (ot.size = 0)
    · have h3' : ¬ ot.size = 0 := of_decide_eq_false h3
      have HV : Hid (opOk ⟨3, nm, ot, at_, va, ep⟩ = false) := by simp [Hid, opOk, inB, kOther, kAt, kEpoch, kSize, valOk, h3']
      have e1 : ¬ ot.toList = [] := fun h => h3' (e0.1 h)
      clear e0
      go_wp2_with fail
      go_ret
      exact ⟨ret_bool HV.out.symm, d0⟩
    · have h3' : ot.size = 0 := of_decide_eq_true h3
      have e1 : ot.toList = [] := e0.2 h3'
      clear e0
      go_wp2_with fail
      refine (l1In_any at_ 0 255 _).mono ?_
      rintro e w' ⟨rfl, rfl⟩
      cases h6 : (decide ((0 : Int) ≤ at_) && decide (at_ ≤ 255))
      · have HV : Hid (opOk ⟨3, nm, ot, at_, va, ep⟩ = false) := by simp [Hid, opOk, inB, kOther, kAt, kEpoch, kSize, valOk, h6]
        clear h6
        go_wp2_with fail
        go_ret
        exact ⟨ret_bool HV.out.symm, d0⟩
      have H6 : Hid _ := h6
      clear h6
      go_wp2_with fail
      refine (l1In_any ep 0 1000 _).mono ?_
      rintro e w' ⟨rfl, rfl⟩
      cases h8 : (decide ((0 : Int) ≤ ep) && decide (ep ≤ 1000))
      · have HV : Hid (opOk ⟨3, nm, ot, at_, va, ep⟩ = false) := by simp [Hid, opOk, inB, kOther, kAt, kEpoch, kSize, valOk, h8]
        clear h8
        go_wp2_with fail
        go_ret
        exact ⟨ret_bool HV.out.symm, d0⟩
      have H8 : Hid _ := h8
      clear h8
      have HV : Hid (opOk ⟨3, nm, ot, at_, va, ep⟩ = decide (va = 0)) := by simp [Hid, opOk, inB, kOther, kAt, kEpoch, kSize, valOk, H1.out, h3', H6.out, H8.out]
      go_wp2_with fail
      go_ret
      exact ⟨ret_bool HV.out.symm, d0⟩
  · cases h3 : decide (ot.size = 0)
    · skip
      have h3' : ¬ ot.size = 0 := of_decide_eq_false h3
      have h3e : ¬ ot = ByteArray.empty := fun h => h3' (by rw [h]; rfl)
      have e1 : ¬ ot.toList = [] := fun h => h3' (e0.1 h)
      have e2 : ot.toList.isEmpty = false := by rw [Bool.eq_false_iff]; exact fun h => e1 (List.isEmpty_iff.1 h)
      clear e0
      go_wp2_with fail
      refine (specName_any ot _ ho).mono ?_
      rintro e w' ⟨rfl, rfl⟩
      cases h4 : Nums.nameB ot.data.toList
      · have HV : Hid (opOk ⟨4, nm, ot, at_, va, ep⟩ = false) := by simp [Hid, opOk, inB, kOther, kAt, kEpoch, kSize, valOk, h4]
        clear h4
        go_wp2_with fail
        go_ret
        exact ⟨ret_bool HV.out.symm, d0⟩
      have H4 : Hid _ := h4
      clear h4
      by_cases h5 : ¬ at_ = 0
      · have HV : Hid (opOk ⟨4, nm, ot, at_, va, ep⟩ = false) := by simp [Hid, opOk, inB, kOther, kAt, kEpoch, kSize, valOk, h5]
        have hq : (at_ != 0) = true := by rw [bne_iff_ne]; exact h5
        go_wp2_with fail
        go_ret
        exact ⟨ret_bool HV.out.symm, d0⟩
      obtain rfl : at_ = 0 := by omega
      clear h5
      go_wp2_with fail
      refine (l1In_any 0 0 255 _).mono ?_
      rintro e w' ⟨rfl, rfl⟩
      by_cases h7 : ¬ ep = 0
      · have HV : Hid (opOk ⟨4, nm, ot, 0, va, ep⟩ = false) := by simp [Hid, opOk, inB, kOther, kAt, kEpoch, kSize, valOk, h7]
        have hq : (ep != 0) = true := by rw [bne_iff_ne]; exact h7
        go_wp2_with fail
        go_ret
        exact ⟨ret_bool HV.out.symm, d0⟩
      obtain rfl : ep = 0 := by omega
      clear h7
      go_wp2_with fail
      refine (l1In_any 0 0 1000 _).mono ?_
      rintro e w' ⟨rfl, rfl⟩
      have HV : Hid (opOk ⟨4, nm, ot, 0, va, 0⟩ = decide (va = 0)) := by simp [Hid, opOk, inB, kOther, kAt, kEpoch, kSize, valOk, H1.out, H4.out, h3e]
      go_wp2_with fail
      go_ret
      exact ⟨ret_bool HV.out.symm, d0⟩
    · have h3' : ot.size = 0 := of_decide_eq_true h3
      have HV : Hid (opOk ⟨4, nm, ot, at_, va, ep⟩ = false) := by simp [Hid, opOk, inB, kOther, kAt, kEpoch, kSize, valOk, h3']
      have e1 : ot.toList = [] := e0.2 h3'
      have e2 : ot.toList.isEmpty = true := List.isEmpty_iff.2 e1
      clear e0
      go_wp2_with fail
      go_ret
      exact ⟨ret_bool HV.out.symm, d0⟩
  · cases h3 : decide (ot.size = 0)
    · skip
      have h3' : ¬ ot.size = 0 := of_decide_eq_false h3
      have h3e : ¬ ot = ByteArray.empty := fun h => h3' (by rw [h]; rfl)
      have e1 : ¬ ot.toList = [] := fun h => h3' (e0.1 h)
      have e2 : ot.toList.isEmpty = false := by rw [Bool.eq_false_iff]; exact fun h => e1 (List.isEmpty_iff.1 h)
      clear e0
      go_wp2_with fail
      refine (specName_any ot _ ho).mono ?_
      rintro e w' ⟨rfl, rfl⟩
      cases h4 : Nums.nameB ot.data.toList
      · have HV : Hid (opOk ⟨5, nm, ot, at_, va, ep⟩ = false) := by simp [Hid, opOk, inB, kOther, kAt, kEpoch, kSize, valOk, h4]
        clear h4
        go_wp2_with fail
        go_ret
        exact ⟨ret_bool HV.out.symm, d0⟩
      have H4 : Hid _ := h4
      clear h4
      by_cases h5 : ¬ at_ = 0
      · have HV : Hid (opOk ⟨5, nm, ot, at_, va, ep⟩ = false) := by simp [Hid, opOk, inB, kOther, kAt, kEpoch, kSize, valOk, h5]
        have hq : (at_ != 0) = true := by rw [bne_iff_ne]; exact h5
        go_wp2_with fail
        go_ret
        exact ⟨ret_bool HV.out.symm, d0⟩
      obtain rfl : at_ = 0 := by omega
      clear h5
      go_wp2_with fail
      refine (l1In_any 0 0 255 _).mono ?_
      rintro e w' ⟨rfl, rfl⟩
      by_cases h7 : ¬ ep = 0
      · have HV : Hid (opOk ⟨5, nm, ot, 0, va, ep⟩ = false) := by simp [Hid, opOk, inB, kOther, kAt, kEpoch, kSize, valOk, h7]
        have hq : (ep != 0) = true := by rw [bne_iff_ne]; exact h7
        go_wp2_with fail
        go_ret
        exact ⟨ret_bool HV.out.symm, d0⟩
      obtain rfl : ep = 0 := by omega
      clear h7
      go_wp2_with fail
      refine (l1In_any 0 0 1000 _).mono ?_
      rintro e w' ⟨rfl, rfl⟩
      have HV : Hid (opOk ⟨5, nm, ot, 0, va, 0⟩ = decide (va = 0)) := by simp [Hid, opOk, inB, kOther, kAt, kEpoch, kSize, valOk, H1.out, H4.out, h3e]
      go_wp2_with fail
      go_ret
      exact ⟨ret_bool HV.out.symm, d0⟩
    · have h3' : ot.size = 0 := of_decide_eq_true h3
      have HV : Hid (opOk ⟨5, nm, ot, at_, va, ep⟩ = false) := by simp [Hid, opOk, inB, kOther, kAt, kEpoch, kSize, valOk, h3']
      have e1 : ot.toList = [] := e0.2 h3'
      have e2 : ot.toList.isEmpty = true := List.isEmpty_iff.2 e1
      clear e0
      go_wp2_with fail
      go_ret
      exact ⟨ret_bool HV.out.symm, d0⟩
  · cases h3 : decide (ot.size = 0)
    · have h3' : ¬ ot.size = 0 := of_decide_eq_false h3
      have HV : Hid (opOk ⟨6, nm, ot, at_, va, ep⟩ = false) := by simp [Hid, opOk, inB, kOther, kAt, kEpoch, kSize, valOk, h3']
      have e1 : ¬ ot.toList = [] := fun h => h3' (e0.1 h)
      clear e0
      go_wp2_with fail
      go_ret
      exact ⟨ret_bool HV.out.symm, d0⟩
    · have h3' : ot.size = 0 := of_decide_eq_true h3
      have e1 : ot.toList = [] := e0.2 h3'
      clear e0
      by_cases h5 : ¬ at_ = 0
      · have HV : Hid (opOk ⟨6, nm, ot, at_, va, ep⟩ = false) := by simp [Hid, opOk, inB, kOther, kAt, kEpoch, kSize, valOk, h5]
        have hq : (at_ != 0) = true := by rw [bne_iff_ne]; exact h5
        go_wp2_with fail
        go_ret
        exact ⟨ret_bool HV.out.symm, d0⟩
      obtain rfl : at_ = 0 := by omega
      clear h5
      go_wp2_with fail
      refine (l1In_any 0 0 255 _).mono ?_
      rintro e w' ⟨rfl, rfl⟩
      go_wp2_with fail
      refine (l1In_any ep 0 1000 _).mono ?_
      rintro e w' ⟨rfl, rfl⟩
      cases h8 : (decide ((0 : Int) ≤ ep) && decide (ep ≤ 1000))
      · have HV : Hid (opOk ⟨6, nm, ot, 0, va, ep⟩ = false) := by simp [Hid, opOk, inB, kOther, kAt, kEpoch, kSize, valOk, h8]
        clear h8
        go_wp2_with fail
        go_ret
        exact ⟨ret_bool HV.out.symm, d0⟩
      have H8 : Hid _ := h8
      clear h8
      have HV : Hid (opOk ⟨6, nm, ot, 0, va, ep⟩ = decide (va = 0)) := by simp [Hid, opOk, inB, kOther, kAt, kEpoch, kSize, valOk, H1.out, h3', H8.out]
      go_wp2_with fail
      go_ret
      exact ⟨ret_bool HV.out.symm, d0⟩
  · cases h3 : decide (ot.size = 0)
    · have h3' : ¬ ot.size = 0 := of_decide_eq_false h3
      have HV : Hid (opOk ⟨7, nm, ot, at_, va, ep⟩ = false) := by simp [Hid, opOk, inB, kOther, kAt, kEpoch, kSize, valOk, h3']
      have e1 : ¬ ot.toList = [] := fun h => h3' (e0.1 h)
      clear e0
      go_wp2_with fail
      go_ret
      exact ⟨ret_bool HV.out.symm, d0⟩
    · have h3' : ot.size = 0 := of_decide_eq_true h3
      have e1 : ot.toList = [] := e0.2 h3'
      clear e0
      by_cases h5 : ¬ at_ = 0
      · have HV : Hid (opOk ⟨7, nm, ot, at_, va, ep⟩ = false) := by simp [Hid, opOk, inB, kOther, kAt, kEpoch, kSize, valOk, h5]
        have hq : (at_ != 0) = true := by rw [bne_iff_ne]; exact h5
        go_wp2_with fail
        go_ret
        exact ⟨ret_bool HV.out.symm, d0⟩
      obtain rfl : at_ = 0 := by omega
      clear h5
      go_wp2_with fail
      refine (l1In_any 0 0 255 _).mono ?_
      rintro e w' ⟨rfl, rfl⟩
      go_wp2_with fail
      refine (l1In_any ep 0 1000 _).mono ?_
      rintro e w' ⟨rfl, rfl⟩
      cases h8 : (decide ((0 : Int) ≤ ep) && decide (ep ≤ 1000))
      · have HV : Hid (opOk ⟨7, nm, ot, 0, va, ep⟩ = false) := by simp [Hid, opOk, inB, kOther, kAt, kEpoch, kSize, valOk, h8]
        clear h8
        go_wp2_with fail
        go_ret
        exact ⟨ret_bool HV.out.symm, d0⟩
      have H8 : Hid _ := h8
      clear h8
      have HV : Hid (opOk ⟨7, nm, ot, 0, va, ep⟩ = (decide ((1 : Int) ≤ va) && decide (va ≤ 16))) := by simp [Hid, opOk, inB, kOther, kAt, kEpoch, kSize, valOk, H1.out, h3', H8.out]
      go_wp2_with fail
      refine (l1In_any va 1 16 _).mono ?_
      rintro e w' ⟨rfl, rfl⟩
      go_wp2_with fail
      go_ret
      exact ⟨ret_bool HV.out.symm, d0⟩
  · cases h3 : decide (ot.size = 0)
    · have h3' : ¬ ot.size = 0 := of_decide_eq_false h3
      have HV : Hid (opOk ⟨8, nm, ot, at_, va, ep⟩ = false) := by simp [Hid, opOk, inB, kOther, kAt, kEpoch, kSize, valOk, h3']
      have e1 : ¬ ot.toList = [] := fun h => h3' (e0.1 h)
      clear e0
      go_wp2_with fail
      go_ret
      exact ⟨ret_bool HV.out.symm, d0⟩
    · have h3' : ot.size = 0 := of_decide_eq_true h3
      have e1 : ot.toList = [] := e0.2 h3'
      clear e0
      by_cases h5 : ¬ at_ = 0
      · have HV : Hid (opOk ⟨8, nm, ot, at_, va, ep⟩ = false) := by simp [Hid, opOk, inB, kOther, kAt, kEpoch, kSize, valOk, h5]
        have hq : (at_ != 0) = true := by rw [bne_iff_ne]; exact h5
        go_wp2_with fail
        go_ret
        exact ⟨ret_bool HV.out.symm, d0⟩
      obtain rfl : at_ = 0 := by omega
      clear h5
      go_wp2_with fail
      refine (l1In_any 0 0 255 _).mono ?_
      rintro e w' ⟨rfl, rfl⟩
      by_cases h7 : ¬ ep = 0
      · have HV : Hid (opOk ⟨8, nm, ot, 0, va, ep⟩ = false) := by simp [Hid, opOk, inB, kOther, kAt, kEpoch, kSize, valOk, h7]
        have hq : (ep != 0) = true := by rw [bne_iff_ne]; exact h7
        go_wp2_with fail
        go_ret
        exact ⟨ret_bool HV.out.symm, d0⟩
      obtain rfl : ep = 0 := by omega
      clear h7
      go_wp2_with fail
      refine (l1In_any 0 0 1000 _).mono ?_
      rintro e w' ⟨rfl, rfl⟩
      have HV : Hid (opOk ⟨8, nm, ot, 0, va, 0⟩ = decide (va = 0)) := by simp [Hid, opOk, inB, kOther, kAt, kEpoch, kSize, valOk, H1.out, h3']
      go_wp2_with fail
      go_ret
      exact ⟨ret_bool HV.out.symm, d0⟩
  · cases h3 : decide (ot.size = 0)
    · have h3' : ¬ ot.size = 0 := of_decide_eq_false h3
      have HV : Hid (opOk ⟨9, nm, ot, at_, va, ep⟩ = false) := by simp [Hid, opOk, inB, kOther, kAt, kEpoch, kSize, valOk, h3']
      have e1 : ¬ ot.toList = [] := fun h => h3' (e0.1 h)
      clear e0
      go_wp2_with fail
      go_ret
      exact ⟨ret_bool HV.out.symm, d0⟩
    · have h3' : ot.size = 0 := of_decide_eq_true h3
      have e1 : ot.toList = [] := e0.2 h3'
      clear e0
      go_wp2_with fail
      refine (l1In_any at_ 0 255 _).mono ?_
      rintro e w' ⟨rfl, rfl⟩
      cases h6 : (decide ((0 : Int) ≤ at_) && decide (at_ ≤ 255))
      · have HV : Hid (opOk ⟨9, nm, ot, at_, va, ep⟩ = false) := by simp [Hid, opOk, inB, kOther, kAt, kEpoch, kSize, valOk, h6]
        clear h6
        go_wp2_with fail
        go_ret
        exact ⟨ret_bool HV.out.symm, d0⟩
      have H6 : Hid _ := h6
      clear h6
      by_cases h7 : ¬ ep = 0
      · have HV : Hid (opOk ⟨9, nm, ot, at_, va, ep⟩ = false) := by simp [Hid, opOk, inB, kOther, kAt, kEpoch, kSize, valOk, h7]
        have hq : (ep != 0) = true := by rw [bne_iff_ne]; exact h7
        go_wp2_with fail
        go_ret
        exact ⟨ret_bool HV.out.symm, d0⟩
      obtain rfl : ep = 0 := by omega
      clear h7
      go_wp2_with fail
      refine (l1In_any 0 0 1000 _).mono ?_
      rintro e w' ⟨rfl, rfl⟩
      have HV : Hid (opOk ⟨9, nm, ot, at_, va, 0⟩ = decide (va = 0)) := by simp [Hid, opOk, inB, kOther, kAt, kEpoch, kSize, valOk, H1.out, h3', H6.out]
      go_wp2_with fail
      go_ret
      exact ⟨ret_bool HV.out.symm, d0⟩
end Go.Proofs.Ytchlkdhnjejgnaa

namespace Go.Proofs.Ytchlkdhnjejgnaa
set_option linter.unusedVariables false

set_option maxRecDepth 100000


theorem did_zero {s : Sf} {o : Oq} (hs : shelfOk s = true) (h : (didOp s o).2.1 = 0) : opOk o = true ∧ refused s.bs o = 0 ∧ (doOp s o).2.1 = 0 := by
  rw [didOp_yes hs] at h
  have h2 := h
  unfold doOp at h
  split at h
  · cases h
  · rename_i hok
    split at h
    · rename_i hr
      exact absurd h hr
    · rename_i hr
      refine ⟨by simpa using hok, ?_, h2⟩
      by_cases q : refused s.bs o = 0
      · exact q
      · exact absurd q hr

theorem copy_did {s : Sf} {o : Oq} (hs : shelfOk s = true) (h : (didOp s o).2.1 = 0) (hk : o.k = 4 ∨ o.k = 5) :
    zeros (didOp s o).1.cs = zeros s.cs ∧ ∃ a b : Pb, bookAt (didOp s o).1.bs (findP (didOp s o).1.bs o.nm) = a ∧ bookAt (didOp s o).1.bs (findP (didOp s o).1.bs o.ot) = b ∧ 0 ≤ findP (didOp s o).1.bs o.nm ∧ 0 ≤ findP (didOp s o).1.bs o.ot ∧ a.ok = true ∧ b.ok = true ∧ a.sz = b.sz ∧ a.rs = b.rs ∧ b.ep = 0 ∧ b.fx = decide (o.k = 4) := by
  have hz := did_zero hs h
  rw [didOp_yes hs]
  exact copy_law ((shelfOk_iff s).1 hs) o hz.1 hz.2.1 (by unfold kOther; rcases hk with h | h <;> rw [h] <;> rfl)
end Go.Proofs.Ytchlkdhnjejgnaa

