/-
  Contracts and plain laws, one chapter behind the other.
-/
import Derived.Deep.RegionHeld3
import Derived.Deep.RegionLaw
import Derived.Test.YtcefcglonooelaaGreatDoorM01
import Derived.Test.YtcefcglonooelaaGreatDoorM02
import Derived.Test.YtcefcglonooelaaGreatDoorM03
import Derived.Test.YtcefcglonooelaaGreatDoorM04
import Derived.Test.YtcefcglonooelaaGreatDoorM05
namespace Go.Proofs.YtcefcglonooelaaGreatDoor
open Go.ChangeShapes Go.WideShapes Go.ChangeAt Go.RowKit Go.Joins

set_option linter.unusedVariables false

set_option maxRecDepth 100000


theorem lit_i64o {a : Int} (h : (Lit.int .i64 a).wf = true) : I64 a := by simpa [I64, Lit.wf, IntKind.min, IntKind.max, IntKind.signed, IntKind.bits] using h

theorem list6 {α : Type} {cs : List α} (h : cs.length = 6) : ∃ c0 c1 c2 c3 c4 c5, cs = [c0, c1, c2, c3, c4, c5] := by
  match cs, h with
  | [c0, c1, c2, c3, c4, c5], _ => exact ⟨c0, c1, c2, c3, c4, c5, rfl⟩

theorem open_op {H : Type} {enc : TypeId × Value → H} {W : World} {base : Nat} {v : Value} {d : DataW H} {p : List MemPlace} (hv : Value.okWide Tryz.prog W .any base 54 v) (h : DataW.Trod enc Tryz.prog W 0 (fun _ => true) true 54 v d p) :
    ∃ (k : Int) (nm ot : ByteArray) (at_ va ep : Int), v = .agg #[.int .i64 k, .string nm, .string ot, .int .i64 at_, .int .i64 va, .int .i64 ep] ∧ nm.size ≤ maxLen ∧ ot.size ≤ maxLen ∧ I64 k ∧ I64 at_ ∧ I64 va ∧ I64 ep := by
  obtain ⟨cs, rfl, hsz⟩ := okWide_struct Tryz.underlying54 hv
  obtain ⟨fuel, hf⟩ := h
  have ce : Tryz.prog.cellsOf 54 = 6 := by kernel_rfl
  have c1 : Tryz.prog.cellsOf 2 = 1 := by kernel_rfl
  have c2 : Tryz.prog.cellsOf 9 = 1 := by kernel_rfl
  obtain ⟨xs, m, _, -, hl, hlen, hf⟩ := DataW.trod_struct Tryz.underlying54 hf
  have el : (Value.agg cs).cells.toList = cs.toList := by simp [Value.cells]
  rw [el] at hl hf
  obtain ⟨v0, v1, v2, v3, v4, v5, hc⟩ := list6 (hl.trans ce)
  rw [hc] at hf
  obtain ⟨y0, y1, y2, y3, y4, y5, rfl⟩ := list6 (show xs.length = 6 from hlen)
  have t0 := hf 0 _ rfl
  have t1 := hf 1 _ rfl
  have t2 := hf 2 _ rfl
  have t3 := hf 3 _ rfl
  have t4 := hf 4 _ rfl
  have t5 := hf 5 _ rfl
  simp [c1, c2] at t0 t1 t2 t3 t4 t5
  obtain ⟨k, e0, _, z0⟩ := DataW.trod_int Tryz.underlying2 t0
  obtain ⟨nm, e1, _, z1⟩ := DataW.trod_string Tryz.underlying9 t1
  obtain ⟨ot, e2, _, z2⟩ := DataW.trod_string Tryz.underlying9 t2
  obtain ⟨at_, e3, _, z3⟩ := DataW.trod_int Tryz.underlying2 t3
  obtain ⟨va, e4, _, z4⟩ := DataW.trod_int Tryz.underlying2 t4
  obtain ⟨ep, e5, _, z5⟩ := DataW.trod_int Tryz.underlying2 t5
  simp at e0 e1 e2 e3 e4 e5
  subst e0 e1 e2 e3 e4 e5
  refine ⟨k, nm, ot, at_, va, ep, ?_, z1, z2, lit_i64o z0, lit_i64o z3, lit_i64o z4, lit_i64o z5⟩
  rw [show cs = [Value.int .i64 k, .string nm, .string ot, .int .i64 at_, .int .i64 va, .int .i64 ep].toArray by rw [← hc]]

set_option maxHeartbeats 800000 in
theorem szOp_any (k : Int) (nm ot : ByteArray) (at_ va ep left : Int) (w : World) (hn : nm.size ≤ maxLen) (ho : ot.size ≤ maxLen) (h0 : 0 ≤ left) (hl : left ≤ 1048576) :
    Calls Tryz.prog 25 #[.agg #[.int .i64 k, .string nm, .string ot, .int .i64 at_, .int .i64 va, .int .i64 ep], .int .i64 left] w fun e w' => ∃ q : Int, e = .returned (.int .i64 q) ∧ (q = -1 ∨ (0 ≤ q ∧ q ≤ left ∧ nm.size ≤ 1048576 ∧ ot.size ≤ 1048576)) ∧ Below w.heap.size w w' := by
  obtain ⟨W0, hW0, k0, d0, z0⟩ := box1 w #[.int .i64 k, .string nm, .string ot, .int .i64 at_, .int .i64 va, .int .i64 ep] 54
  have HD : Hid (Below w.heap.size w (w.alloc (.cells #[.int .i64 k, .string nm, .string ot, .int .i64 at_, .int .i64 va, .int .i64 ep] 54))) := bw_alloc (Below.refl _ _)
  clear hW0 k0 d0 z0
  unfold maxLen at hn ho
  by_cases hb : left < (nm.size : Int)
  · have h1 : left - (nm.size : Int) < 0 := by omega
    go_enter Tryz.func25, Tryz.ntmps25
    go_wp2_with fail
    go_ret
    exact ⟨-1, rfl, .inl rfl, HD.out⟩
  · have hl1 : 0 ≤ left - (nm.size : Int) := by omega
    by_cases hb2 : left - (nm.size : Int) < (ot.size : Int)
    · have h1 : left - (nm.size : Int) - (ot.size : Int) < 0 := by omega
      go_enter Tryz.func25, Tryz.ntmps25
      go_wp2_with fail
      go_ret
      exact ⟨-1, rfl, .inl rfl, HD.out⟩
    · have h1 : 0 ≤ left - (nm.size : Int) - (ot.size : Int) := by omega
      go_enter Tryz.func25, Tryz.ntmps25
      go_wp2_with fail
      go_ret
      exact ⟨_, rfl, .inr ⟨h1, by omega, by omega, by omega⟩, HD.out⟩

set_option maxHeartbeats 800000 in
theorem toOp_any (k : Int) (nm ot : ByteArray) (at_ va ep : Int) (w : World) :
    Calls Tryz.prog 27 #[.agg #[.int .i64 k, .string nm, .string ot, .int .i64 at_, .int .i64 va, .int .i64 ep]] w fun e w' => e = .returned (.agg #[.int .i64 k, .string nm, .string ot, .int .i64 at_, .int .i64 va, .int .i64 ep]) ∧ Below w.heap.size w w' := by
  go_enter Tryz.func27, Tryz.ntmps27
  go_wp2_with fail
  exact bodyPost_ret (v := .agg #[.int .i64 k, .string nm, .string ot, .int .i64 at_, .int .i64 va, .int .i64 ep]) (by simp [results, Tryz.results27, go_sem]) rfl ⟨rfl, by go_grown⟩
end Go.Proofs.YtcefcglonooelaaGreatDoor

namespace Go.Proofs.YtcefcglonooelaaGreatDoor
open Go.RowKit

set_option linter.unusedVariables false

set_option maxRecDepth 100000

theorem toPlain_end {w w1 : World} {b1 b2 base : Nat} {a0 a1 a2 a3 a4 : Value} {t : TypeId} {v : Value} {n : Nat} {xs : List Value} (h1 : w.heap.size ≤ b1) (h2 : w.heap.size ≤ b2) (hne : b1 ≠ b2) (l1 : b1 < base) (l2 : b2 < base) (l3 : w.heap.size ≤ base) (k1 : w1.heap[b1]? = some (.cells #[a0, a1, a2, a3, a4] t (0, 0))) (own : w1.ownsRow base 2 1 v n xs) (d0 : Below w.heap.size w w1) (y2 y3 y4 x0 x1 x2 x3 x4 : Value) :
    ((((((((w1.setCell ⟨b2, 2, none⟩ y2).setCell ⟨b2, 3, none⟩ y3).setCell ⟨b2, 4, none⟩ y4).setCell ⟨b1, 0, none⟩ x0).setCell ⟨b1, 1, none⟩ x1).setCell ⟨b1, 2, none⟩ x2).setCell ⟨b1, 3, none⟩ x3).setCell ⟨b1, 4, none⟩ x4).heap[b1]? = some (.cells #[x0, x1, x2, x3, x4] t (0, 0)) ∧
    ((((((((w1.setCell ⟨b2, 2, none⟩ y2).setCell ⟨b2, 3, none⟩ y3).setCell ⟨b2, 4, none⟩ y4).setCell ⟨b1, 0, none⟩ x0).setCell ⟨b1, 1, none⟩ x1).setCell ⟨b1, 2, none⟩ x2).setCell ⟨b1, 3, none⟩ x3).setCell ⟨b1, 4, none⟩ x4).ownsRow w.heap.size 2 1 v n xs ∧
    Below w.heap.size w ((((((((w1.setCell ⟨b2, 2, none⟩ y2).setCell ⟨b2, 3, none⟩ y3).setCell ⟨b2, 4, none⟩ y4).setCell ⟨b1, 0, none⟩ x0).setCell ⟨b1, 1, none⟩ x1).setCell ⟨b1, 2, none⟩ x2).setCell ⟨b1, 3, none⟩ x3).setCell ⟨b1, 4, none⟩ x4) := by
  have u : Upto b2 w1 (((w1.setCell ⟨b2, 2, none⟩ y2).setCell ⟨b2, 3, none⟩ y3).setCell ⟨b2, 4, none⟩ y4) := (((Upto.refl _ _).setCell ⟨b2, 2, none⟩ (.inl rfl) _).setCell ⟨b2, 3, none⟩ (.inl rfl) _).setCell ⟨b2, 4, none⟩ (.inl rfl) _
  have e1 := (u.block _ (heap_lt k1) hne).trans k1
  have e2 := ownsRow_upto own u l2
  have e3 : Below w.heap.size w (((w1.setCell ⟨b2, 2, none⟩ y2).setCell ⟨b2, 3, none⟩ y3).setCell ⟨b2, 4, none⟩ y4) := bw_set (bw_set (bw_set d0 h2 _) h2 _) h2 _
  generalize ((w1.setCell ⟨b2, 2, none⟩ y2).setCell ⟨b2, 3, none⟩ y3).setCell ⟨b2, 4, none⟩ y4 = W at *
  have v : Upto b1 W (((((W.setCell ⟨b1, 0, none⟩ x0).setCell ⟨b1, 1, none⟩ x1).setCell ⟨b1, 2, none⟩ x2).setCell ⟨b1, 3, none⟩ x3).setCell ⟨b1, 4, none⟩ x4) := (((((Upto.refl _ _).setCell ⟨b1, 0, none⟩ (.inl rfl) _).setCell ⟨b1, 1, none⟩ (.inl rfl) _).setCell ⟨b1, 2, none⟩ (.inl rfl) _).setCell ⟨b1, 3, none⟩ (.inl rfl) _).setCell ⟨b1, 4, none⟩ (.inl rfl) _
  exact ⟨set_five e1 x0 x1 x2 x3 x4, owns_mono (ownsRow_upto e2 v l1) l3, bw_five e3 h1 _ _ _ _ _⟩

set_option maxHeartbeats 1600000 in
theorem toPlain_any (nm : ByteArray) (sz : Int) (m : Value) (rs : List Int) (fx : Bool) (ep : Int) (w : World) (hb : rs.length ≤ 1048576) (r : ReadsR 1 intC w.heap.size w m rs) :
    Calls Tryz.prog 63 #[.agg #[.string nm, .int .i64 sz, m, .bool fx, .int .i64 ep]] w fun e w' => ∃ g : Nat, e = .returned (.agg #[.string nm, .int .i64 sz, .slice (some ⟨g, 0, none⟩) rs.length rs.length, .bool fx, .int .i64 ep]) ∧ w'.ownsRow w.heap.size 2 1 (.slice (some ⟨g, 0, none⟩) rs.length rs.length) rs.length (rs.flatMap intC) ∧ Below w.heap.size w w' := by
  obtain ⟨o, cap, hm⟩ := r.form
  obtain ⟨W1, hW0, k0, k1, k2, d0, z0⟩ := box3 w #[.string nm, .int .i64 sz, m, .bool fx, .int .i64 ep] #[.string ⟨#[]⟩, .int .i64 0, .slice none 0 0, .bool false, .int .i64 0] #[.string nm, .int .i64 sz, .slice none 0 0, .bool false, .int .i64 0] 93 51 51
  have r0 := r.below d0
  have z0a : w.heap.size + 1 + 1 + 1 ≤ W1.heap.size := by omega
  clear z0
  subst hm
  have HW0 : Hid _ := hW0
  clear hW0 r
  go_enter Tryz.func63, Tryz.ntmps63
  go_wp2_with (fail)
  rw [← HW0.out]
  clear HW0
  refine (toIntsK_any _ rs _ hb (r0.mono (by omega))).mono ?_
  rintro e w1 ⟨rfl, own, b1⟩
  replace k0 := (b1.block _ (by omega)).trans k0
  replace k1 := (b1.block _ (by omega)).trans k1
  replace k2 := (b1.block _ (by omega)).trans k2
  replace d0 := bw_call d0 b1
  have z2 := b1.size
  clear b1 r0
  have p3 := at_cell k0 3
  have p4 := at_cell k0 4
  have c0 := at_cell k2 0
  have c1 := at_cell k2 1
  have c2 := at_cell k2 2
  have c3 := at_cell k2 3
  have c4 := at_cell k2 4
  have f2 := at_open k2 2
  have f3 := at_open k2 3
  have f4 := at_open k2 4
  have q0 := at_cell k1 0
  have q1 := at_cell k1 1
  have q2 := at_cell k1 2
  have q3 := at_cell k1 3
  have q4 := at_cell k1 4
  have g0 := at_open k1 0
  have g1 := at_open k1 1
  have g2 := at_open k1 2
  have g3 := at_open k1 3
  have g4 := at_open k1 4
  have HS : Hid _ := toPlain_end (b1 := w.heap.size + 1) (b2 := w.heap.size + 1 + 1) (by omega) (by omega) (by omega) (by omega) (by omega) (by omega) k1 own d0 (.slice (some ⟨W1.heap.size, 0, none⟩) rs.length rs.length) (.bool fx) (.int .i64 ep) (.string nm) (.int .i64 sz) (.slice (some ⟨W1.heap.size, 0, none⟩) rs.length rs.length) (.bool fx) (.int .i64 ep)
  clear k0 k1 k2 own d0
  go_wp2_with fail
  exact bodyPost_ret (v := .agg #[.string nm, .int .i64 sz, .slice (some ⟨W1.heap.size, 0, none⟩) rs.length rs.length, .bool fx, .int .i64 ep]) (by simp [results, Tryz.results63, go_sem, at_cell HS.out.1]) rfl ⟨_, rfl, HS.out.2.1, HS.out.2.2⟩

set_option maxHeartbeats 1600000 in
theorem eqPlain_same (nm : ByteArray) (sz : Int) (m m' : Value) (rs : List Int) (fx : Bool) (ep : Int) (w : World) (r : ReadsR 1 intC w.heap.size w m rs) (r' : ReadsR 1 intC w.heap.size w m' rs) :
    Calls Tryz.prog 64 #[.agg #[.string nm, .int .i64 sz, m, .bool fx, .int .i64 ep], .agg #[.string nm, .int .i64 sz, m', .bool fx, .int .i64 ep]] w fun e w' => e = .returned (.bool true) ∧ Below w.heap.size w w' := by
  obtain ⟨o, cap, rfl⟩ := r.form
  obtain ⟨o', cap', rfl⟩ := r'.form
  obtain ⟨W0, hW0, k0, k1, d0, z0⟩ := box2 w #[.string nm, .int .i64 sz, .slice o rs.length cap, .bool fx, .int .i64 ep] #[.string nm, .int .i64 sz, .slice o' rs.length cap', .bool fx, .int .i64 ep] 51 51
  have r0 := (r.below d0).mono d0.size
  have r1 := (r'.below d0).mono d0.size
  have HW0 : Hid (W0 = _) := hW0
  clear hW0 r r'
  go_enter Tryz.func64, Tryz.ntmps64
  go_wp2_with fail
  rw [← HW0.out]
  clear HW0
  refine (eqIntsK_any _ _ rs rs _ r0 r1).mono ?_
  rintro e w1 ⟨rfl, b⟩
  replace k0 := (b.block _ (by omega)).trans k0
  replace k1 := (b.block _ (by omega)).trans k1
  replace d0 := bw_call d0 b
  have p3 := at_cell k0 3
  have p4 := at_cell k0 4
  have q3 := at_cell k1 3
  have q4 := at_cell k1 4
  simp only [decide_true]
  clear r0 r1 b k0 k1
  cases fx
  · go_wp2_with fail
    go_ret
    exact ⟨rfl, d0⟩
  · go_wp2_with fail
    go_ret
    exact ⟨rfl, d0⟩
end Go.Proofs.YtcefcglonooelaaGreatDoor

namespace Go.Proofs.YtcefcglonooelaaGreatDoor
open Go.RowKit

set_option linter.unusedVariables false

set_option maxRecDepth 100000


/-- All of a book but where its map lies. -/
def bareK (b : Pk) : ByteArray × Int × List Int × Bool × Int := (b.nm, b.sz, b.rs, b.fx, b.ep)

theorem bare_len {bs ms : List Pk} (h : ms.map bareK = bs.map bareK) : ms.length = bs.length := by simpa using congrArg List.length h

theorem bare_at {bs ms : List Pk} (h : ms.map bareK = bs.map bareK) (k : Nat) (h1 : k < ms.length) (h2 : k < bs.length) : bareK ms[k] = bareK bs[k] := by
  have e : (ms.map bareK)[k]? = (bs.map bareK)[k]? := by rw [h]
  simpa [h1, h2] using e

/-- A book's five cells in a row. -/
theorem five_cellsK {B : Nat} {w : World} {o : Option Addr} {bs : List Pk} (hc : ∀ i x, bs[i]? = some x → ∃ g off, o = some ⟨g, off, none⟩ ∧ g < B ∧ ∀ j u, (pkC x)[j]? = some u → w.cell? ⟨g, off + i * 5 + j, none⟩ = some u) (i : Nat) (hi : i < bs.length) :
    ∃ g off, o = some ⟨g, off, none⟩ ∧ g < B ∧ w.cell? ⟨g, off + i * 5, none⟩ = some (.string bs[i].nm) ∧ w.cell? ⟨g, off + i * 5 + 1, none⟩ = some (.int .i64 bs[i].sz) ∧ w.cell? ⟨g, off + i * 5 + 2, none⟩ = some bs[i].m ∧ w.cell? ⟨g, off + i * 5 + 3, none⟩ = some (.bool bs[i].fx) ∧ w.cell? ⟨g, off + i * 5 + 4, none⟩ = some (.int .i64 bs[i].ep) := by
  obtain ⟨g, off, e, hg, hx⟩ := hc i bs[i] (List.getElem?_eq_getElem hi)
  exact ⟨g, off, e, hg, hx 0 _ rfl, hx 1 _ rfl, hx 2 _ rfl, hx 3 _ rfl, hx 4 _ rfl⟩

theorem Tryz.infoPlain : (Tryz.prog.info? 51).map (fun i => (i.zero, i.size, i.bytes)) = some (some (.agg #[.string ByteArray.empty, .int .i64 0, .slice none 0 0, .bool false, .int .i64 0]), 5, 64) := by kernel_rfl

def zeroPk : Pk := ⟨ByteArray.empty, 0, .slice none 0 0, [], false, 0⟩

/-- make([]impl.Book, n): a row of zero books, at the end of memory. -/
theorem made_plains (n : Nat) (hn : n ≤ 1048576) : ∃ M : Array Value, (∀ W : World, (Instr.makeSlice 24 (.int .i64 (n : Int)) (.int .i64 (n : Int))).run Tryz.prog W = .ok (.slice (some ⟨W.heap.size, 0, none⟩) n n) (W.alloc (.cells M 51))) ∧
    ∀ (W : World) (base : Nat), base ≤ W.heap.size → (W.alloc (.cells M 51)).ownsRow base 51 5 (.slice (some ⟨W.heap.size, 0, none⟩) n n) (List.replicate n zeroPk).length ((List.replicate n zeroPk).flatMap pkC) := by
  obtain ⟨i0, hi, hz0, hz1, hz2⟩ := info_parts Tryz.infoPlain
  have e := toList_made (cs := pkC) pkC_len (by omega) zeroPk (Value.agg #[.string ByteArray.empty, .int .i64 0, .slice none 0 0, .bool false, .int .i64 0]).cells rfl n
  refine ⟨madeCells (Value.agg #[.string ByteArray.empty, .int .i64 0, .slice none 0 0, .bool false, .int .i64 0]).cells (n * 5), fun W => ?_, fun W base hb => ?_⟩
  · have h := run_make (P := Tryz.prog) W 24 51 i0 (.agg #[.string ByteArray.empty, .int .i64 0, .slice none 0 0, .bool false, .int .i64 0]) Tryz.underlying24 hi hz0 .i64 .i64 (n : Int) (n : Int) (by omega) (by omega) (by rw [hz2]; omega) (by omega)
    rw [hz1, Int.toNat_natCast] at h
    simpa using h
  · have h := World.ownsRow_lit (base := base) (size := 5) (e := 51) W (madeCells (Value.agg #[.string ByteArray.empty, .int .i64 0, .slice none 0 0, .bool false, .int .i64 0]).cells (n * 5)) n hb (by unfold maxLen; omega) (by rw [size_madeCells])
    rw [e] at h
    rwa [List.length_replicate]

/-- A whole book is written. -/
theorem own_plain {w : World} {base g n cap : Nat} {xs : List Pk} (h : w.ownsRow base 51 5 (.slice (some ⟨g, 0, none⟩) n cap) xs.length (xs.flatMap pkC)) (i : Nat) (hi : i < xs.length) (y : Pk) :
    (((((w.setCell ⟨g, i * 5, none⟩ (.string y.nm)).setCell ⟨g, i * 5 + 1, none⟩ (.int .i64 y.sz)).setCell ⟨g, i * 5 + 2, none⟩ y.m).setCell ⟨g, i * 5 + 3, none⟩ (.bool y.fx)).setCell ⟨g, i * 5 + 4, none⟩ (.int .i64 y.ep)).ownsRow base 51 5 (.slice (some ⟨g, 0, none⟩) n cap) (xs.set i y).length ((xs.set i y).flatMap pkC) := by
  obtain ⟨x, hx⟩ : ∃ x, xs[i] = x := ⟨_, rfl⟩
  have hxi : xs[i]? = some x := by rw [List.getElem?_eq_getElem hi, hx]
  have h1 := own_put pkC_len h i 0 x ⟨y.nm, x.sz, x.m, x.rs, x.fx, x.ep⟩ (.string y.nm) hxi (by omega) rfl
  have h2 := own_put pkC_len h1 i 1 ⟨y.nm, x.sz, x.m, x.rs, x.fx, x.ep⟩ ⟨y.nm, y.sz, x.m, x.rs, x.fx, x.ep⟩ (.int .i64 y.sz) (by simp [hi]) (by omega) rfl
  have h3 := own_put pkC_len h2 i 2 ⟨y.nm, y.sz, x.m, x.rs, x.fx, x.ep⟩ ⟨y.nm, y.sz, y.m, x.rs, x.fx, x.ep⟩ y.m (by simp [hi]) (by omega) rfl
  have h4 := own_put pkC_len h3 i 3 ⟨y.nm, y.sz, y.m, x.rs, x.fx, x.ep⟩ ⟨y.nm, y.sz, y.m, x.rs, y.fx, x.ep⟩ (.bool y.fx) (by simp [hi]) (by omega) rfl
  have h5 := own_put pkC_len h4 i 4 ⟨y.nm, y.sz, y.m, x.rs, y.fx, x.ep⟩ y (.int .i64 y.ep) (by simp [hi]) (by omega) rfl
  rw [List.set_set, List.set_set, List.set_set, List.set_set] at h5
  exact h5

theorem own_fiveK {w : World} {base g n cap : Nat} {xs : List Pk} (h : w.ownsRow base 51 5 (.slice (some ⟨g, 0, none⟩) n cap) xs.length (xs.flatMap pkC)) (i : Nat) (hi : i < xs.length) :
    (w.cell? ⟨g, i * 5, none⟩ = some (.string xs[i].nm) ∧ w.cell? ⟨g, i * 5 + 1, none⟩ = some (.int .i64 xs[i].sz) ∧ w.cell? ⟨g, i * 5 + 2, none⟩ = some xs[i].m ∧ w.cell? ⟨g, i * 5 + 3, none⟩ = some (.bool xs[i].fx) ∧ w.cell? ⟨g, i * 5 + 4, none⟩ = some (.int .i64 xs[i].ep)) ∧ w.frozen? ⟨g, i * 5, none⟩ = false ∧ w.frozen? ⟨g, i * 5 + 1, none⟩ = false ∧ w.frozen? ⟨g, i * 5 + 2, none⟩ = false ∧ w.frozen? ⟨g, i * 5 + 3, none⟩ = false ∧ w.frozen? ⟨g, i * 5 + 4, none⟩ = false := by
  obtain ⟨a0, b0⟩ := own_cell pkC_len h i 0 _ (List.getElem?_eq_getElem hi) (by omega)
  obtain ⟨a1, b1⟩ := own_cell pkC_len h i 1 _ (List.getElem?_eq_getElem hi) (by omega)
  obtain ⟨a2, b2⟩ := own_cell pkC_len h i 2 _ (List.getElem?_eq_getElem hi) (by omega)
  obtain ⟨a3, b3⟩ := own_cell pkC_len h i 3 _ (List.getElem?_eq_getElem hi) (by omega)
  obtain ⟨a4, b4⟩ := own_cell pkC_len h i 4 _ (List.getElem?_eq_getElem hi) (by omega)
  exact ⟨⟨a0, a1, a2, a3, a4⟩, b0, b1, b2, b3, b4⟩

/-- A row of books of one's own: the row, and each map. -/
structure OwnK (base : Nat) (w : World) (v : Value) (bs : List Pk) : Prop where
  row : w.ownsRow base 51 5 v bs.length (bs.flatMap pkC)
  maps : ∀ b ∈ bs, w.ownsRow base 2 1 b.m b.rs.length (b.rs.flatMap intC)

theorem OwnK.reads {base : Nat} {w : World} {v : Value} {bs : List Pk} (h : OwnK base w v bs) : ReadsK w.heap.size w v bs := ⟨ReadsR.of_own pkC_len h.row, fun b hb => ReadsR.of_own intC_len (h.maps b hb)⟩

theorem OwnK.below {base : Nat} {w w' : World} {v : Value} {bs : List Pk} (h : OwnK base w v bs) (k : Below w.heap.size w w') : OwnK base w' v bs := ⟨owns_below h.row k, fun b hb => owns_below (h.maps b hb) k⟩

theorem OwnK.mono {base base' : Nat} {w : World} {v : Value} {bs : List Pk} (h : OwnK base w v bs) (k : base' ≤ base) : OwnK base' w v bs := ⟨owns_mono h.row k, fun b hb => owns_mono (h.maps b hb) k⟩

/-- No two maps lie in one block. -/
def ApartK (ms : List Pk) : Prop := ms.Pairwise (fun a b => ∀ g, a.m.ownBlock = some g → b.m.ownBlock ≠ some g)

theorem ApartK.snoc {ms : List Pk} (h : ApartK ms) (y : Pk) (hy : ∀ b ∈ ms, ∀ g, b.m.ownBlock = some g → y.m.ownBlock ≠ some g) : ApartK (ms ++ [y]) :=
  List.pairwise_append.2 ⟨h, List.pairwise_singleton _ _, fun a ha b hb => by simp only [List.mem_singleton] at hb; subst hb; exact hy a ha⟩

set_option maxHeartbeats 3200000 in
theorem toPlainsA_any (v : Value) (bs : List Pk) (w : World) (hn : bs.length ≤ 1048576) (hr : ∀ b ∈ bs, b.rs.length ≤ 1048576) (r : ReadsK w.heap.size w v bs) :
    Calls Tryz.prog 26 #[v] w fun e w' => ∃ ms : List Pk, e = .returned (.slice (some ⟨w.heap.size, 0, none⟩) bs.length bs.length) ∧ ms.map bareK = bs.map bareK ∧ OwnK w.heap.size w' (.slice (some ⟨w.heap.size, 0, none⟩) bs.length bs.length) ms ∧ ApartK ms ∧ Below w.heap.size w w' := by
  have RM : Hid _ := r.maps
  have RL : Hid _ := hr
  obtain ⟨o, cap, rfl, hm, hc, -⟩ := r.row
  have HC : Hid _ := five_cellsK hc
  obtain ⟨M, hmk, hown⟩ := made_plains bs.length hn
  have own0 := hown w w.heap.size (Nat.le_refl _)
  have bd0 : Below w.heap.size w (w.alloc (.cells M 51)) := bw_alloc (Below.refl _ _)
  clear hown hc hm r hr
  go_enter Tryz.func26, Tryz.ntmps26
  go_wp2_with fail
  generalize w.alloc (.cells M 51) = W0 at own0 bd0 ⊢
  generalize hzs : List.replicate bs.length zeroPk = zs at own0
  have hzl : zs.length = bs.length := by rw [← hzs]; simp
  clear hmk hzs
  go_loopw [4] (fun i wr => ∃ (j : Nat) (ms : List Pk), j ≤ bs.length ∧ i = .int .i64 j ∧ ms.map bareK = (bs.take j).map bareK ∧ wr.ownsRow w.heap.size 51 5 (.slice (some ⟨w.heap.size, 0, none⟩) bs.length bs.length) (ms ++ zs.drop j).length ((ms ++ zs.drop j).flatMap pkC) ∧ (∀ b ∈ ms, wr.ownsRow (w.heap.size + 1) 2 1 b.m b.rs.length (b.rs.flatMap intC)) ∧ ApartK ms ∧ Below w.heap.size w wr ∧ w.heap.size < wr.heap.size) (fun i _ => bs.length - (intOf i).toNat)
  case atStart => exact ⟨0, [], Nat.zero_le _, rfl, rfl, by simpa using own0, (fun b hb => by simp at hb), List.Pairwise.nil, bd0, (own0.lt _ rfl).2⟩
  case round =>
    obtain ⟨j, ms, hj, rfl, hpl, own, oms, apa, hb, hsz⟩ := hrel
    have hml : ms.length = j := by have := bare_len hpl; rw [List.length_take] at this; omega
    by_cases hlt : j < bs.length
    · obtain ⟨g, off, rfl, hg, a0, a1, a2, a3, a4⟩ := HC.out j hlt
      have rm := ((RM.out bs[j] (List.getElem_mem hlt)).below hb).mono hb.size
      have rl := RL.out bs[j] (List.getElem_mem hlt)
      have hpt : (bs.take (j + 1)).map bareK = (bs.take j).map bareK ++ [bareK bs[j]] := by rw [List.take_succ_eq_append_getElem hlt, List.map_append]; rfl
      have hdr : zs.drop j = zs[j]'(by omega) :: zs.drop (j + 1) := List.drop_eq_getElem_cons (by omega)
      generalize zs[j]'(by omega) = z at hdr
      obtain ⟨x, hx⟩ : ∃ x, bs[j] = x := ⟨_, rfl⟩
      rw [hx] at a0 a1 a2 a3 a4 rm rl hpt
      clear hx HC RM RL
      obtain ⟨nm, sz, m, rs, fx, ep⟩ := x
      simp only at a0 a1 a2 a3 a4 rm rl
      obtain ⟨o', cap', rfl⟩ := rm.form
      replace a0 := (hb.cell (p := ⟨g, off + j * 5, none⟩) hg).trans a0
      replace a1 := (hb.cell (p := ⟨g, off + j * 5 + 1, none⟩) hg).trans a1
      replace a2 := (hb.cell (p := ⟨g, off + j * 5 + 2, none⟩) hg).trans a2
      replace a3 := (hb.cell (p := ⟨g, off + j * 5 + 3, none⟩) hg).trans a3
      replace a4 := (hb.cell (p := ⟨g, off + j * 5 + 4, none⟩) hg).trans a4
      have HP : Hid _ := And.intro hpl (And.intro hpt hdr)
      have HO : Hid _ := And.intro own oms
      have HAP : Hid _ := apa
      clear hpl hpt hdr own oms apa
      go_wp2_with fail
      refine (toPlain_any nm sz _ rs fx ep _ rl rm).mono ?_
      rintro e w5 ⟨g5, rfl, og, b5⟩
      have own5 := owns_below HO.out.1 b5
      have hjl : j < (ms ++ zs.drop j).length := by simp; omega
      obtain ⟨⟨t0, t1, t2, t3, t4⟩, u0, u1, u2, u3, u4⟩ := own_fiveK own5 j hjl
      have HST := own_plain own5 j hjl ⟨nm, sz, .slice (some ⟨g5, 0, none⟩) rs.length rs.length, rs, fx, ep⟩
      have hset : (ms ++ zs.drop j).set j ⟨nm, sz, .slice (some ⟨g5, 0, none⟩) rs.length rs.length, rs, fx, ep⟩ = (ms ++ [⟨nm, sz, .slice (some ⟨g5, 0, none⟩) rs.length rs.length, rs, fx, ep⟩]) ++ zs.drop (j + 1) := by
        rw [List.set_append_right _ _ (by omega), hml, Nat.sub_self, HP.out.2.2, List.set_cons_zero, List.append_assoc]
        rfl
      rw [hset] at HST
      simp only at HST
      have hs5 : w.heap.size < w5.heap.size := Nat.lt_of_lt_of_le hsz b5.size
      have uu : Upto w.heap.size w5 (((((w5.setCell ⟨w.heap.size, j * 5, none⟩ (.string nm)).setCell ⟨w.heap.size, j * 5 + 1, none⟩ (.int .i64 sz)).setCell ⟨w.heap.size, j * 5 + 2, none⟩ (.slice (some ⟨g5, 0, none⟩) rs.length rs.length)).setCell ⟨w.heap.size, j * 5 + 3, none⟩ (.bool fx)).setCell ⟨w.heap.size, j * 5 + 4, none⟩ (.int .i64 ep)) := (((((Upto.refl _ _).setCell ⟨w.heap.size, j * 5, none⟩ (.inl rfl) _).setCell ⟨w.heap.size, j * 5 + 1, none⟩ (.inl rfl) _).setCell ⟨w.heap.size, j * 5 + 2, none⟩ (.inl rfl) _).setCell ⟨w.heap.size, j * 5 + 3, none⟩ (.inl rfl) _).setCell ⟨w.heap.size, j * 5 + 4, none⟩ (.inl rfl) _
      have hbf := (bw_call hb b5).trans (uu.toBelow (Nat.le_of_lt hs5) (Nat.le_refl _))
      have hms : ∀ b ∈ ms ++ [⟨nm, sz, .slice (some ⟨g5, 0, none⟩) rs.length rs.length, rs, fx, ep⟩], (((((w5.setCell ⟨w.heap.size, j * 5, none⟩ (.string nm)).setCell ⟨w.heap.size, j * 5 + 1, none⟩ (.int .i64 sz)).setCell ⟨w.heap.size, j * 5 + 2, none⟩ (.slice (some ⟨g5, 0, none⟩) rs.length rs.length)).setCell ⟨w.heap.size, j * 5 + 3, none⟩ (.bool fx)).setCell ⟨w.heap.size, j * 5 + 4, none⟩ (.int .i64 ep)).ownsRow (w.heap.size + 1) 2 1 b.m b.rs.length (b.rs.flatMap intC) := fun b hbm => by
        rcases List.mem_append.1 hbm with y | y
        · exact ownsRow_upto (owns_below (HO.out.2 b y) b5) uu (by omega)
        · simp only [List.mem_singleton] at y
          subst y
          exact ownsRow_upto (owns_mono og (by omega)) uu (by omega)
      have hpn : (ms ++ [(⟨nm, sz, .slice (some ⟨g5, 0, none⟩) rs.length rs.length, rs, fx, ep⟩ : Pk)]).map bareK = (bs.take (j + 1)).map bareK := by rw [HP.out.2.1, List.map_append, HP.out.1]; rfl
      have hap : ApartK (ms ++ [⟨nm, sz, .slice (some ⟨g5, 0, none⟩) rs.length rs.length, rs, fx, ep⟩]) := ApartK.snoc HAP.out _ (fun b hbm g hgb hgy => by
        have h1 := ((HO.out.2 b hbm).lt g hgb).2
        have h2 := (og.lt g hgy).1
        omega)
      have HF : Hid _ := And.intro hpn (And.intro HST (And.intro hms (And.intro hap (And.intro hbf (Nat.lt_of_lt_of_le hs5 uu.size)))))
      generalize (ms ++ zs.drop j)[j] = y at t0 t1 t2 t3 t4
      obtain ⟨yn, ys, ym, yr, yf, ye⟩ := y
      simp only at t0 t1 t2 t3 t4
      clear hpn HST hms hap HAP hbf uu own5 og b5 HO HP hset hb hs5 a0 a1 a2 a3 a4 rm rl
      go_wp2_with fail
      go_roundw
      case rel => exact ⟨j + 1, _, by omega, by go_num, HF.out⟩
      case measure => simp [intOf]; omega
    · have hjj : j = bs.length := by omega
      have HAP : Hid _ := apa
      have HF : Hid (ms.map bareK = bs.map bareK ∧ OwnK w.heap.size wr (.slice (some ⟨w.heap.size, 0, none⟩) bs.length bs.length) ms) := by
        rw [hjj, List.take_length] at hpl
        rw [hjj, List.drop_of_length_le (by omega), List.append_nil] at own
        exact ⟨hpl, own, fun b hbm => owns_mono (oms b hbm) (by omega)⟩
      clear hpl own oms
      go_wp2_with fail
      go_ret
      exact ⟨ms, rfl, HF.out.1, HF.out.2, HAP.out, hb⟩

theorem toPlains_any (v : Value) (bs : List Pk) (w : World) (hn : bs.length ≤ 1048576) (hr : ∀ b ∈ bs, b.rs.length ≤ 1048576) (r : ReadsK w.heap.size w v bs) :
    Calls Tryz.prog 26 #[v] w fun e w' => ∃ ms : List Pk, e = .returned (.slice (some ⟨w.heap.size, 0, none⟩) bs.length bs.length) ∧ ms.map bareK = bs.map bareK ∧ OwnK w.heap.size w' (.slice (some ⟨w.heap.size, 0, none⟩) bs.length bs.length) ms ∧ Below w.heap.size w w' :=
  (toPlainsA_any v bs w hn hr r).mono fun _ _ ⟨ms, h1, h2, h3, _, h5⟩ => ⟨ms, h1, h2, h3, h5⟩
end Go.Proofs.YtcefcglonooelaaGreatDoor

namespace Go.Proofs.YtcefcglonooelaaGreatDoor
open Go.RowKit

set_option linter.unusedVariables false

set_option maxRecDepth 100000


set_option maxHeartbeats 3200000 in
theorem eqPlains_same (v v' : Value) (bs ms : List Pk) (w : World) (hp : ms.map bareK = bs.map bareK) (r : ReadsK w.heap.size w v bs) (r' : ReadsK w.heap.size w v' ms) :
    Calls Tryz.prog 28 #[v, v'] w fun e w' => e = .returned (.bool true) ∧ Below w.heap.size w w' := by
  have RM : Hid _ := r.maps
  have RM' : Hid _ := r'.maps
  have hl := bare_len hp
  have HP : Hid _ := hp
  obtain ⟨o1, cap1, rfl, m1, c1, -⟩ := r.row
  obtain ⟨o2, cap2, rfl, m2, c2, -⟩ := r'.row
  have C1 : Hid _ := five_cellsK c1
  have C2 : Hid _ := five_cellsK c2
  have HL : Hid (ms.length = bs.length) := hl
  rw [hl]
  unfold maxLen at m1
  clear c1 c2 m2 r r' hp hl
  go_enter Tryz.func28, Tryz.ntmps28
  go_wp2
  go_loopw [5] (fun i wr => ∃ k : Nat, k ≤ bs.length ∧ i = .int .i64 k ∧ Below w.heap.size w wr) (fun i _ => bs.length - (intOf i).toNat)
  case atStart => exact ⟨0, Nat.zero_le _, rfl, Below.refl _ _⟩
  case round =>
    obtain ⟨k, hk, rfl, hb⟩ := hrel
    by_cases hlt : k < bs.length
    · have hlt2 : k < ms.length := by have := HL.out; omega
      obtain ⟨g1, of1, rfl, q1, a0, a1, a2, a3, a4⟩ := C1.out k hlt
      obtain ⟨g2, of2, rfl, q2, b0, b1, b2, b3, b4⟩ := C2.out k hlt2
      have rm := (RM.out bs[k] (List.getElem_mem hlt)).below hb
      have rm' := (RM'.out ms[k] (List.getElem_mem hlt2)).below hb
      have hpk := bare_at HP.out k hlt2 hlt
      generalize bs[k] = x at a0 a1 a2 a3 a4 rm hpk
      generalize ms[k] = y at b0 b1 b2 b3 b4 rm' hpk
      obtain ⟨nm, sz, m, rs, fx, ep⟩ := x
      obtain ⟨nm', sz', m', rs', fx', ep'⟩ := y
      simp only [bareK, Prod.mk.injEq] at a0 a1 a2 a3 a4 b0 b1 b2 b3 b4 rm rm' hpk
      obtain ⟨rfl, rfl, rfl, rfl, rfl⟩ := hpk
      have hne := BelowOf.any wr
      have l1 : g1 < wr.heap.size := Nat.lt_of_lt_of_le q1 hb.size
      have l2 : g2 < wr.heap.size := Nat.lt_of_lt_of_le q2 hb.size
      have HEQ : ∀ q : BelowOf wr, Calls Tryz.prog 64 #[.agg #[.string nm', .int .i64 sz', m, .bool fx', .int .i64 ep'], .agg #[.string nm', .int .i64 sz', m', .bool fx', .int .i64 ep']] q.w' fun e w' => e = .returned (.bool true) ∧ Below q.w'.heap.size q.w' w' := fun q => eqPlain_same nm' sz' m m' rs' fx' ep' q.w' (rm.of hb.size q) (rm'.of hb.size q)
      have d0 := BelowOf.cell ((hb.cell (p := ⟨g1, of1 + k * 5, none⟩) q1).trans a0) l1
      have d1 := BelowOf.cell ((hb.cell (p := ⟨g1, of1 + k * 5 + 1, none⟩) q1).trans a1) l1
      have d2 := BelowOf.cell ((hb.cell (p := ⟨g1, of1 + k * 5 + 2, none⟩) q1).trans a2) l1
      have d3 := BelowOf.cell ((hb.cell (p := ⟨g1, of1 + k * 5 + 3, none⟩) q1).trans a3) l1
      have d4 := BelowOf.cell ((hb.cell (p := ⟨g1, of1 + k * 5 + 4, none⟩) q1).trans a4) l1
      have f0 := BelowOf.cell ((hb.cell (p := ⟨g2, of2 + k * 5, none⟩) q2).trans b0) l2
      have f1 := BelowOf.cell ((hb.cell (p := ⟨g2, of2 + k * 5 + 1, none⟩) q2).trans b1) l2
      have f2 := BelowOf.cell ((hb.cell (p := ⟨g2, of2 + k * 5 + 2, none⟩) q2).trans b2) l2
      have f3 := BelowOf.cell ((hb.cell (p := ⟨g2, of2 + k * 5 + 3, none⟩) q2).trans b3) l2
      have f4 := BelowOf.cell ((hb.cell (p := ⟨g2, of2 + k * 5 + 4, none⟩) q2).trans b4) l2
      have g1' : (0 : Int) ≤ (k : Int) := by omega
      have g2' : (k : Int) < (bs.length : Int) := by omega
      clear a0 a1 a2 a3 a4 b0 b1 b2 b3 b4 C1 C2 RM RM' rm rm' HP
      go_wp2_with fail
      refine wp_region_of (by kernel_rfl) (by kernel_rfl) ?_
      repeat (go_big_quiet_step ((first | (go_at_call 64; exact calls_of (HEQ _)) | rfl)))
      refine wpQuiet_nil ?_
      intro w5 hw5
      obtain ⟨⟨wx, cx⟩, hwx⟩ := hw5
      have b5 : Below wr.heap.size wr w5 := by rw [hwx]; exact cx
      have hb5 := hb.trans (b5.mono hb.size)
      clear hwx cx wx hne d0 d1 d2 d3 d4 f0 f1 f2 f3 f4 HEQ
      go_wp2_with fail
      go_roundw
      case rel => exact ⟨k + 1, by omega, by go_num, hb5⟩
      case measure => simp [intOf]; omega
    · go_wp2
      go_ret
      exact ⟨rfl, hb⟩
end Go.Proofs.YtcefcglonooelaaGreatDoor

namespace Go.Proofs.YtcefcglonooelaaGreatDoor
open Go.RowKit

set_option linter.unusedVariables false

set_option maxRecDepth 100000

theorem getD_some (xs : List Int) (j : Nat) (h : j < xs.length) : (xs.map (Value.int .i64))[j]? = some (.int .i64 (xs.getD j 0)) := by
  rw [List.getElem?_map, List.getElem?_eq_getElem h, List.getD_eq_getElem?_getD, List.getElem?_eq_getElem h]; rfl
end Go.Proofs.YtcefcglonooelaaGreatDoor

namespace Go.Proofs.YtcefcglonooelaaGreatDoor
open Go.RowKit

set_option linter.unusedVariables false

set_option maxRecDepth 100000


/-- A pool whose two rows are the call's own and lie apart. -/
structure OwnP (base : Nat) (w : World) (v1 v2 : Value) (cs ps : List Int) : Prop where
  c : w.ownsRow base 2 1 v1 cs.length (cs.map (Value.int .i64))
  p : w.ownsRow base 2 1 v2 ps.length (ps.map (Value.int .i64))
  apart : ∀ g, v1.ownBlock = some g → v2.ownBlock ≠ some g

theorem OwnP.below {base : Nat} {w w' : World} {v1 v2 : Value} {cs ps : List Int} (h : OwnP base w v1 v2 cs ps) (b : Below w.heap.size w w') : OwnP base w' v1 v2 cs ps := ⟨owns_below h.c b, owns_below h.p b, h.apart⟩

theorem OwnP.mono {base base' : Nat} {w : World} {v1 v2 : Value} {cs ps : List Int} (h : OwnP base w v1 v2 cs ps) (b : base' ≤ base) : OwnP base' w v1 v2 cs ps := ⟨owns_mono h.c b, owns_mono h.p b, h.apart⟩

theorem OwnP.r1 {base : Nat} {w : World} {v1 v2 : Value} {cs ps : List Int} (h : OwnP base w v1 v2 cs ps) : Reads w.heap.size w v1 (cs.map (Value.int .i64)) := Reads.of_own h.c

theorem OwnP.r2 {base : Nat} {w : World} {v1 v2 : Value} {cs ps : List Int} (h : OwnP base w v1 v2 cs ps) : Reads w.heap.size w v2 (ps.map (Value.int .i64)) := Reads.of_own h.p

theorem OwnP.nil (base : Nat) (w : World) : OwnP base w (.slice none 0 0) (.slice none 0 0) [] [] := ⟨owns_nil _ _ _ _, owns_nil _ _ _ _, fun g h => by cases h⟩

theorem l1Copy_any (v : Value) (xs : List Int) (w : World) (hn : xs.length ≤ 1048576) (h : Reads w.heap.size w v (xs.map (Value.int .i64))) :
    Calls Tryz.prog 82 #[v] w fun e w' => ∃ v' : Value, e = .returned v' ∧ w'.ownsRow w.heap.size 2 1 v' xs.length (xs.map (Value.int .i64)) ∧ v' ≠ .slice none 0 0 ∧ Below w.heap.size w w' := by
  obtain ⟨i0, hi, hz0, hz1, hz2⟩ := info_parts Tryz.infoI64
  obtain ⟨o, cap, rfl, hm, hc, -⟩ := h
  have hl : (xs.map (Value.int .i64)).length = xs.length := by simp
  rw [hl] at hm ⊢
  have own0 : (w.alloc (.cells #[] 2)).ownsRow w.heap.size 2 1 (.slice (some ⟨w.heap.size, 0, none⟩) 0 0) 0 [] := World.ownsRow_lit w #[] 0 (Nat.le_refl _) (Nat.zero_le _) rfl
  have d0 : Below w.heap.size w (w.alloc (.cells #[] 2)) := bw_alloc (Below.refl _ _)
  have HC : Hid (∀ j u, (xs.map (Value.int .i64))[j]? = some u → ∃ g off, o = some ⟨g, off, none⟩ ∧ (w.alloc (.cells #[] 2)).cell? ⟨g, off + j, none⟩ = some u) := fun j u hj => by
    obtain ⟨g, off, e, hg, hx⟩ := hc j u hj
    exact ⟨g, off, e, (d0.cell (p := ⟨g, off + j, none⟩) hg).trans hx⟩
  clear hc hl
  go_enter Tryz.func82, Tryz.ntmps82
  go_wp2_with (at_builtin; refine wpList_append_reads rfl _ _ 37 rfl w.heap.size 2 i0 (.int .i64 0) 1 8 Tryz.underlying37 hi hz0 hz1 hz2 rfl (by decide) _ 0 [] rfl own0 o xs.length cap (xs.map (Value.int .i64)) rfl ?c0 HC.out ?c2 ?c3 ?c4 ?c5 ?_)
  case c0 => simp
  case c2 => intro u hu; simp at hu; obtain ⟨a, _, rfl⟩ := hu; rfl
  case c3 => unfold maxLen; omega
  case c4 => omega
  case c5 => simp
  intro v' w' hown hgrow hnil
  have hown2 : w'.ownsRow w.heap.size 2 1 v' xs.length (xs.map (Value.int .i64)) := by simpa using hown
  have hnn : v' ≠ .slice none 0 0 := hnil
  have hb : Below w.heap.size w w' := d0.grown hgrow (by simp) (fun q hq => (own0.lt q hq).1)
  clear hown hgrow hnil own0 d0 HC
  go_wp2_with fail
  go_ret
  exact ⟨v', rfl, hown2, hnn, hb⟩
end Go.Proofs.YtcefcglonooelaaGreatDoor

