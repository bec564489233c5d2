/-
  Contracts and plain laws, one chapter behind the other.
-/
import Derived.Deep.RegionHeld3
import Derived.WalkKit
import Derived.Deep.RegionLaw
import Derived.Deep.DeepCutAuto
import Derived.Laws.Cover1
import Derived.Test.YtkjdfgjmkomcgaaM01
namespace Go.Proofs.Ytkjdfgjmkomcgaa
open Go.RowKit

set_option linter.unusedVariables false

set_option maxRecDepth 100000


set_option maxHeartbeats 800000 in
theorem szPlain_any (nm : ByteArray) (sz : Int) (m : Value) (rs : List Int) (fx : Bool) (ep : Int) (left : Int) (w : World) (hn : nm.size ≤ maxLen) (h0 : 0 ≤ left) (hl : left ≤ 1048576) (r : ReadsR 1 intC w.heap.size w m rs) :
    Calls Try.prog 38 #[.agg #[.string nm, .int .i64 sz, m, .bool fx, .int .i64 ep], .int .i64 left] w fun e w' => ∃ q : Int, e = .returned (.int .i64 q) ∧ (q = -1 ∨ (0 ≤ q ∧ q ≤ left ∧ nm.size ≤ 1048576 ∧ rs.length ≤ 1048576)) ∧ Below w.heap.size w w' := by
  obtain ⟨o, cap, rfl, hm, -⟩ := r
  obtain ⟨W0, hW0, k0, d0, z0⟩ := box1 w #[.string nm, .int .i64 sz, .slice o rs.length cap, .bool fx, .int .i64 ep] 77
  have HW0 : Hid (W0 = _) := hW0
  have p0 := at_cell k0 0
  have p2 := at_cell k0 2
  rw [hW0] at p0 p2
  clear hW0 k0
  have HM : Hid _ := hm
  unfold maxLen at hn hm
  by_cases hb : left < (nm.size : Int)
  · have h1 : left - (nm.size : Int) < 0 := by omega
    go_enter Try.func38, Try.ntmps38
    go_wp2_with fail
    go_ret
    exact ⟨-1, rfl, .inl rfl, by rw [← HW0.out]; exact d0⟩
  · have hl1 : 0 ≤ left - (nm.size : Int) := by omega
    have hl2 : left - (nm.size : Int) ≤ 1048576 := by omega
    go_enter Try.func38, Try.ntmps38
    go_wp2_with fail
    refine (szInts_any _ _ _ _ _ hl1 hl2 HM.out).mono ?_
    rintro e w' ⟨rfl, rfl⟩
    by_cases hb2 : left - (nm.size : Int) < (rs.length : Int)
    · rw [if_pos hb2]
      go_wp2_with fail
      go_ret
      exact ⟨-1, rfl, .inl rfl, by rw [← HW0.out]; exact d0⟩
    · rw [if_neg hb2]
      have hl3 : 0 ≤ left - (nm.size : Int) - (rs.length : Int) := by omega
      go_wp2_with fail
      go_ret
      exact ⟨_, rfl, .inr ⟨hl3, by omega, by omega, by omega⟩, by rw [← HW0.out]; exact d0⟩

theorem toPlain_end {w w1 : World} {b1 b2 base : Nat} {a0 a1 a2 a3 a4 : Value} {t : TypeId} {v : Value} {n : Nat} {xs : List Value} (h1 : w.heap.size ≤ b1) (h2 : w.heap.size ≤ b2) (hne : b1 ≠ b2) (l1 : b1 < base) (l2 : b2 < base) (l3 : w.heap.size ≤ base) (k1 : w1.heap[b1]? = some (.cells #[a0, a1, a2, a3, a4] t (0, 0))) (own : w1.ownsRow base 2 1 v n xs) (d0 : Below w.heap.size w w1) (y2 y3 y4 x0 x1 x2 x3 x4 : Value) :
    ((((((((w1.setCell ⟨b2, 2, none⟩ y2).setCell ⟨b2, 3, none⟩ y3).setCell ⟨b2, 4, none⟩ y4).setCell ⟨b1, 0, none⟩ x0).setCell ⟨b1, 1, none⟩ x1).setCell ⟨b1, 2, none⟩ x2).setCell ⟨b1, 3, none⟩ x3).setCell ⟨b1, 4, none⟩ x4).heap[b1]? = some (.cells #[x0, x1, x2, x3, x4] t (0, 0)) ∧
    ((((((((w1.setCell ⟨b2, 2, none⟩ y2).setCell ⟨b2, 3, none⟩ y3).setCell ⟨b2, 4, none⟩ y4).setCell ⟨b1, 0, none⟩ x0).setCell ⟨b1, 1, none⟩ x1).setCell ⟨b1, 2, none⟩ x2).setCell ⟨b1, 3, none⟩ x3).setCell ⟨b1, 4, none⟩ x4).ownsRow w.heap.size 2 1 v n xs ∧
    Below w.heap.size w ((((((((w1.setCell ⟨b2, 2, none⟩ y2).setCell ⟨b2, 3, none⟩ y3).setCell ⟨b2, 4, none⟩ y4).setCell ⟨b1, 0, none⟩ x0).setCell ⟨b1, 1, none⟩ x1).setCell ⟨b1, 2, none⟩ x2).setCell ⟨b1, 3, none⟩ x3).setCell ⟨b1, 4, none⟩ x4) := by
  have u : Upto b2 w1 (((w1.setCell ⟨b2, 2, none⟩ y2).setCell ⟨b2, 3, none⟩ y3).setCell ⟨b2, 4, none⟩ y4) := (((Upto.refl _ _).setCell ⟨b2, 2, none⟩ (.inl rfl) _).setCell ⟨b2, 3, none⟩ (.inl rfl) _).setCell ⟨b2, 4, none⟩ (.inl rfl) _
  have e1 := (u.block _ (heap_lt k1) hne).trans k1
  have e2 := ownsRow_upto own u l2
  have e3 : Below w.heap.size w (((w1.setCell ⟨b2, 2, none⟩ y2).setCell ⟨b2, 3, none⟩ y3).setCell ⟨b2, 4, none⟩ y4) := bw_set (bw_set (bw_set d0 h2 _) h2 _) h2 _
  generalize ((w1.setCell ⟨b2, 2, none⟩ y2).setCell ⟨b2, 3, none⟩ y3).setCell ⟨b2, 4, none⟩ y4 = W at *
  have v : Upto b1 W (((((W.setCell ⟨b1, 0, none⟩ x0).setCell ⟨b1, 1, none⟩ x1).setCell ⟨b1, 2, none⟩ x2).setCell ⟨b1, 3, none⟩ x3).setCell ⟨b1, 4, none⟩ x4) := (((((Upto.refl _ _).setCell ⟨b1, 0, none⟩ (.inl rfl) _).setCell ⟨b1, 1, none⟩ (.inl rfl) _).setCell ⟨b1, 2, none⟩ (.inl rfl) _).setCell ⟨b1, 3, none⟩ (.inl rfl) _).setCell ⟨b1, 4, none⟩ (.inl rfl) _
  exact ⟨set_five e1 x0 x1 x2 x3 x4, owns_mono (ownsRow_upto e2 v l1) l3, bw_five e3 h1 _ _ _ _ _⟩

set_option maxHeartbeats 1600000 in
theorem toPlain_any (nm : ByteArray) (sz : Int) (m : Value) (rs : List Int) (fx : Bool) (ep : Int) (w : World) (hb : rs.length ≤ 1048576) (r : ReadsR 1 intC w.heap.size w m rs) :
    Calls Try.prog 40 #[.agg #[.string nm, .int .i64 sz, m, .bool fx, .int .i64 ep]] w fun e w' => ∃ g : Nat, e = .returned (.agg #[.string nm, .int .i64 sz, .slice (some ⟨g, 0, none⟩) rs.length rs.length, .bool fx, .int .i64 ep]) ∧ w'.ownsRow w.heap.size 2 1 (.slice (some ⟨g, 0, none⟩) rs.length rs.length) rs.length (rs.flatMap intC) ∧ Below w.heap.size w w' := by
  obtain ⟨o, cap, hm⟩ := r.form
  obtain ⟨W1, hW0, k0, k1, k2, d0, z0⟩ := box3 w #[.string nm, .int .i64 sz, m, .bool fx, .int .i64 ep] #[.string ⟨#[]⟩, .int .i64 0, .slice none 0 0, .bool false, .int .i64 0] #[.string nm, .int .i64 sz, .slice none 0 0, .bool false, .int .i64 0] 77 46 46
  have r0 := r.below d0
  have z0a : w.heap.size + 1 + 1 + 1 ≤ W1.heap.size := by omega
  clear z0
  subst hm
  have HW0 : Hid _ := hW0
  clear hW0 r
  go_enter Try.func40, Try.ntmps40
  go_wp2_with (fail)
  rw [← HW0.out]
  clear HW0
  refine (toIntsK_any _ rs _ hb (r0.mono (by omega))).mono ?_
  rintro e w1 ⟨rfl, own, b1⟩
  replace k0 := (b1.block _ (by omega)).trans k0
  replace k1 := (b1.block _ (by omega)).trans k1
  replace k2 := (b1.block _ (by omega)).trans k2
  replace d0 := bw_call d0 b1
  have z2 := b1.size
  clear b1 r0
  have p3 := at_cell k0 3
  have p4 := at_cell k0 4
  have c0 := at_cell k2 0
  have c1 := at_cell k2 1
  have c2 := at_cell k2 2
  have c3 := at_cell k2 3
  have c4 := at_cell k2 4
  have f2 := at_open k2 2
  have f3 := at_open k2 3
  have f4 := at_open k2 4
  have q0 := at_cell k1 0
  have q1 := at_cell k1 1
  have q2 := at_cell k1 2
  have q3 := at_cell k1 3
  have q4 := at_cell k1 4
  have g0 := at_open k1 0
  have g1 := at_open k1 1
  have g2 := at_open k1 2
  have g3 := at_open k1 3
  have g4 := at_open k1 4
  have HS : Hid _ := toPlain_end (b1 := w.heap.size + 1) (b2 := w.heap.size + 1 + 1) (by omega) (by omega) (by omega) (by omega) (by omega) (by omega) k1 own d0 (.slice (some ⟨W1.heap.size, 0, none⟩) rs.length rs.length) (.bool fx) (.int .i64 ep) (.string nm) (.int .i64 sz) (.slice (some ⟨W1.heap.size, 0, none⟩) rs.length rs.length) (.bool fx) (.int .i64 ep)
  clear k0 k1 k2 own d0
  go_wp2_with fail
  exact bodyPost_ret (v := .agg #[.string nm, .int .i64 sz, .slice (some ⟨W1.heap.size, 0, none⟩) rs.length rs.length, .bool fx, .int .i64 ep]) (by simp [results, Try.results40, go_sem, at_cell HS.out.1]) rfl ⟨_, rfl, HS.out.2.1, HS.out.2.2⟩

set_option maxHeartbeats 1600000 in
theorem eqPlain_same (nm : ByteArray) (sz : Int) (m m' : Value) (rs : List Int) (fx : Bool) (ep : Int) (w : World) (r : ReadsR 1 intC w.heap.size w m rs) (r' : ReadsR 1 intC w.heap.size w m' rs) :
    Calls Try.prog 44 #[.agg #[.string nm, .int .i64 sz, m, .bool fx, .int .i64 ep], .agg #[.string nm, .int .i64 sz, m', .bool fx, .int .i64 ep]] w fun e w' => e = .returned (.bool true) ∧ Below w.heap.size w w' := by
  obtain ⟨o, cap, rfl⟩ := r.form
  obtain ⟨o', cap', rfl⟩ := r'.form
  obtain ⟨W0, hW0, k0, k1, d0, z0⟩ := box2 w #[.string nm, .int .i64 sz, .slice o rs.length cap, .bool fx, .int .i64 ep] #[.string nm, .int .i64 sz, .slice o' rs.length cap', .bool fx, .int .i64 ep] 46 46
  have r0 := (r.below d0).mono d0.size
  have r1 := (r'.below d0).mono d0.size
  have HW0 : Hid (W0 = _) := hW0
  clear hW0 r r'
  go_enter Try.func44, Try.ntmps44
  go_wp2_with fail
  rw [← HW0.out]
  clear HW0
  refine (eqIntsK_any _ _ rs rs _ r0 r1).mono ?_
  rintro e w1 ⟨rfl, b⟩
  replace k0 := (b.block _ (by omega)).trans k0
  replace k1 := (b.block _ (by omega)).trans k1
  replace d0 := bw_call d0 b
  have p3 := at_cell k0 3
  have p4 := at_cell k0 4
  have q3 := at_cell k1 3
  have q4 := at_cell k1 4
  simp only [decide_true]
  clear r0 r1 b k0 k1
  cases fx
  · go_wp2_with fail
    go_ret
    exact ⟨rfl, d0⟩
  · go_wp2_with fail
    go_ret
    exact ⟨rfl, d0⟩
end Go.Proofs.Ytkjdfgjmkomcgaa

namespace Go.Proofs.Ytkjdfgjmkomcgaa
open Go.RowKit

set_option linter.unusedVariables false

set_option maxRecDepth 100000

/-- A row of books of one's own: the row, and each map. -/
structure OwnB (base : Nat) (w : World) (v : Value) (bs : List Bk) : Prop where
  row : w.ownsRow base 39 5 v bs.length (bs.flatMap bookC)
  maps : ∀ b ∈ bs, w.ownsRow base 106 3 b.m b.rs.length (b.rs.flatMap runC)

theorem OwnB.reads {base : Nat} {w : World} {v : Value} {bs : List Bk} (h : OwnB base w v bs) : ReadsB w.heap.size w v bs := ⟨ReadsR.of_own bookC_len h.row, fun b hb => ReadsR.of_own runC_len (h.maps b hb)⟩

theorem OwnB.below {base : Nat} {w w' : World} {v : Value} {bs : List Bk} (h : OwnB base w v bs) (k : Below w.heap.size w w') : OwnB base w' v bs := ⟨owns_below h.row k, fun b hb => owns_below (h.maps b hb) k⟩

theorem OwnB.mono {base base' : Nat} {w : World} {v : Value} {bs : List Bk} (h : OwnB base w v bs) (k : base' ≤ base) : OwnB base' w v bs := ⟨owns_mono h.row k, fun b hb => owns_mono (h.maps b hb) k⟩

/-- No two maps lie in one block. -/
def ApartM (ms : List Bk) : Prop := ms.Pairwise (fun a b => ∀ g, a.m.ownBlock = some g → b.m.ownBlock ≠ some g)

theorem ApartM.snoc {ms : List Bk} (h : ApartM ms) (y : Bk) (hy : ∀ b ∈ ms, ∀ g, b.m.ownBlock = some g → y.m.ownBlock ≠ some g) : ApartM (ms ++ [y]) :=
  List.pairwise_append.2 ⟨h, List.pairwise_singleton _ _, fun a ha b hb => by simp only [List.mem_singleton] at hb; subst hb; exact hy a ha⟩
end Go.Proofs.Ytkjdfgjmkomcgaa

namespace Go.Proofs.Ytkjdfgjmkomcgaa
open Go.RowKit

set_option linter.unusedVariables false

set_option maxRecDepth 100000


/-- All of a book but where its map lies. -/
def bareK (b : Pk) : ByteArray × Int × List Int × Bool × Int := (b.nm, b.sz, b.rs, b.fx, b.ep)

theorem bare_len {bs ms : List Pk} (h : ms.map bareK = bs.map bareK) : ms.length = bs.length := by simpa using congrArg List.length h

theorem bare_at {bs ms : List Pk} (h : ms.map bareK = bs.map bareK) (k : Nat) (h1 : k < ms.length) (h2 : k < bs.length) : bareK ms[k] = bareK bs[k] := by
  have e : (ms.map bareK)[k]? = (bs.map bareK)[k]? := by rw [h]
  simpa [h1, h2] using e

/-- A book's five cells in a row. -/
theorem five_cellsK {B : Nat} {w : World} {o : Option Addr} {bs : List Pk} (hc : ∀ i x, bs[i]? = some x → ∃ g off, o = some ⟨g, off, none⟩ ∧ g < B ∧ ∀ j u, (pkC x)[j]? = some u → w.cell? ⟨g, off + i * 5 + j, none⟩ = some u) (i : Nat) (hi : i < bs.length) :
    ∃ g off, o = some ⟨g, off, none⟩ ∧ g < B ∧ w.cell? ⟨g, off + i * 5, none⟩ = some (.string bs[i].nm) ∧ w.cell? ⟨g, off + i * 5 + 1, none⟩ = some (.int .i64 bs[i].sz) ∧ w.cell? ⟨g, off + i * 5 + 2, none⟩ = some bs[i].m ∧ w.cell? ⟨g, off + i * 5 + 3, none⟩ = some (.bool bs[i].fx) ∧ w.cell? ⟨g, off + i * 5 + 4, none⟩ = some (.int .i64 bs[i].ep) := by
  obtain ⟨g, off, e, hg, hx⟩ := hc i bs[i] (List.getElem?_eq_getElem hi)
  exact ⟨g, off, e, hg, hx 0 _ rfl, hx 1 _ rfl, hx 2 _ rfl, hx 3 _ rfl, hx 4 _ rfl⟩

set_option maxHeartbeats 1600000 in
theorem szPlains_any (v : Value) (bs : List Pk) (left : Int) (w : World) (h0 : 0 ≤ left) (hl : left ≤ 1048576) (hn : ∀ b ∈ bs, b.nm.size ≤ maxLen) (r : ReadsK w.heap.size w v bs) :
    Calls Try.prog 14 #[v, .int .i64 left] w fun e w' => ∃ q : Int, e = .returned (.int .i64 q) ∧ (q = -1 ∨ (0 ≤ q ∧ q ≤ left ∧ bs.length ≤ 1048576 ∧ ∀ b ∈ bs, b.nm.size ≤ 1048576 ∧ b.rs.length ≤ 1048576)) ∧ Below w.heap.size w w' := by
  have RM : Hid _ := r.maps
  have RN : Hid _ := hn
  obtain ⟨o, cap, rfl, hm, hc, -⟩ := r.row
  have HC : Hid _ := five_cellsK hc
  unfold maxLen at hm
  clear hc r hn
  by_cases hbig : left < (bs.length : Int)
  · have h1 : left - (bs.length : Int) < 0 := by omega
    go_enter Try.func14, Try.ntmps14
    go_wp2_with fail
    go_ret
    exact ⟨-1, rfl, .inl rfl, Below.refl _ _⟩
  · have h1 : 0 ≤ left - (bs.length : Int) := by omega
    go_enter Try.func14, Try.ntmps14
    go_wp2_with fail
    go_loopw [1, 5] (fun q i wr => ∃ (k : Nat) (l : Int), k ≤ bs.length ∧ i = .int .i64 k ∧ q = .int .i64 l ∧ (0 ≤ l ∧ l ≤ left) ∧ (∀ j (hj : j < bs.length), j < k → bs[j].nm.size ≤ 1048576 ∧ bs[j].rs.length ≤ 1048576) ∧ Below w.heap.size w wr) (fun _ i _ => bs.length - (intOf i).toNat)
    case atStart => exact ⟨0, left - (bs.length : Int), Nat.zero_le _, rfl, rfl, by omega, fun j _ hj => by omega, Below.refl _ _⟩
    case round =>
      obtain ⟨k, l, hk, rfl, rfl, hlq, hall, hb⟩ := hrel
      have HA : Hid _ := hall
      clear hall
      by_cases hlt : k < bs.length
      · obtain ⟨g, off, rfl, hg, a0, a1, a2, a3, a4⟩ := HC.out k hlt
        have rm := ((RM.out bs[k] (List.getElem_mem hlt)).below hb).mono hb.size
        have rn := RN.out bs[k] (List.getElem_mem hlt)
        obtain ⟨x, hx⟩ : ∃ x, bs[k] = x := ⟨_, rfl⟩
        have HX : Hid (bs[k] = x) := hx
        rw [hx] at a0 a1 a2 a3 a4 rm rn
        clear hx HC RM RN
        obtain ⟨nm, sz, m, rs, fx, ep⟩ := x
        simp only at a0 a1 a2 a3 a4 rm rn
        obtain ⟨o', cap', rfl⟩ := rm.form
        replace a0 := (hb.cell (p := ⟨g, off + k * 5, none⟩) hg).trans a0
        replace a1 := (hb.cell (p := ⟨g, off + k * 5 + 1, none⟩) hg).trans a1
        replace a2 := (hb.cell (p := ⟨g, off + k * 5 + 2, none⟩) hg).trans a2
        replace a3 := (hb.cell (p := ⟨g, off + k * 5 + 3, none⟩) hg).trans a3
        replace a4 := (hb.cell (p := ⟨g, off + k * 5 + 4, none⟩) hg).trans a4
        go_wp2_with fail
        refine (szPlain_any nm sz _ rs fx ep l _ rn hlq.1 (by omega) rm).mono ?_
        rintro e w1 ⟨q, rfl, hq, b1⟩
        replace hb := bw_call hb b1
        clear a0 a1 a2 a3 a4 b1 rm rn
        rcases hq with rfl | ⟨hq0, hq1, hq2, hq3⟩
        · go_wp2_with fail
          go_ret
          exact ⟨-1, rfl, .inl rfl, hb⟩
        · have HN : Hid (∀ j (hj : j < bs.length), j < k + 1 → bs[j].nm.size ≤ 1048576 ∧ bs[j].rs.length ≤ 1048576) := fun j hj hjk => by
            rcases Nat.lt_or_ge j k with y | y
            · exact HA.out j hj y
            · obtain rfl : j = k := by omega
              rw [HX.out]
              exact ⟨hq2, hq3⟩
          clear HA HX hq2 hq3
          go_wp2_with fail
          go_roundw
          case rel => exact ⟨k + 1, q, by omega, by go_num, rfl, by omega, HN.out, hb⟩
          case measure => simp [intOf]; omega
      · have HB : Hid (∀ b ∈ bs, b.nm.size ≤ 1048576 ∧ b.rs.length ≤ 1048576) := fun b hbm => by
          obtain ⟨j, hj, rfl⟩ := List.getElem_of_mem hbm
          exact HA.out j hj (by omega)
        clear HA HC RM RN
        go_wp2_with fail
        go_ret
        exact ⟨l, rfl, .inr ⟨hlq.1, hlq.2, by omega, HB.out⟩, hb⟩

theorem Try.infoPlain : (Try.prog.info? 46).map (fun i => (i.zero, i.size, i.bytes)) = some (some (.agg #[.string ByteArray.empty, .int .i64 0, .slice none 0 0, .bool false, .int .i64 0]), 5, 64) := by kernel_rfl

def zeroPk : Pk := ⟨ByteArray.empty, 0, .slice none 0 0, [], false, 0⟩

/-- make([]impl.Book, n): a row of zero books, at the end of memory. -/
theorem made_plains (n : Nat) (hn : n ≤ 1048576) : ∃ M : Array Value, (∀ W : World, (Instr.makeSlice 35 (.int .i64 (n : Int)) (.int .i64 (n : Int))).run Try.prog W = .ok (.slice (some ⟨W.heap.size, 0, none⟩) n n) (W.alloc (.cells M 46))) ∧
    ∀ (W : World) (base : Nat), base ≤ W.heap.size → (W.alloc (.cells M 46)).ownsRow base 46 5 (.slice (some ⟨W.heap.size, 0, none⟩) n n) (List.replicate n zeroPk).length ((List.replicate n zeroPk).flatMap pkC) := by
  obtain ⟨i0, hi, hz0, hz1, hz2⟩ := info_parts Try.infoPlain
  have e := toList_made (cs := pkC) pkC_len (by omega) zeroPk (Value.agg #[.string ByteArray.empty, .int .i64 0, .slice none 0 0, .bool false, .int .i64 0]).cells rfl n
  refine ⟨madeCells (Value.agg #[.string ByteArray.empty, .int .i64 0, .slice none 0 0, .bool false, .int .i64 0]).cells (n * 5), fun W => ?_, fun W base hb => ?_⟩
  · have h := run_make (P := Try.prog) W 35 46 i0 (.agg #[.string ByteArray.empty, .int .i64 0, .slice none 0 0, .bool false, .int .i64 0]) Try.underlying35 hi hz0 .i64 .i64 (n : Int) (n : Int) (by omega) (by omega) (by rw [hz2]; omega) (by omega)
    rw [hz1, Int.toNat_natCast] at h
    simpa using h
  · have h := World.ownsRow_lit (base := base) (size := 5) (e := 46) W (madeCells (Value.agg #[.string ByteArray.empty, .int .i64 0, .slice none 0 0, .bool false, .int .i64 0]).cells (n * 5)) n hb (by unfold maxLen; omega) (by rw [size_madeCells])
    rw [e] at h
    rwa [List.length_replicate]

/-- A whole book is written. -/
theorem own_plain {w : World} {base g n cap : Nat} {xs : List Pk} (h : w.ownsRow base 46 5 (.slice (some ⟨g, 0, none⟩) n cap) xs.length (xs.flatMap pkC)) (i : Nat) (hi : i < xs.length) (y : Pk) :
    (((((w.setCell ⟨g, i * 5, none⟩ (.string y.nm)).setCell ⟨g, i * 5 + 1, none⟩ (.int .i64 y.sz)).setCell ⟨g, i * 5 + 2, none⟩ y.m).setCell ⟨g, i * 5 + 3, none⟩ (.bool y.fx)).setCell ⟨g, i * 5 + 4, none⟩ (.int .i64 y.ep)).ownsRow base 46 5 (.slice (some ⟨g, 0, none⟩) n cap) (xs.set i y).length ((xs.set i y).flatMap pkC) := by
  obtain ⟨x, hx⟩ : ∃ x, xs[i] = x := ⟨_, rfl⟩
  have hxi : xs[i]? = some x := by rw [List.getElem?_eq_getElem hi, hx]
  have h1 := own_put pkC_len h i 0 x ⟨y.nm, x.sz, x.m, x.rs, x.fx, x.ep⟩ (.string y.nm) hxi (by omega) rfl
  have h2 := own_put pkC_len h1 i 1 ⟨y.nm, x.sz, x.m, x.rs, x.fx, x.ep⟩ ⟨y.nm, y.sz, x.m, x.rs, x.fx, x.ep⟩ (.int .i64 y.sz) (by simp [hi]) (by omega) rfl
  have h3 := own_put pkC_len h2 i 2 ⟨y.nm, y.sz, x.m, x.rs, x.fx, x.ep⟩ ⟨y.nm, y.sz, y.m, x.rs, x.fx, x.ep⟩ y.m (by simp [hi]) (by omega) rfl
  have h4 := own_put pkC_len h3 i 3 ⟨y.nm, y.sz, y.m, x.rs, x.fx, x.ep⟩ ⟨y.nm, y.sz, y.m, x.rs, y.fx, x.ep⟩ (.bool y.fx) (by simp [hi]) (by omega) rfl
  have h5 := own_put pkC_len h4 i 4 ⟨y.nm, y.sz, y.m, x.rs, y.fx, x.ep⟩ y (.int .i64 y.ep) (by simp [hi]) (by omega) rfl
  rw [List.set_set, List.set_set, List.set_set, List.set_set] at h5
  exact h5

theorem own_fiveK {w : World} {base g n cap : Nat} {xs : List Pk} (h : w.ownsRow base 46 5 (.slice (some ⟨g, 0, none⟩) n cap) xs.length (xs.flatMap pkC)) (i : Nat) (hi : i < xs.length) :
    (w.cell? ⟨g, i * 5, none⟩ = some (.string xs[i].nm) ∧ w.cell? ⟨g, i * 5 + 1, none⟩ = some (.int .i64 xs[i].sz) ∧ w.cell? ⟨g, i * 5 + 2, none⟩ = some xs[i].m ∧ w.cell? ⟨g, i * 5 + 3, none⟩ = some (.bool xs[i].fx) ∧ w.cell? ⟨g, i * 5 + 4, none⟩ = some (.int .i64 xs[i].ep)) ∧ w.frozen? ⟨g, i * 5, none⟩ = false ∧ w.frozen? ⟨g, i * 5 + 1, none⟩ = false ∧ w.frozen? ⟨g, i * 5 + 2, none⟩ = false ∧ w.frozen? ⟨g, i * 5 + 3, none⟩ = false ∧ w.frozen? ⟨g, i * 5 + 4, none⟩ = false := by
  obtain ⟨a0, b0⟩ := own_cell pkC_len h i 0 _ (List.getElem?_eq_getElem hi) (by omega)
  obtain ⟨a1, b1⟩ := own_cell pkC_len h i 1 _ (List.getElem?_eq_getElem hi) (by omega)
  obtain ⟨a2, b2⟩ := own_cell pkC_len h i 2 _ (List.getElem?_eq_getElem hi) (by omega)
  obtain ⟨a3, b3⟩ := own_cell pkC_len h i 3 _ (List.getElem?_eq_getElem hi) (by omega)
  obtain ⟨a4, b4⟩ := own_cell pkC_len h i 4 _ (List.getElem?_eq_getElem hi) (by omega)
  exact ⟨⟨a0, a1, a2, a3, a4⟩, b0, b1, b2, b3, b4⟩

/-- A row of books of one's own: the row, and each map. -/
structure OwnK (base : Nat) (w : World) (v : Value) (bs : List Pk) : Prop where
  row : w.ownsRow base 46 5 v bs.length (bs.flatMap pkC)
  maps : ∀ b ∈ bs, w.ownsRow base 2 1 b.m b.rs.length (b.rs.flatMap intC)

theorem OwnK.reads {base : Nat} {w : World} {v : Value} {bs : List Pk} (h : OwnK base w v bs) : ReadsK w.heap.size w v bs := ⟨ReadsR.of_own pkC_len h.row, fun b hb => ReadsR.of_own intC_len (h.maps b hb)⟩

theorem OwnK.below {base : Nat} {w w' : World} {v : Value} {bs : List Pk} (h : OwnK base w v bs) (k : Below w.heap.size w w') : OwnK base w' v bs := ⟨owns_below h.row k, fun b hb => owns_below (h.maps b hb) k⟩

theorem OwnK.mono {base base' : Nat} {w : World} {v : Value} {bs : List Pk} (h : OwnK base w v bs) (k : base' ≤ base) : OwnK base' w v bs := ⟨owns_mono h.row k, fun b hb => owns_mono (h.maps b hb) k⟩

/-- No two maps lie in one block. -/
def ApartK (ms : List Pk) : Prop := ms.Pairwise (fun a b => ∀ g, a.m.ownBlock = some g → b.m.ownBlock ≠ some g)

theorem ApartK.snoc {ms : List Pk} (h : ApartK ms) (y : Pk) (hy : ∀ b ∈ ms, ∀ g, b.m.ownBlock = some g → y.m.ownBlock ≠ some g) : ApartK (ms ++ [y]) :=
  List.pairwise_append.2 ⟨h, List.pairwise_singleton _ _, fun a ha b hb => by simp only [List.mem_singleton] at hb; subst hb; exact hy a ha⟩

set_option maxHeartbeats 3200000 in
theorem toPlainsA_any (v : Value) (bs : List Pk) (w : World) (hn : bs.length ≤ 1048576) (hr : ∀ b ∈ bs, b.rs.length ≤ 1048576) (r : ReadsK w.heap.size w v bs) :
    Calls Try.prog 16 #[v] w fun e w' => ∃ ms : List Pk, e = .returned (.slice (some ⟨w.heap.size, 0, none⟩) bs.length bs.length) ∧ ms.map bareK = bs.map bareK ∧ OwnK w.heap.size w' (.slice (some ⟨w.heap.size, 0, none⟩) bs.length bs.length) ms ∧ ApartK ms ∧ Below w.heap.size w w' := by
  have RM : Hid _ := r.maps
  have RL : Hid _ := hr
  obtain ⟨o, cap, rfl, hm, hc, -⟩ := r.row
  have HC : Hid _ := five_cellsK hc
  obtain ⟨M, hmk, hown⟩ := made_plains bs.length hn
  have own0 := hown w w.heap.size (Nat.le_refl _)
  have bd0 : Below w.heap.size w (w.alloc (.cells M 46)) := bw_alloc (Below.refl _ _)
  clear hown hc hm r hr
  go_enter Try.func16, Try.ntmps16
  go_wp2_with fail
  generalize w.alloc (.cells M 46) = W0 at own0 bd0 ⊢
  generalize hzs : List.replicate bs.length zeroPk = zs at own0
  have hzl : zs.length = bs.length := by rw [← hzs]; simp
  clear hmk hzs
  go_loopw [4] (fun i wr => ∃ (j : Nat) (ms : List Pk), j ≤ bs.length ∧ i = .int .i64 j ∧ ms.map bareK = (bs.take j).map bareK ∧ wr.ownsRow w.heap.size 46 5 (.slice (some ⟨w.heap.size, 0, none⟩) bs.length bs.length) (ms ++ zs.drop j).length ((ms ++ zs.drop j).flatMap pkC) ∧ (∀ b ∈ ms, wr.ownsRow (w.heap.size + 1) 2 1 b.m b.rs.length (b.rs.flatMap intC)) ∧ ApartK ms ∧ Below w.heap.size w wr ∧ w.heap.size < wr.heap.size) (fun i _ => bs.length - (intOf i).toNat)
  case atStart => exact ⟨0, [], Nat.zero_le _, rfl, rfl, by simpa using own0, (fun b hb => by simp at hb), List.Pairwise.nil, bd0, (own0.lt _ rfl).2⟩
  case round =>
    obtain ⟨j, ms, hj, rfl, hpl, own, oms, apa, hb, hsz⟩ := hrel
    have hml : ms.length = j := by have := bare_len hpl; rw [List.length_take] at this; omega
    by_cases hlt : j < bs.length
    · obtain ⟨g, off, rfl, hg, a0, a1, a2, a3, a4⟩ := HC.out j hlt
      have rm := ((RM.out bs[j] (List.getElem_mem hlt)).below hb).mono hb.size
      have rl := RL.out bs[j] (List.getElem_mem hlt)
      have hpt : (bs.take (j + 1)).map bareK = (bs.take j).map bareK ++ [bareK bs[j]] := by rw [List.take_succ_eq_append_getElem hlt, List.map_append]; rfl
      have hdr : zs.drop j = zs[j]'(by omega) :: zs.drop (j + 1) := List.drop_eq_getElem_cons (by omega)
      generalize zs[j]'(by omega) = z at hdr
      obtain ⟨x, hx⟩ : ∃ x, bs[j] = x := ⟨_, rfl⟩
      rw [hx] at a0 a1 a2 a3 a4 rm rl hpt
      clear hx HC RM RL
      obtain ⟨nm, sz, m, rs, fx, ep⟩ := x
      simp only at a0 a1 a2 a3 a4 rm rl
      obtain ⟨o', cap', rfl⟩ := rm.form
      replace a0 := (hb.cell (p := ⟨g, off + j * 5, none⟩) hg).trans a0
      replace a1 := (hb.cell (p := ⟨g, off + j * 5 + 1, none⟩) hg).trans a1
      replace a2 := (hb.cell (p := ⟨g, off + j * 5 + 2, none⟩) hg).trans a2
      replace a3 := (hb.cell (p := ⟨g, off + j * 5 + 3, none⟩) hg).trans a3
      replace a4 := (hb.cell (p := ⟨g, off + j * 5 + 4, none⟩) hg).trans a4
      have HP : Hid _ := And.intro hpl (And.intro hpt hdr)
      have HO : Hid _ := And.intro own oms
      have HAP : Hid _ := apa
      clear hpl hpt hdr own oms apa
      go_wp2_with fail
      refine (toPlain_any nm sz _ rs fx ep _ rl rm).mono ?_
      rintro e w5 ⟨g5, rfl, og, b5⟩
      have own5 := owns_below HO.out.1 b5
      have hjl : j < (ms ++ zs.drop j).length := by simp; omega
      obtain ⟨⟨t0, t1, t2, t3, t4⟩, u0, u1, u2, u3, u4⟩ := own_fiveK own5 j hjl
      have HST := own_plain own5 j hjl ⟨nm, sz, .slice (some ⟨g5, 0, none⟩) rs.length rs.length, rs, fx, ep⟩
      have hset : (ms ++ zs.drop j).set j ⟨nm, sz, .slice (some ⟨g5, 0, none⟩) rs.length rs.length, rs, fx, ep⟩ = (ms ++ [⟨nm, sz, .slice (some ⟨g5, 0, none⟩) rs.length rs.length, rs, fx, ep⟩]) ++ zs.drop (j + 1) := by
        rw [List.set_append_right _ _ (by omega), hml, Nat.sub_self, HP.out.2.2, List.set_cons_zero, List.append_assoc]
        rfl
      rw [hset] at HST
      simp only at HST
      have hs5 : w.heap.size < w5.heap.size := Nat.lt_of_lt_of_le hsz b5.size
      have uu : Upto w.heap.size w5 (((((w5.setCell ⟨w.heap.size, j * 5, none⟩ (.string nm)).setCell ⟨w.heap.size, j * 5 + 1, none⟩ (.int .i64 sz)).setCell ⟨w.heap.size, j * 5 + 2, none⟩ (.slice (some ⟨g5, 0, none⟩) rs.length rs.length)).setCell ⟨w.heap.size, j * 5 + 3, none⟩ (.bool fx)).setCell ⟨w.heap.size, j * 5 + 4, none⟩ (.int .i64 ep)) := (((((Upto.refl _ _).setCell ⟨w.heap.size, j * 5, none⟩ (.inl rfl) _).setCell ⟨w.heap.size, j * 5 + 1, none⟩ (.inl rfl) _).setCell ⟨w.heap.size, j * 5 + 2, none⟩ (.inl rfl) _).setCell ⟨w.heap.size, j * 5 + 3, none⟩ (.inl rfl) _).setCell ⟨w.heap.size, j * 5 + 4, none⟩ (.inl rfl) _
      have hbf := (bw_call hb b5).trans (uu.toBelow (Nat.le_of_lt hs5) (Nat.le_refl _))
      have hms : ∀ b ∈ ms ++ [⟨nm, sz, .slice (some ⟨g5, 0, none⟩) rs.length rs.length, rs, fx, ep⟩], (((((w5.setCell ⟨w.heap.size, j * 5, none⟩ (.string nm)).setCell ⟨w.heap.size, j * 5 + 1, none⟩ (.int .i64 sz)).setCell ⟨w.heap.size, j * 5 + 2, none⟩ (.slice (some ⟨g5, 0, none⟩) rs.length rs.length)).setCell ⟨w.heap.size, j * 5 + 3, none⟩ (.bool fx)).setCell ⟨w.heap.size, j * 5 + 4, none⟩ (.int .i64 ep)).ownsRow (w.heap.size + 1) 2 1 b.m b.rs.length (b.rs.flatMap intC) := fun b hbm => by
        rcases List.mem_append.1 hbm with y | y
        · exact ownsRow_upto (owns_below (HO.out.2 b y) b5) uu (by omega)
        · simp only [List.mem_singleton] at y
          subst y
          exact ownsRow_upto (owns_mono og (by omega)) uu (by omega)
      have hpn : (ms ++ [(⟨nm, sz, .slice (some ⟨g5, 0, none⟩) rs.length rs.length, rs, fx, ep⟩ : Pk)]).map bareK = (bs.take (j + 1)).map bareK := by rw [HP.out.2.1, List.map_append, HP.out.1]; rfl
      have hap : ApartK (ms ++ [⟨nm, sz, .slice (some ⟨g5, 0, none⟩) rs.length rs.length, rs, fx, ep⟩]) := ApartK.snoc HAP.out _ (fun b hbm g hgb hgy => by
        have h1 := ((HO.out.2 b hbm).lt g hgb).2
        have h2 := (og.lt g hgy).1
        omega)
      have HF : Hid _ := And.intro hpn (And.intro HST (And.intro hms (And.intro hap (And.intro hbf (Nat.lt_of_lt_of_le hs5 uu.size)))))
      generalize (ms ++ zs.drop j)[j] = y at t0 t1 t2 t3 t4
      obtain ⟨yn, ys, ym, yr, yf, ye⟩ := y
      simp only at t0 t1 t2 t3 t4
      clear hpn HST hms hap HAP hbf uu own5 og b5 HO HP hset hb hs5 a0 a1 a2 a3 a4 rm rl
      go_wp2_with fail
      go_roundw
      case rel => exact ⟨j + 1, _, by omega, by go_num, HF.out⟩
      case measure => simp [intOf]; omega
    · have hjj : j = bs.length := by omega
      have HAP : Hid _ := apa
      have HF : Hid (ms.map bareK = bs.map bareK ∧ OwnK w.heap.size wr (.slice (some ⟨w.heap.size, 0, none⟩) bs.length bs.length) ms) := by
        rw [hjj, List.take_length] at hpl
        rw [hjj, List.drop_of_length_le (by omega), List.append_nil] at own
        exact ⟨hpl, own, fun b hbm => owns_mono (oms b hbm) (by omega)⟩
      clear hpl own oms
      go_wp2_with fail
      go_ret
      exact ⟨ms, rfl, HF.out.1, HF.out.2, HAP.out, hb⟩

theorem toPlains_any (v : Value) (bs : List Pk) (w : World) (hn : bs.length ≤ 1048576) (hr : ∀ b ∈ bs, b.rs.length ≤ 1048576) (r : ReadsK w.heap.size w v bs) :
    Calls Try.prog 16 #[v] w fun e w' => ∃ ms : List Pk, e = .returned (.slice (some ⟨w.heap.size, 0, none⟩) bs.length bs.length) ∧ ms.map bareK = bs.map bareK ∧ OwnK w.heap.size w' (.slice (some ⟨w.heap.size, 0, none⟩) bs.length bs.length) ms ∧ Below w.heap.size w w' :=
  (toPlainsA_any v bs w hn hr r).mono fun _ _ ⟨ms, h1, h2, h3, _, h5⟩ => ⟨ms, h1, h2, h3, h5⟩
end Go.Proofs.Ytkjdfgjmkomcgaa

namespace Go.Proofs.Ytkjdfgjmkomcgaa
open Go.RowKit

set_option linter.unusedVariables false

set_option maxRecDepth 100000


set_option maxHeartbeats 3200000 in
theorem eqPlains_same (v v' : Value) (bs ms : List Pk) (w : World) (hp : ms.map bareK = bs.map bareK) (r : ReadsK w.heap.size w v bs) (r' : ReadsK w.heap.size w v' ms) :
    Calls Try.prog 18 #[v, v'] w fun e w' => e = .returned (.bool true) ∧ Below w.heap.size w w' := by
  have RM : Hid _ := r.maps
  have RM' : Hid _ := r'.maps
  have hl := bare_len hp
  have HP : Hid _ := hp
  obtain ⟨o1, cap1, rfl, m1, c1, -⟩ := r.row
  obtain ⟨o2, cap2, rfl, m2, c2, -⟩ := r'.row
  have C1 : Hid _ := five_cellsK c1
  have C2 : Hid _ := five_cellsK c2
  have HL : Hid (ms.length = bs.length) := hl
  rw [hl]
  unfold maxLen at m1
  clear c1 c2 m2 r r' hp hl
  go_enter Try.func18, Try.ntmps18
  go_wp2
  go_loopw [5] (fun i wr => ∃ k : Nat, k ≤ bs.length ∧ i = .int .i64 k ∧ Below w.heap.size w wr) (fun i _ => bs.length - (intOf i).toNat)
  case atStart => exact ⟨0, Nat.zero_le _, rfl, Below.refl _ _⟩
  case round =>
    obtain ⟨k, hk, rfl, hb⟩ := hrel
    by_cases hlt : k < bs.length
    · have hlt2 : k < ms.length := by have := HL.out; omega
      obtain ⟨g1, of1, rfl, q1, a0, a1, a2, a3, a4⟩ := C1.out k hlt
      obtain ⟨g2, of2, rfl, q2, b0, b1, b2, b3, b4⟩ := C2.out k hlt2
      have rm := (RM.out bs[k] (List.getElem_mem hlt)).below hb
      have rm' := (RM'.out ms[k] (List.getElem_mem hlt2)).below hb
      have hpk := bare_at HP.out k hlt2 hlt
      generalize bs[k] = x at a0 a1 a2 a3 a4 rm hpk
      generalize ms[k] = y at b0 b1 b2 b3 b4 rm' hpk
      obtain ⟨nm, sz, m, rs, fx, ep⟩ := x
      obtain ⟨nm', sz', m', rs', fx', ep'⟩ := y
      simp only [bareK, Prod.mk.injEq] at a0 a1 a2 a3 a4 b0 b1 b2 b3 b4 rm rm' hpk
      obtain ⟨rfl, rfl, rfl, rfl, rfl⟩ := hpk
      have hne := BelowOf.any wr
      have l1 : g1 < wr.heap.size := Nat.lt_of_lt_of_le q1 hb.size
      have l2 : g2 < wr.heap.size := Nat.lt_of_lt_of_le q2 hb.size
      have HEQ : ∀ q : BelowOf wr, Calls Try.prog 44 #[.agg #[.string nm', .int .i64 sz', m, .bool fx', .int .i64 ep'], .agg #[.string nm', .int .i64 sz', m', .bool fx', .int .i64 ep']] q.w' fun e w' => e = .returned (.bool true) ∧ Below q.w'.heap.size q.w' w' := fun q => eqPlain_same nm' sz' m m' rs' fx' ep' q.w' (rm.of hb.size q) (rm'.of hb.size q)
      have d0 := BelowOf.cell ((hb.cell (p := ⟨g1, of1 + k * 5, none⟩) q1).trans a0) l1
      have d1 := BelowOf.cell ((hb.cell (p := ⟨g1, of1 + k * 5 + 1, none⟩) q1).trans a1) l1
      have d2 := BelowOf.cell ((hb.cell (p := ⟨g1, of1 + k * 5 + 2, none⟩) q1).trans a2) l1
      have d3 := BelowOf.cell ((hb.cell (p := ⟨g1, of1 + k * 5 + 3, none⟩) q1).trans a3) l1
      have d4 := BelowOf.cell ((hb.cell (p := ⟨g1, of1 + k * 5 + 4, none⟩) q1).trans a4) l1
      have f0 := BelowOf.cell ((hb.cell (p := ⟨g2, of2 + k * 5, none⟩) q2).trans b0) l2
      have f1 := BelowOf.cell ((hb.cell (p := ⟨g2, of2 + k * 5 + 1, none⟩) q2).trans b1) l2
      have f2 := BelowOf.cell ((hb.cell (p := ⟨g2, of2 + k * 5 + 2, none⟩) q2).trans b2) l2
      have f3 := BelowOf.cell ((hb.cell (p := ⟨g2, of2 + k * 5 + 3, none⟩) q2).trans b3) l2
      have f4 := BelowOf.cell ((hb.cell (p := ⟨g2, of2 + k * 5 + 4, none⟩) q2).trans b4) l2
      have g1' : (0 : Int) ≤ (k : Int) := by omega
      have g2' : (k : Int) < (bs.length : Int) := by omega
      clear a0 a1 a2 a3 a4 b0 b1 b2 b3 b4 C1 C2 RM RM' rm rm' HP
      go_wp2_with fail
      refine wp_region_of (by kernel_rfl) (by kernel_rfl) ?_
      repeat (go_big_quiet_step ((first | (go_at_call 44; exact calls_of (HEQ _)) | rfl)))
      refine wpQuiet_nil ?_
      intro w5 hw5
      obtain ⟨⟨wx, cx⟩, hwx⟩ := hw5
      have b5 : Below wr.heap.size wr w5 := by rw [hwx]; exact cx
      have hb5 := hb.trans (b5.mono hb.size)
      clear hwx cx wx hne d0 d1 d2 d3 d4 f0 f1 f2 f3 f4 HEQ
      go_wp2_with fail
      go_roundw
      case rel => exact ⟨k + 1, by omega, by go_num, hb5⟩
      case measure => simp [intOf]; omega
    · go_wp2
      go_ret
      exact ⟨rfl, hb⟩
end Go.Proofs.Ytkjdfgjmkomcgaa

namespace Go.Proofs.Ytkjdfgjmkomcgaa

def cellOk (c p : Int) : Bool := (decide (0 ≤ c) && decide (c ≤ 400)) && (decide (0 ≤ p) && decide (p ≤ 999)) && !(decide (c = 0) && !decide (p = 0))

def poolOk (cs ps : List Int) : Bool := decide (1 ≤ cs.length ∧ cs.length ≤ 24 ∧ ps.length = cs.length ∧ ∀ j, j < cs.length → cellOk (cs.getD j 0) (ps.getD j 0) = true)

/-- The count at a place; 0 where there is none. -/
def countAt (cs : List Int) (at_ : Int) : Int := if 0 ≤ at_ ∧ at_ < cs.length then cs.getD at_.toNat 0 else 0

def shared (cs ps : List Int) (at_ : Int) : (List Int × List Int) × Bool :=
  if poolOk cs ps = true then (if 1 ≤ countAt cs at_ ∧ countAt cs at_ < 400 then ((cs.set at_.toNat (countAt cs at_ + 1), ps), true) else ((cs, ps), false)) else (([], []), false)

def dropped (cs ps : List Int) (at_ : Int) : (List Int × List Int) × Bool :=
  if poolOk cs ps = true then (if 1 ≤ countAt cs at_ then ((cs.set at_.toNat (countAt cs at_ - 1), if countAt cs at_ = 1 then ps.set at_.toNat 0 else ps), true) else ((cs, ps), false)) else (([], []), false)

theorem getD_set (cs : List Int) (k j : Nat) (x : Int) (h : k < cs.length) : (cs.set k x).getD j 0 = if k = j then x else cs.getD j 0 := by
  rw [List.getD_eq_getElem?_getD, List.getElem?_set, List.getD_eq_getElem?_getD]
  by_cases e : k = j
  · subst e; simp [h]
  · simp [e]
end Go.Proofs.Ytkjdfgjmkomcgaa

namespace Go.Proofs.Ytkjdfgjmkomcgaa
open Go.RowKit

set_option linter.unusedVariables false

set_option maxRecDepth 100000


/-! ### Names in their order -/
def ltB (a b : ByteArray) : Bool := Op.bytesLess a.toList b.toList

/-! ### Books, counted -/
structure Pb where
  nm : ByteArray
  sz : Int
  rs : List (Int × Int × Int)
  fx : Bool
  ep : Int

def Pb.ok (b : Pb) : Bool := bookOk b.nm b.sz b.rs b.ep

/-- How many places of a book have that page. -/
def Pb.cnt (b : Pb) (p : Int) : Int := ((pages b.rs).count p : Int)

def cntAll (bs : List Pb) (p : Int) : Int := bs.foldr (fun b n => b.cnt p + n) 0

theorem cnt_nonneg (b : Pb) (p : Int) : 0 ≤ b.cnt p := by unfold Pb.cnt; omega

theorem cntAll_cons (b : Pb) (bs : List Pb) (p : Int) : cntAll (b :: bs) p = b.cnt p + cntAll bs p := rfl

theorem cntAll_append (xs ys : List Pb) (p : Int) : cntAll (xs ++ ys) p = cntAll xs p + cntAll ys p := by
  induction xs with
  | nil => simp [cntAll]
  | cons b t ih => rw [List.cons_append, cntAll_cons, cntAll_cons, ih]; omega

theorem cntAll_nonneg (bs : List Pb) (p : Int) : 0 ≤ cntAll bs p := by
  induction bs with
  | nil => simp [cntAll]
  | cons b t ih => rw [cntAll_cons]; have := cnt_nonneg b p; omega

theorem cntAll_split (bs : List Pb) (i : Nat) (h : i < bs.length) (p : Int) : cntAll bs p = cntAll (bs.take i) p + bs[i].cnt p + cntAll (bs.drop (i + 1)) p := by
  have e : bs = bs.take i ++ (bs[i] :: bs.drop (i + 1)) := by rw [← List.drop_eq_getElem_cons h, List.take_append_drop]
  have q := congrArg (fun l => cntAll l p) e
  simp only [cntAll_append, cntAll_cons] at q
  omega

theorem cntAll_at (bs : List Pb) (i : Nat) (h : i < bs.length) (p : Int) : bs[i].cnt p ≤ cntAll bs p := by
  have := cntAll_split bs i h p
  have := cntAll_nonneg (bs.take i) p
  have := cntAll_nonneg (bs.drop (i + 1)) p
  omega

theorem cntAll_set (bs : List Pb) (i : Nat) (h : i < bs.length) (b : Pb) (p : Int) : cntAll (bs.set i b) p = cntAll bs p - bs[i].cnt p + b.cnt p := by
  have h' : i < (bs.set i b).length := by simpa using h
  have e1 := cntAll_split bs i h p
  have e2 := cntAll_split (bs.set i b) i h' p
  rw [List.take_set_of_le (Nat.le_refl _), List.getElem_set_self, List.drop_set_of_lt (show i < i + 1 by omega)] at e2
  omega

/-! ### A pool, its pages dropped and shared -/
/-- Rows of one length; values in range; what nobody has is 0. -/
structure Cells (n : Nat) (cs ps : List Int) : Prop where
  c : cs.length = n
  p : ps.length = n
  val : ∀ k, k < n → 0 ≤ ps.getD k 0 ∧ ps.getD k 0 ≤ 999 ∧ (cs.getD k 0 = 0 → ps.getD k 0 = 0)
end Go.Proofs.Ytkjdfgjmkomcgaa

namespace Go.Proofs.Ytkjdfgjmkomcgaa
open Go.RowKit

set_option linter.unusedVariables false

set_option maxRecDepth 100000

/-! ### A shelf -/
structure Sf where
  cs : List Int
  ps : List Int
  bs : List Pb

structure ShInv (s : Sf) : Prop where
  n1 : 1 ≤ s.cs.length ∧ s.cs.length ≤ 24
  cells : Cells s.cs.length s.cs s.ps
  few : s.bs.length ≤ 6
  oks : ∀ b ∈ s.bs, b.ok = true
  srt : (s.bs.map Pb.nm).Pairwise (fun a b => ltB a b = true)
  cnt : ∀ k : Nat, k < s.cs.length → s.cs.getD k 0 = cntAll s.bs (k : Int)
  out : ∀ k : Nat, s.cs.length ≤ k → k < 24 → cntAll s.bs (k : Int) = 0
end Go.Proofs.Ytkjdfgjmkomcgaa

namespace Go.Proofs.Ytkjdfgjmkomcgaa
open Go.RowKit

set_option linter.unusedVariables false

set_option maxRecDepth 100000

theorem cnt_out {s : Sf} (h : ShInv s) (i : Nat) (hi : i < s.bs.length) (k : Nat) (h1 : s.cs.length ≤ k) (h2 : k < 24) : s.bs[i].cnt (k : Int) = 0 := by
  have := cntAll_at s.bs i hi (k : Int)
  have := cnt_nonneg s.bs[i] (k : Int)
  have := h.out k h1 h2
  omega

/-- A book is put in its place. -/
theorem ShInv.put {s : Sf} (h : ShInv s) (i : Nat) (hi : i < s.bs.length) (b : Pb) (hok : b.ok = true) (hn : b.nm = s.bs[i].nm) (cs ps : List Int) (hc : Cells s.cs.length cs ps)
    (hcnt : ∀ k, k < s.cs.length → cs.getD k 0 = s.cs.getD k 0 - s.bs[i].cnt (k : Int) + b.cnt (k : Int)) (hout : ∀ k, s.cs.length ≤ k → k < 24 → b.cnt (k : Int) = 0) : ShInv ⟨cs, ps, s.bs.set i b⟩ := by
  have hl := hc.c
  refine ⟨by simp only; rw [hl]; exact h.n1, by simp only; rw [hl]; exact hc, by simpa using h.few, fun x hx => ?_, ?_, fun k hk => ?_, fun k hk hk2 => ?_⟩
  · rcases List.mem_or_eq_of_mem_set hx with hx | rfl
    · exact h.oks x hx
    · exact hok
  · simp only
    rw [List.map_set, hn]
    have : (s.bs.map Pb.nm).set i s.bs[i].nm = s.bs.map Pb.nm := by
      have e : s.bs[i].nm = (s.bs.map Pb.nm)[i]'(by simpa using hi) := by simp
      rw [e, List.set_getElem_self]
    rw [this]
    exact h.srt
  · simp only at hk ⊢
    rw [hl] at hk
    rw [hcnt k hk, cntAll_set s.bs i hi, h.cnt k hk]
  · simp only at hk ⊢
    rw [hl] at hk
    rw [cntAll_set s.bs i hi, h.out k hk hk2, cnt_out h i hi k hk hk2, hout k hk hk2]
    rfl

theorem Cells.same {n : Nat} {cs ps : List Int} (h : Cells n cs ps) (p : Nat) (hp : p < n) (v : Int) (hv : 0 ≤ v ∧ v ≤ 999) (hc : cs.getD p 0 ≠ 0) : Cells n cs (ps.set p v) :=
  ⟨h.c, by simpa using h.p, fun k hk => by
    rw [getD_set ps p k v (by rw [h.p]; exact hp)]
    have := h.val k hk
    by_cases e : p = k
    · subst e; rw [if_pos rfl]; exact ⟨hv.1, hv.2, fun q => absurd q hc⟩
    · rw [if_neg e]; exact this⟩
end Go.Proofs.Ytkjdfgjmkomcgaa

namespace Go.Proofs.Ytkjdfgjmkomcgaa
open Go.RowKit

set_option linter.unusedVariables false

set_option maxRecDepth 100000


/-- A plain, all of it but where its values lie. -/
structure Pv where
  nm : ByteArray
  sz : Int
  vs : List Int
  fx : Bool
  ep : Int

def Pk.pv (b : Pk) : Pv := ⟨b.nm, b.sz, b.rs, b.fx, b.ep⟩

def valuesB (vs : List Int) : Bool := vs.all (fun v => decide (0 ≤ v) && decide (v ≤ 999))

def plainOk (nm : ByteArray) (sz : Int) (vs : List Int) (ep : Int) : Bool :=
  valuesB vs && Nums.nameB nm.data.toList && (decide (1 ≤ sz) && decide (sz ≤ 16)) && (decide (0 ≤ ep) && decide (ep ≤ 1000)) && decide ((vs.length : Int) = sz)

def Pv.ok (p : Pv) : Bool := plainOk p.nm p.sz p.vs p.ep
end Go.Proofs.Ytkjdfgjmkomcgaa

namespace Go.Proofs.Ytkjdfgjmkomcgaa
set_option linter.unusedVariables false

set_option maxRecDepth 100000


theorem pv_of_bare {bs ms : List Pk} (h : ms.map bareK = bs.map bareK) : ms.map Pk.pv = bs.map Pk.pv := by
  have := congrArg (List.map (fun x : ByteArray × Int × List Int × Bool × Int => (⟨x.1, x.2.1, x.2.2.1, x.2.2.2.1, x.2.2.2.2⟩ : Pv))) h
  simp only [List.map_map] at this
  exact this

theorem bare_all (Q : ByteArray → List Int → Prop) {bs ms : List Pk} (h : ms.map bareK = bs.map bareK) (hq : ∀ b ∈ bs, Q b.nm b.rs) : ∀ b ∈ ms, Q b.nm b.rs := fun b hb => by
  obtain ⟨j, hj, rfl⟩ := List.getElem_of_mem hb
  have hl := bare_len h
  have e := bare_at h j hj (by omega)
  have hx := hq _ (List.getElem_mem (show j < bs.length by omega))
  simp only [bareK, Prod.mk.injEq] at e
  rw [e.1, e.2.2.1]
  exact hx
end Go.Proofs.Ytkjdfgjmkomcgaa

namespace Go.Proofs.Ytkjdfgjmkomcgaa
open Go.RowKit

set_option linter.unusedVariables false

set_option maxRecDepth 100000


set_option maxHeartbeats 800000 in
theorem l1Same_any (v1 v2 : Value) (xs ys : List Int) (w : World) (h1 : Reads w.heap.size w v1 (xs.map (Value.int .i64))) (h2 : Reads w.heap.size w v2 (ys.map (Value.int .i64))) :
    Calls Try.prog 57 #[v1, v2] w fun e w' => e = .returned (.bool (decide (xs = ys))) ∧ Below w.heap.size w w' := by
  obtain ⟨o1, cap1, rfl, m1, c1, -⟩ := h1
  obtain ⟨o2, cap2, rfl, m2, c2, -⟩ := h2
  simp only [List.length_map] at m1 m2 c1 c2 ⊢
  by_cases hlen : xs.length = ys.length
  · rw [← hlen]
    have C1 : Hid (∀ j u, (xs.map (Value.int .i64))[j]? = some u → ∃ g off, o1 = some ⟨g, off, none⟩ ∧ g < w.heap.size ∧ w.cell? ⟨g, off + j, none⟩ = some u) := c1
    have C2 : Hid (∀ j u, (ys.map (Value.int .i64))[j]? = some u → ∃ g off, o2 = some ⟨g, off, none⟩ ∧ g < w.heap.size ∧ w.cell? ⟨g, off + j, none⟩ = some u) := c2
    have HL : Hid (xs.length = ys.length) := hlen
    have hle : ys.length ≤ xs.length := by omega
    have hge : xs.length ≤ ys.length := by omega
    unfold maxLen at m1
    clear c1 c2 m2 hlen
    go_enter Try.func57, Try.ntmps57
    go_wp2
    go_loopw [5] (fun i wr => ∃ k : Nat, k ≤ xs.length ∧ i = .int .i64 k ∧ xs.take k = ys.take k ∧ Below w.heap.size w wr) (fun i _ => xs.length - (intOf i).toNat)
    case atStart => exact ⟨0, Nat.zero_le _, rfl, rfl, Below.refl _ _⟩
    case round =>
      obtain ⟨k, hk, rfl, htk, hb⟩ := hrel
      have HT : Hid (xs.take k = ys.take k) := htk
      clear htk
      by_cases hlt : k < xs.length
      · have hlt2 : k < ys.length := by omega
        obtain ⟨g1, of1, rfl, q1, cc1⟩ := C1.out k (.int .i64 xs[k]) (by simp [hlt])
        obtain ⟨g2, of2, rfl, q2, cc2⟩ := C2.out k (.int .i64 ys[k]) (by simp [hlt2])
        generalize hx : xs[k] = x at cc1
        generalize hy : ys[k] = y at cc2
        have HX : Hid (xs[k] = x) := hx
        have HY : Hid (ys[k] = y) := hy
        clear hx hy C1 C2
        have d1 := (hb.cell (p := ⟨g1, of1 + k, none⟩) q1).trans cc1
        have d2 := (hb.cell (p := ⟨g2, of2 + k, none⟩) q2).trans cc2
        clear cc1 cc2
        go_wp2
        go_quiet (fail)
        go_wp2
        · have hne : x ≠ y := int_ne (by assumption)
          rw [← HX.out, ← HY.out] at hne
          go_ret
          exact ⟨ret_bool (by simp [ne_at xs ys k hlt hlt2 hne]), ⟨hb.os, hb.tape, hb.output, hb.size, hb.block⟩⟩
        · have he : x = y := int_same (by assumption)
          rw [← HX.out, ← HY.out] at he
          go_roundw
          case rel => exact ⟨k + 1, by omega, by go_num, take_more xs ys k hlt hlt2 HT.out he, ⟨hb.os, hb.tape, hb.output, hb.size, hb.block⟩⟩
          case measure => simp [intOf]; omega
      · go_wp2
        go_ret
        exact ⟨ret_bool (by simp [all_taken xs ys k hlt HL.out HT.out]), hb⟩
  · have hn : ((xs.length : Int) != (ys.length : Int)) = true := by rw [bne_iff_ne]; omega
    have HX : Hid (decide (xs = ys) = false) := by rw [Hid, decide_eq_false_iff_not]; intro e; rw [e] at hlen; exact hlen rfl
    unfold maxLen at m1 m2
    clear hlen c1 c2
    go_enter Try.func57, Try.ntmps57
    go_wp2
    go_ret
    exact ⟨ret_bool HX.out.symm, Below.refl _ _⟩

theorem l1SameK_any (v1 v2 : Value) (xs ys : List Int) (w : World) (h1 : ReadsR 1 intC w.heap.size w v1 xs) (h2 : ReadsR 1 intC w.heap.size w v2 ys) :
    Calls Try.prog 57 #[v1, v2] w fun e w' => e = .returned (.bool (decide (xs = ys))) ∧ Below w.heap.size w w' := l1Same_any v1 v2 xs ys w (readsK_to h1) (readsK_to h2)
end Go.Proofs.Ytkjdfgjmkomcgaa

namespace Go.Proofs.Ytkjdfgjmkomcgaa
set_option linter.unusedVariables false

set_option maxRecDepth 100000


def sameOf (nm nm' : ByteArray) (sz sz' : Int) (fx fx' : Bool) (ep ep' : Int) (vs vs' : List Int) : Bool := (nm.toList == nm'.toList) && (sz == sz') && (fx == fx') && (ep == ep') && decide (vs = vs')

def Pv.same (p q : Pv) : Bool := sameOf p.nm q.nm p.sz q.sz p.fx q.fx p.ep q.ep p.vs q.vs

def samePlains (ps bs : List Pv) : Bool := decide (ps.length = bs.length) && (ps.zip bs).all (fun x => x.1.same x.2)

theorem same_len {ps bs : List Pv} (h : ps.length ≠ bs.length) : samePlains ps bs = false := by simp [samePlains, h]

theorem same_no {ps bs : List Pv} (i : Nat) (h1 : i < ps.length) (h2 : i < bs.length) (h : ps[i].same bs[i] = false) : samePlains ps bs = false := by
  have : (ps.zip bs).all (fun x => x.1.same x.2) = false := by
    rw [List.all_eq_false]
    exact ⟨(ps[i], bs[i]), by
      have hz : i < (ps.zip bs).length := by simp; omega
      have := List.getElem_mem hz
      rwa [List.getElem_zip] at this, by simp [h]⟩
  simp [samePlains, this]

theorem same_yes {ps bs : List Pv} (hl : ps.length = bs.length) (h : ∀ i (h1 : i < ps.length) (h2 : i < bs.length), ps[i].same bs[i] = true) : samePlains ps bs = true := by
  have : (ps.zip bs).all (fun x => x.1.same x.2) = true := by
    rw [List.all_eq_true]
    intro x hx
    obtain ⟨i, hi, rfl⟩ := List.getElem_of_mem hx
    rw [List.getElem_zip]
    simp only [List.length_zip] at hi
    exact h i (by omega) (by omega)
  simp [samePlains, this, hl]
end Go.Proofs.Ytkjdfgjmkomcgaa

namespace Go.Proofs.Ytkjdfgjmkomcgaa
open Go.RowKit

set_option linter.unusedVariables false


set_option maxRecDepth 100000 in
set_option maxHeartbeats 6400000 in
theorem specSamePlains_any (v v' : Value) (aks bks : List Pk) (w : World) (ra : ReadsK w.heap.size w v aks) (rb : ReadsK w.heap.size w v' bks) :
    Calls Try.prog 26 #[v, v'] w fun e w' => e = .returned (.bool (samePlains (aks.map Pk.pv) (bks.map Pk.pv))) ∧ Below w.heap.size w w' := by
  have RM : Hid _ := ra.maps
  have RM' : Hid _ := rb.maps
  obtain ⟨o1, cap1, rfl, m1, c1, -⟩ := ra.row
  obtain ⟨o2, cap2, rfl, m2, c2, -⟩ := rb.row
  have C1 : Hid _ := five_cellsK c1
  have C2 : Hid _ := five_cellsK c2
  unfold maxLen at m1 m2
  clear c1 c2 ra rb
  by_cases hlen : aks.length = bks.length
  · have HL : Hid (bks.length = aks.length) := hlen.symm
    rw [← hlen]
    clear hlen
    obtain ⟨ps, hps⟩ : ∃ ps, aks.map Pk.pv = ps := ⟨_, rfl⟩
    obtain ⟨bs, hbs⟩ : ∃ bs, bks.map Pk.pv = bs := ⟨_, rfl⟩
    have HA : Hid (ps.length = aks.length ∧ ∀ (i : Nat) (h1 : i < aks.length) (h2 : i < ps.length), ps[i] = aks[i].pv) := by subst hps; exact ⟨by simp, fun i h1 h2 => by simp⟩
    have HB : Hid (bs.length = bks.length ∧ ∀ (i : Nat) (h1 : i < bks.length) (h2 : i < bs.length), bs[i] = bks[i].pv) := by subst hbs; exact ⟨by simp, fun i h1 h2 => by simp⟩
    rw [hps, hbs]
    clear hps hbs
    go_enter Try.func26, Try.ntmps26
    go_wp2_with fail
    go_loopw [5] (fun i wr => ∃ q : Nat, q ≤ aks.length ∧ i = .int .i64 q ∧ (∀ j (h1 : j < ps.length) (h2 : j < bs.length), j < q → ps[j].same bs[j] = true) ∧ Below w.heap.size w wr) (fun i _ => aks.length - (intOf i).toNat)
    case atStart => exact ⟨0, Nat.zero_le _, rfl, fun j _ _ h => by omega, Below.refl _ _⟩
    case round =>
      obtain ⟨q, hq, rfl, hall, hb⟩ := hrel
      have HALL : Hid _ := hall
      clear hall
      by_cases hlt : q < aks.length
      · have hlt2 : q < bks.length := by have := HL.out; omega
        obtain ⟨g1, of1, rfl, q1, a0, a1, a2, a3, a4⟩ := C1.out q hlt
        obtain ⟨g2, of2, rfl, q2, b0, b1, b2, b3, b4⟩ := C2.out q hlt2
        have rm := ((RM.out aks[q] (List.getElem_mem hlt)).below hb).mono hb.size
        have rm' := ((RM'.out bks[q] (List.getElem_mem hlt2)).below hb).mono hb.size
        have hqa : q < ps.length := by have := HA.out.1; omega
        have hqb : q < bs.length := by have := HB.out.1; omega
        have hat := HA.out.2 q hlt hqa
        have hbt := HB.out.2 q hlt2 hqb
        obtain ⟨x, hx⟩ : ∃ x, aks[q] = x := ⟨_, rfl⟩
        obtain ⟨y, hy⟩ : ∃ y, bks[q] = y := ⟨_, rfl⟩
        rw [hx] at a0 a1 a2 a3 a4 rm hat
        rw [hy] at b0 b1 b2 b3 b4 rm' hbt
        clear hx hy
        obtain ⟨nm, sz, m, rs, fx, ep⟩ := x
        obtain ⟨nm', sz', m', rs', fx', ep'⟩ := y
        simp only at a0 a1 a2 a3 a4 rm b0 b1 b2 b3 b4 rm'
        obtain ⟨oa, ca, hma⟩ := rm.form
        subst hma
        obtain ⟨ob, cb, hmb⟩ := rm'.form
        subst hmb
        have HSM : Hid (ps[q].same bs[q] = sameOf nm nm' sz sz' fx fx' ep ep' rs rs') := by rw [Hid, hat, hbt]; rfl
        clear hat hbt
        replace a0 := (hb.cell (p := ⟨g1, of1 + q * 5, none⟩) q1).trans a0
        replace a1 := (hb.cell (p := ⟨g1, of1 + q * 5 + 1, none⟩) q1).trans a1
        replace a2 := (hb.cell (p := ⟨g1, of1 + q * 5 + 2, none⟩) q1).trans a2
        replace a3 := (hb.cell (p := ⟨g1, of1 + q * 5 + 3, none⟩) q1).trans a3
        replace a4 := (hb.cell (p := ⟨g1, of1 + q * 5 + 4, none⟩) q1).trans a4
        replace b0 := (hb.cell (p := ⟨g2, of2 + q * 5, none⟩) q2).trans b0
        replace b1 := (hb.cell (p := ⟨g2, of2 + q * 5 + 1, none⟩) q2).trans b1
        replace b2 := (hb.cell (p := ⟨g2, of2 + q * 5 + 2, none⟩) q2).trans b2
        replace b3 := (hb.cell (p := ⟨g2, of2 + q * 5 + 3, none⟩) q2).trans b3
        replace b4 := (hb.cell (p := ⟨g2, of2 + q * 5 + 4, none⟩) q2).trans b4
        obtain ⟨WA, hWA, -, dA, -⟩ := box1 wr #[.string nm, .int .i64 sz, .slice oa rs.length ca, .bool fx, .int .i64 ep] 46
        have l2 : g2 < wr.heap.size := Nat.lt_of_lt_of_le q2 hb.size
        replace b0 := (dA.cell (p := ⟨g2, of2 + q * 5, none⟩) l2).trans b0
        replace b1 := (dA.cell (p := ⟨g2, of2 + q * 5 + 1, none⟩) l2).trans b1
        replace b2 := (dA.cell (p := ⟨g2, of2 + q * 5 + 2, none⟩) l2).trans b2
        replace b3 := (dA.cell (p := ⟨g2, of2 + q * 5 + 3, none⟩) l2).trans b3
        replace b4 := (dA.cell (p := ⟨g2, of2 + q * 5 + 4, none⟩) l2).trans b4
        obtain ⟨W2, hW2, kA, kB, d2, z2⟩ := box2 wr #[.string nm, .int .i64 sz, .slice oa rs.length ca, .bool fx, .int .i64 ep] #[.string nm', .int .i64 sz', .slice ob rs'.length cb, .bool fx', .int .i64 ep'] 46 46
        have RA := (rm.below d2).mono d2.size
        have RB := (rm'.below d2).mono d2.size
        have hb2 := hb.trans (d2.mono hb.size)
        have u0 := at_cell kA 0
        have t0 := at_cell kB 0
        have u1 := at_cell kA 1
        have t1 := at_cell kB 1
        have u2 := at_cell kA 2
        have t2 := at_cell kB 2
        have u3 := at_cell kA 3
        have t3 := at_cell kB 3
        have u4 := at_cell kA 4
        have t4 := at_cell kB 4
        have i0 : (0 : Int) ≤ (q : Int) := by omega
        have i1 : (q : Int) < (aks.length : Int) := by omega
        have D2 : Hid _ := And.intro RA (And.intro RB hb2)
        clear rm rm' kA kB d2 z2 RA RB hb2 dA
        subst hWA hW2
        clear C1 C2 RM RM'
        cases h1 : (nm.toList == nm'.toList)
        · have n1 : (nm.toList != nm'.toList) = true := by simp [bne, h1]
          have HV : Hid (samePlains ps bs = false) := same_no q hqa hqb (by rw [HSM.out]; simp [sameOf, h1])
          go_wp2_with fail
          go_ret
          exact ⟨ret_bool HV.out.symm, D2.out.2.2⟩
        have n1 : (nm.toList != nm'.toList) = false := by simp [bne, h1]
        cases h2 : (sz == sz')
        · have n2 : (sz != sz') = true := by simp [bne, h2]
          have HV : Hid (samePlains ps bs = false) := same_no q hqa hqb (by rw [HSM.out]; simp [sameOf, h1, h2])
          go_wp2_with fail
          go_ret
          exact ⟨ret_bool HV.out.symm, D2.out.2.2⟩
        have n2 : (sz != sz') = false := by simp [bne, h2]
        cases h3 : (fx == fx')
        · have n3 : (fx != fx') = true := by simp [bne, h3]
          have HV : Hid (samePlains ps bs = false) := same_no q hqa hqb (by rw [HSM.out]; simp [sameOf, h1, h2, h3])
          go_wp2_with fail
          go_ret
          exact ⟨ret_bool HV.out.symm, D2.out.2.2⟩
        have n3 : (fx != fx') = false := by simp [bne, h3]
        cases h4 : (ep == ep')
        · have n4 : (ep != ep') = true := by simp [bne, h4]
          have HV : Hid (samePlains ps bs = false) := same_no q hqa hqb (by rw [HSM.out]; simp [sameOf, h1, h2, h3, h4])
          go_wp2_with fail
          go_ret
          exact ⟨ret_bool HV.out.symm, D2.out.2.2⟩
        have n4 : (ep != ep') = false := by simp [bne, h4]
        have HH : Hid (sameOf nm nm' sz sz' fx fx' ep ep' rs rs' = decide (rs = rs')) := by simp [Hid, sameOf, h1, h2, h3, h4]
        go_wp2_with fail
        refine (l1SameK_any _ _ rs rs' _ D2.out.1 D2.out.2.1).mono ?_
        rintro e w3 ⟨rfl, b3⟩
        have hb3 := D2.out.2.2.trans (b3.mono D2.out.2.2.size)
        cases h5 : decide (rs = rs')
        · have HV : Hid (samePlains ps bs = false) := same_no q hqa hqb (by rw [HSM.out, HH.out]; exact h5)
          clear a0 a1 a2 a3 a4 b0 b1 b2 b3 b4 u0 u1 u2 u3 u4 t0 t1 t2 t3 t4
          go_wp2_with fail
          go_ret
          exact ⟨ret_bool HV.out.symm, hb3⟩
        · have HV : Hid (ps[q].same bs[q] = true) := by rw [Hid, HSM.out, HH.out]; exact h5
          clear a0 a1 a2 a3 a4 b0 b1 b2 b3 b4 u0 u1 u2 u3 u4 t0 t1 t2 t3 t4
          go_wp2_with fail
          go_roundw
          case rel => exact ⟨q + 1, by omega, by go_num, (fun j h1 h2 hj => by
            rcases Nat.lt_or_ge j q with y | y
            · exact HALL.out j h1 h2 y
            · obtain rfl : j = q := by omega
              exact HV.out), hb3⟩
          case measure => simp [intOf]; omega
      · have HV : Hid (samePlains ps bs = true) := same_yes (by have := HA.out.1; have := HB.out.1; have := HL.out; omega) (fun i h1 h2 => HALL.out i h1 h2 (by have := HA.out.1; omega))
        have i1 : ¬ (q : Int) < (aks.length : Int) := by omega
        clear HALL C1 C2
        go_wp2_with fail
        go_ret
        exact ⟨ret_bool HV.out.symm, hb⟩
  · have hn : ((aks.length : Int) != (bks.length : Int)) = true := by rw [bne_iff_ne]; omega
    have HX : Hid (samePlains (aks.map Pk.pv) (bks.map Pk.pv) = false) := same_len (by simpa using hlen)
    clear hlen
    go_enter Try.func26, Try.ntmps26
    go_wp2_with fail
    go_ret
    exact ⟨ret_bool HX.out.symm, Below.refl _ _⟩
end Go.Proofs.Ytkjdfgjmkomcgaa

