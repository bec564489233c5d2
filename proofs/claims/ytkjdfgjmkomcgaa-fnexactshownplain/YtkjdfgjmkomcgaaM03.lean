/-
  Contracts and plain laws, one chapter behind the other.
-/
import Derived.Deep.RegionHeld3
import Derived.WalkKit
import Derived.Laws.MakeOwn
import Derived.Deep.RegionLaw
import Derived.Test.YtkjdfgjmkomcgaaM01
import Derived.Test.YtkjdfgjmkomcgaaM02
namespace Go.Proofs.Ytkjdfgjmkomcgaa
open Go.RowKit

set_option linter.unusedVariables false

set_option maxRecDepth 100000

theorem toBook_end {w w1 : World} {b1 b2 base : Nat} {a0 a1 a2 a3 a4 : Value} {t : TypeId} {v : Value} {n : Nat} {xs : List Value} (h1 : w.heap.size ≤ b1) (h2 : w.heap.size ≤ b2) (hne : b1 ≠ b2) (l1 : b1 < base) (l2 : b2 < base) (l3 : w.heap.size ≤ base) (k1 : w1.heap[b1]? = some (.cells #[a0, a1, a2, a3, a4] t (0, 0))) (own : w1.ownsRow base 106 3 v n xs) (d0 : Below w.heap.size w w1) (y2 y3 y4 x0 x1 x2 x3 x4 : Value) :
    ((((((((w1.setCell ⟨b2, 2, none⟩ y2).setCell ⟨b2, 3, none⟩ y3).setCell ⟨b2, 4, none⟩ y4).setCell ⟨b1, 0, none⟩ x0).setCell ⟨b1, 1, none⟩ x1).setCell ⟨b1, 2, none⟩ x2).setCell ⟨b1, 3, none⟩ x3).setCell ⟨b1, 4, none⟩ x4).heap[b1]? = some (.cells #[x0, x1, x2, x3, x4] t (0, 0)) ∧
    ((((((((w1.setCell ⟨b2, 2, none⟩ y2).setCell ⟨b2, 3, none⟩ y3).setCell ⟨b2, 4, none⟩ y4).setCell ⟨b1, 0, none⟩ x0).setCell ⟨b1, 1, none⟩ x1).setCell ⟨b1, 2, none⟩ x2).setCell ⟨b1, 3, none⟩ x3).setCell ⟨b1, 4, none⟩ x4).ownsRow w.heap.size 106 3 v n xs ∧
    Below w.heap.size w ((((((((w1.setCell ⟨b2, 2, none⟩ y2).setCell ⟨b2, 3, none⟩ y3).setCell ⟨b2, 4, none⟩ y4).setCell ⟨b1, 0, none⟩ x0).setCell ⟨b1, 1, none⟩ x1).setCell ⟨b1, 2, none⟩ x2).setCell ⟨b1, 3, none⟩ x3).setCell ⟨b1, 4, none⟩ x4) := by
  have u : Upto b2 w1 (((w1.setCell ⟨b2, 2, none⟩ y2).setCell ⟨b2, 3, none⟩ y3).setCell ⟨b2, 4, none⟩ y4) := (((Upto.refl _ _).setCell ⟨b2, 2, none⟩ (.inl rfl) _).setCell ⟨b2, 3, none⟩ (.inl rfl) _).setCell ⟨b2, 4, none⟩ (.inl rfl) _
  have e1 := (u.block _ (heap_lt k1) hne).trans k1
  have e2 := ownsRow_upto own u l2
  have e3 : Below w.heap.size w (((w1.setCell ⟨b2, 2, none⟩ y2).setCell ⟨b2, 3, none⟩ y3).setCell ⟨b2, 4, none⟩ y4) := bw_set (bw_set (bw_set d0 h2 _) h2 _) h2 _
  generalize ((w1.setCell ⟨b2, 2, none⟩ y2).setCell ⟨b2, 3, none⟩ y3).setCell ⟨b2, 4, none⟩ y4 = W at *
  have v : Upto b1 W (((((W.setCell ⟨b1, 0, none⟩ x0).setCell ⟨b1, 1, none⟩ x1).setCell ⟨b1, 2, none⟩ x2).setCell ⟨b1, 3, none⟩ x3).setCell ⟨b1, 4, none⟩ x4) := (((((Upto.refl _ _).setCell ⟨b1, 0, none⟩ (.inl rfl) _).setCell ⟨b1, 1, none⟩ (.inl rfl) _).setCell ⟨b1, 2, none⟩ (.inl rfl) _).setCell ⟨b1, 3, none⟩ (.inl rfl) _).setCell ⟨b1, 4, none⟩ (.inl rfl) _
  exact ⟨set_five e1 x0 x1 x2 x3 x4, owns_mono (ownsRow_upto e2 v l1) l3, bw_five e3 h1 _ _ _ _ _⟩

set_option maxHeartbeats 1600000 in
theorem toBook_any (nm : ByteArray) (sz : Int) (m : Value) (rs : List (Int × Int × Int)) (fx : Bool) (ep : Int) (w : World) (hb : rs.length ≤ 1048576) (r : ReadsR 3 runC w.heap.size w m rs) :
    Calls Try.prog 91 #[.agg #[.string nm, .int .i64 sz, m, .bool fx, .int .i64 ep]] w fun e w' => ∃ g : Nat, e = .returned (.agg #[.string nm, .int .i64 sz, .slice (some ⟨g, 0, none⟩) rs.length rs.length, .bool fx, .int .i64 ep]) ∧ w'.ownsRow w.heap.size 106 3 (.slice (some ⟨g, 0, none⟩) rs.length rs.length) rs.length (rs.flatMap runC) ∧ Below w.heap.size w w' := by
  obtain ⟨o, cap, hm⟩ := r.form
  obtain ⟨W1, hW0, k0, k1, k2, d0, z0⟩ := box3 w #[.string nm, .int .i64 sz, m, .bool fx, .int .i64 ep] #[.string ⟨#[]⟩, .int .i64 0, .slice none 0 0, .bool false, .int .i64 0] #[.string nm, .int .i64 sz, .slice none 0 0, .bool false, .int .i64 0] 127 39 39
  have r0 := r.below d0
  have z0a : w.heap.size + 1 + 1 + 1 ≤ W1.heap.size := by omega
  clear z0
  subst hm
  have HW0 : Hid _ := hW0
  clear hW0 r
  go_enter Try.func91, Try.ntmps91
  go_wp2_with (fail)
  rw [← HW0.out]
  clear HW0
  refine (toRuns_any _ rs _ hb (r0.mono (by omega))).mono ?_
  rintro e w1 ⟨rfl, own, b1⟩
  replace k0 := (b1.block _ (by omega)).trans k0
  replace k1 := (b1.block _ (by omega)).trans k1
  replace k2 := (b1.block _ (by omega)).trans k2
  replace d0 := bw_call d0 b1
  have z2 := b1.size
  clear b1 r0
  have p3 := at_cell k0 3
  have p4 := at_cell k0 4
  have c0 := at_cell k2 0
  have c1 := at_cell k2 1
  have c2 := at_cell k2 2
  have c3 := at_cell k2 3
  have c4 := at_cell k2 4
  have f2 := at_open k2 2
  have f3 := at_open k2 3
  have f4 := at_open k2 4
  have q0 := at_cell k1 0
  have q1 := at_cell k1 1
  have q2 := at_cell k1 2
  have q3 := at_cell k1 3
  have q4 := at_cell k1 4
  have g0 := at_open k1 0
  have g1 := at_open k1 1
  have g2 := at_open k1 2
  have g3 := at_open k1 3
  have g4 := at_open k1 4
  have HS : Hid _ := toBook_end (b1 := w.heap.size + 1) (b2 := w.heap.size + 1 + 1) (by omega) (by omega) (by omega) (by omega) (by omega) (by omega) k1 own d0 (.slice (some ⟨W1.heap.size, 0, none⟩) rs.length rs.length) (.bool fx) (.int .i64 ep) (.string nm) (.int .i64 sz) (.slice (some ⟨W1.heap.size, 0, none⟩) rs.length rs.length) (.bool fx) (.int .i64 ep)
  clear k0 k1 k2 own d0
  go_wp2_with fail
  exact bodyPost_ret (v := .agg #[.string nm, .int .i64 sz, .slice (some ⟨W1.heap.size, 0, none⟩) rs.length rs.length, .bool fx, .int .i64 ep]) (by simp [results, Try.results91, go_sem, at_cell HS.out.1]) rfl ⟨_, rfl, HS.out.2.1, HS.out.2.2⟩

set_option maxHeartbeats 1600000 in
theorem eqBook_same (nm : ByteArray) (sz : Int) (m m' : Value) (rs : List (Int × Int × Int)) (fx : Bool) (ep : Int) (w : World) (r : ReadsR 3 runC w.heap.size w m rs) (r' : ReadsR 3 runC w.heap.size w m' rs) :
    Calls Try.prog 92 #[.agg #[.string nm, .int .i64 sz, m, .bool fx, .int .i64 ep], .agg #[.string nm, .int .i64 sz, m', .bool fx, .int .i64 ep]] w fun e w' => e = .returned (.bool true) ∧ Below w.heap.size w w' := by
  obtain ⟨o, cap, rfl⟩ := r.form
  obtain ⟨o', cap', rfl⟩ := r'.form
  obtain ⟨W0, hW0, k0, k1, d0, z0⟩ := box2 w #[.string nm, .int .i64 sz, .slice o rs.length cap, .bool fx, .int .i64 ep] #[.string nm, .int .i64 sz, .slice o' rs.length cap', .bool fx, .int .i64 ep] 39 39
  have r0 := (r.below d0).mono d0.size
  have r1 := (r'.below d0).mono d0.size
  have HW0 : Hid (W0 = _) := hW0
  clear hW0 r r'
  go_enter Try.func92, Try.ntmps92
  go_wp2_with fail
  rw [← HW0.out]
  clear HW0
  refine (eqRuns_any _ _ rs rs _ r0 r1).mono ?_
  rintro e w1 ⟨rfl, b⟩
  replace k0 := (b.block _ (by omega)).trans k0
  replace k1 := (b.block _ (by omega)).trans k1
  replace d0 := bw_call d0 b
  have p3 := at_cell k0 3
  have p4 := at_cell k0 4
  have q3 := at_cell k1 3
  have q4 := at_cell k1 4
  simp only [decide_true]
  clear r0 r1 b k0 k1
  cases fx
  · go_wp2_with fail
    go_ret
    exact ⟨rfl, d0⟩
  · go_wp2_with fail
    go_ret
    exact ⟨rfl, d0⟩
end Go.Proofs.Ytkjdfgjmkomcgaa

namespace Go.Proofs.Ytkjdfgjmkomcgaa
open Go.RowKit

set_option linter.unusedVariables false

set_option maxRecDepth 100000


/-- All of a book but where its map lies. -/
def plainB (b : Bk) : ByteArray × Int × List (Int × Int × Int) × Bool × Int := (b.nm, b.sz, b.rs, b.fx, b.ep)

theorem plain_len {bs ms : List Bk} (h : ms.map plainB = bs.map plainB) : ms.length = bs.length := by simpa using congrArg List.length h

theorem plain_at {bs ms : List Bk} (h : ms.map plainB = bs.map plainB) (k : Nat) (h1 : k < ms.length) (h2 : k < bs.length) : plainB ms[k] = plainB bs[k] := by
  have e : (ms.map plainB)[k]? = (bs.map plainB)[k]? := by rw [h]
  simpa [h1, h2] using e

/-- A book's five cells in a row. -/
theorem five_cells {B : Nat} {w : World} {o : Option Addr} {bs : List Bk} (hc : ∀ i x, bs[i]? = some x → ∃ g off, o = some ⟨g, off, none⟩ ∧ g < B ∧ ∀ j u, (bookC x)[j]? = some u → w.cell? ⟨g, off + i * 5 + j, none⟩ = some u) (i : Nat) (hi : i < bs.length) :
    ∃ g off, o = some ⟨g, off, none⟩ ∧ g < B ∧ w.cell? ⟨g, off + i * 5, none⟩ = some (.string bs[i].nm) ∧ w.cell? ⟨g, off + i * 5 + 1, none⟩ = some (.int .i64 bs[i].sz) ∧ w.cell? ⟨g, off + i * 5 + 2, none⟩ = some bs[i].m ∧ w.cell? ⟨g, off + i * 5 + 3, none⟩ = some (.bool bs[i].fx) ∧ w.cell? ⟨g, off + i * 5 + 4, none⟩ = some (.int .i64 bs[i].ep) := by
  obtain ⟨g, off, e, hg, hx⟩ := hc i bs[i] (List.getElem?_eq_getElem hi)
  exact ⟨g, off, e, hg, hx 0 _ rfl, hx 1 _ rfl, hx 2 _ rfl, hx 3 _ rfl, hx 4 _ rfl⟩

theorem Try.infoBook : (Try.prog.info? 39).map (fun i => (i.zero, i.size, i.bytes)) = some (some (.agg #[.string ByteArray.empty, .int .i64 0, .slice none 0 0, .bool false, .int .i64 0]), 5, 64) := by kernel_rfl

def zeroBk : Bk := ⟨ByteArray.empty, 0, .slice none 0 0, [], false, 0⟩

/-- make([]impl.Book, n): a row of zero books, at the end of memory. -/
theorem made_books (n : Nat) (hn : n ≤ 1048576) : ∃ M : Array Value, (∀ W : World, (Instr.makeSlice 27 (.int .i64 (n : Int)) (.int .i64 (n : Int))).run Try.prog W = .ok (.slice (some ⟨W.heap.size, 0, none⟩) n n) (W.alloc (.cells M 39))) ∧
    ∀ (W : World) (base : Nat), base ≤ W.heap.size → (W.alloc (.cells M 39)).ownsRow base 39 5 (.slice (some ⟨W.heap.size, 0, none⟩) n n) (List.replicate n zeroBk).length ((List.replicate n zeroBk).flatMap bookC) := by
  obtain ⟨i0, hi, hz0, hz1, hz2⟩ := info_parts Try.infoBook
  have e := toList_made (cs := bookC) bookC_len (by omega) zeroBk (Value.agg #[.string ByteArray.empty, .int .i64 0, .slice none 0 0, .bool false, .int .i64 0]).cells rfl n
  refine ⟨madeCells (Value.agg #[.string ByteArray.empty, .int .i64 0, .slice none 0 0, .bool false, .int .i64 0]).cells (n * 5), fun W => ?_, fun W base hb => ?_⟩
  · have h := run_make (P := Try.prog) W 27 39 i0 (.agg #[.string ByteArray.empty, .int .i64 0, .slice none 0 0, .bool false, .int .i64 0]) Try.underlying27 hi hz0 .i64 .i64 (n : Int) (n : Int) (by omega) (by omega) (by rw [hz2]; omega) (by omega)
    rw [hz1, Int.toNat_natCast] at h
    simpa using h
  · have h := World.ownsRow_lit (base := base) (size := 5) (e := 39) W (madeCells (Value.agg #[.string ByteArray.empty, .int .i64 0, .slice none 0 0, .bool false, .int .i64 0]).cells (n * 5)) n hb (by unfold maxLen; omega) (by rw [size_madeCells])
    rw [e] at h
    rwa [List.length_replicate]

/-- A whole book is written. -/
theorem own_book {w : World} {base g n cap : Nat} {xs : List Bk} (h : w.ownsRow base 39 5 (.slice (some ⟨g, 0, none⟩) n cap) xs.length (xs.flatMap bookC)) (i : Nat) (hi : i < xs.length) (y : Bk) :
    (((((w.setCell ⟨g, i * 5, none⟩ (.string y.nm)).setCell ⟨g, i * 5 + 1, none⟩ (.int .i64 y.sz)).setCell ⟨g, i * 5 + 2, none⟩ y.m).setCell ⟨g, i * 5 + 3, none⟩ (.bool y.fx)).setCell ⟨g, i * 5 + 4, none⟩ (.int .i64 y.ep)).ownsRow base 39 5 (.slice (some ⟨g, 0, none⟩) n cap) (xs.set i y).length ((xs.set i y).flatMap bookC) := by
  obtain ⟨x, hx⟩ : ∃ x, xs[i] = x := ⟨_, rfl⟩
  have hxi : xs[i]? = some x := by rw [List.getElem?_eq_getElem hi, hx]
  have h1 := own_put bookC_len h i 0 x ⟨y.nm, x.sz, x.m, x.rs, x.fx, x.ep⟩ (.string y.nm) hxi (by omega) rfl
  have h2 := own_put bookC_len h1 i 1 ⟨y.nm, x.sz, x.m, x.rs, x.fx, x.ep⟩ ⟨y.nm, y.sz, x.m, x.rs, x.fx, x.ep⟩ (.int .i64 y.sz) (by simp [hi]) (by omega) rfl
  have h3 := own_put bookC_len h2 i 2 ⟨y.nm, y.sz, x.m, x.rs, x.fx, x.ep⟩ ⟨y.nm, y.sz, y.m, x.rs, x.fx, x.ep⟩ y.m (by simp [hi]) (by omega) rfl
  have h4 := own_put bookC_len h3 i 3 ⟨y.nm, y.sz, y.m, x.rs, x.fx, x.ep⟩ ⟨y.nm, y.sz, y.m, x.rs, y.fx, x.ep⟩ (.bool y.fx) (by simp [hi]) (by omega) rfl
  have h5 := own_put bookC_len h4 i 4 ⟨y.nm, y.sz, y.m, x.rs, y.fx, x.ep⟩ y (.int .i64 y.ep) (by simp [hi]) (by omega) rfl
  rw [List.set_set, List.set_set, List.set_set, List.set_set] at h5
  exact h5

theorem own_five {w : World} {base g n cap : Nat} {xs : List Bk} (h : w.ownsRow base 39 5 (.slice (some ⟨g, 0, none⟩) n cap) xs.length (xs.flatMap bookC)) (i : Nat) (hi : i < xs.length) :
    (w.cell? ⟨g, i * 5, none⟩ = some (.string xs[i].nm) ∧ w.cell? ⟨g, i * 5 + 1, none⟩ = some (.int .i64 xs[i].sz) ∧ w.cell? ⟨g, i * 5 + 2, none⟩ = some xs[i].m ∧ w.cell? ⟨g, i * 5 + 3, none⟩ = some (.bool xs[i].fx) ∧ w.cell? ⟨g, i * 5 + 4, none⟩ = some (.int .i64 xs[i].ep)) ∧ w.frozen? ⟨g, i * 5, none⟩ = false ∧ w.frozen? ⟨g, i * 5 + 1, none⟩ = false ∧ w.frozen? ⟨g, i * 5 + 2, none⟩ = false ∧ w.frozen? ⟨g, i * 5 + 3, none⟩ = false ∧ w.frozen? ⟨g, i * 5 + 4, none⟩ = false := by
  obtain ⟨a0, b0⟩ := own_cell bookC_len h i 0 _ (List.getElem?_eq_getElem hi) (by omega)
  obtain ⟨a1, b1⟩ := own_cell bookC_len h i 1 _ (List.getElem?_eq_getElem hi) (by omega)
  obtain ⟨a2, b2⟩ := own_cell bookC_len h i 2 _ (List.getElem?_eq_getElem hi) (by omega)
  obtain ⟨a3, b3⟩ := own_cell bookC_len h i 3 _ (List.getElem?_eq_getElem hi) (by omega)
  obtain ⟨a4, b4⟩ := own_cell bookC_len h i 4 _ (List.getElem?_eq_getElem hi) (by omega)
  exact ⟨⟨a0, a1, a2, a3, a4⟩, b0, b1, b2, b3, b4⟩

/-- A row of books of one's own: the row, and each map. -/
structure OwnB (base : Nat) (w : World) (v : Value) (bs : List Bk) : Prop where
  row : w.ownsRow base 39 5 v bs.length (bs.flatMap bookC)
  maps : ∀ b ∈ bs, w.ownsRow base 106 3 b.m b.rs.length (b.rs.flatMap runC)

theorem OwnB.reads {base : Nat} {w : World} {v : Value} {bs : List Bk} (h : OwnB base w v bs) : ReadsB w.heap.size w v bs := ⟨ReadsR.of_own bookC_len h.row, fun b hb => ReadsR.of_own runC_len (h.maps b hb)⟩

theorem OwnB.below {base : Nat} {w w' : World} {v : Value} {bs : List Bk} (h : OwnB base w v bs) (k : Below w.heap.size w w') : OwnB base w' v bs := ⟨owns_below h.row k, fun b hb => owns_below (h.maps b hb) k⟩

theorem OwnB.mono {base base' : Nat} {w : World} {v : Value} {bs : List Bk} (h : OwnB base w v bs) (k : base' ≤ base) : OwnB base' w v bs := ⟨owns_mono h.row k, fun b hb => owns_mono (h.maps b hb) k⟩

/-- No two maps lie in one block. -/
def ApartM (ms : List Bk) : Prop := ms.Pairwise (fun a b => ∀ g, a.m.ownBlock = some g → b.m.ownBlock ≠ some g)

theorem ApartM.snoc {ms : List Bk} (h : ApartM ms) (y : Bk) (hy : ∀ b ∈ ms, ∀ g, b.m.ownBlock = some g → y.m.ownBlock ≠ some g) : ApartM (ms ++ [y]) :=
  List.pairwise_append.2 ⟨h, List.pairwise_singleton _ _, fun a ha b hb => by simp only [List.mem_singleton] at hb; subst hb; exact hy a ha⟩

set_option maxHeartbeats 3200000 in
theorem toBooksA_any (v : Value) (bs : List Bk) (w : World) (hn : bs.length ≤ 1048576) (hr : ∀ b ∈ bs, b.rs.length ≤ 1048576) (r : ReadsB w.heap.size w v bs) :
    Calls Try.prog 49 #[v] w fun e w' => ∃ ms : List Bk, e = .returned (.slice (some ⟨w.heap.size, 0, none⟩) bs.length bs.length) ∧ ms.map plainB = bs.map plainB ∧ OwnB w.heap.size w' (.slice (some ⟨w.heap.size, 0, none⟩) bs.length bs.length) ms ∧ ApartM ms ∧ Below w.heap.size w w' := by
  have RM : Hid _ := r.maps
  have RL : Hid _ := hr
  obtain ⟨o, cap, rfl, hm, hc, -⟩ := r.row
  have HC : Hid _ := five_cells hc
  obtain ⟨M, hmk, hown⟩ := made_books bs.length hn
  have own0 := hown w w.heap.size (Nat.le_refl _)
  have bd0 : Below w.heap.size w (w.alloc (.cells M 39)) := bw_alloc (Below.refl _ _)
  clear hown hc hm r hr
  go_enter Try.func49, Try.ntmps49
  go_wp2_with fail
  generalize w.alloc (.cells M 39) = W0 at own0 bd0 ⊢
  generalize hzs : List.replicate bs.length zeroBk = zs at own0
  have hzl : zs.length = bs.length := by rw [← hzs]; simp
  clear hmk hzs
  go_loopw [4] (fun i wr => ∃ (j : Nat) (ms : List Bk), j ≤ bs.length ∧ i = .int .i64 j ∧ ms.map plainB = (bs.take j).map plainB ∧ wr.ownsRow w.heap.size 39 5 (.slice (some ⟨w.heap.size, 0, none⟩) bs.length bs.length) (ms ++ zs.drop j).length ((ms ++ zs.drop j).flatMap bookC) ∧ (∀ b ∈ ms, wr.ownsRow (w.heap.size + 1) 106 3 b.m b.rs.length (b.rs.flatMap runC)) ∧ ApartM ms ∧ Below w.heap.size w wr ∧ w.heap.size < wr.heap.size) (fun i _ => bs.length - (intOf i).toNat)
  case atStart => exact ⟨0, [], Nat.zero_le _, rfl, rfl, by simpa using own0, (fun b hb => by simp at hb), List.Pairwise.nil, bd0, (own0.lt _ rfl).2⟩
  case round =>
    obtain ⟨j, ms, hj, rfl, hpl, own, oms, apa, hb, hsz⟩ := hrel
    have hml : ms.length = j := by have := plain_len hpl; rw [List.length_take] at this; omega
    by_cases hlt : j < bs.length
    · obtain ⟨g, off, rfl, hg, a0, a1, a2, a3, a4⟩ := HC.out j hlt
      have rm := ((RM.out bs[j] (List.getElem_mem hlt)).below hb).mono hb.size
      have rl := RL.out bs[j] (List.getElem_mem hlt)
      have hpt : (bs.take (j + 1)).map plainB = (bs.take j).map plainB ++ [plainB bs[j]] := by rw [List.take_succ_eq_append_getElem hlt, List.map_append]; rfl
      have hdr : zs.drop j = zs[j]'(by omega) :: zs.drop (j + 1) := List.drop_eq_getElem_cons (by omega)
      generalize zs[j]'(by omega) = z at hdr
      obtain ⟨x, hx⟩ : ∃ x, bs[j] = x := ⟨_, rfl⟩
      rw [hx] at a0 a1 a2 a3 a4 rm rl hpt
      clear hx HC RM RL
      obtain ⟨nm, sz, m, rs, fx, ep⟩ := x
      simp only at a0 a1 a2 a3 a4 rm rl
      obtain ⟨o', cap', rfl⟩ := rm.form
      replace a0 := (hb.cell (p := ⟨g, off + j * 5, none⟩) hg).trans a0
      replace a1 := (hb.cell (p := ⟨g, off + j * 5 + 1, none⟩) hg).trans a1
      replace a2 := (hb.cell (p := ⟨g, off + j * 5 + 2, none⟩) hg).trans a2
      replace a3 := (hb.cell (p := ⟨g, off + j * 5 + 3, none⟩) hg).trans a3
      replace a4 := (hb.cell (p := ⟨g, off + j * 5 + 4, none⟩) hg).trans a4
      have HP : Hid _ := And.intro hpl (And.intro hpt hdr)
      have HO : Hid _ := And.intro own oms
      have HAP : Hid _ := apa
      clear hpl hpt hdr own oms apa
      go_wp2_with fail
      refine (toBook_any nm sz _ rs fx ep _ rl rm).mono ?_
      rintro e w5 ⟨g5, rfl, og, b5⟩
      have own5 := owns_below HO.out.1 b5
      have hjl : j < (ms ++ zs.drop j).length := by simp; omega
      obtain ⟨⟨t0, t1, t2, t3, t4⟩, u0, u1, u2, u3, u4⟩ := own_five own5 j hjl
      have HST := own_book own5 j hjl ⟨nm, sz, .slice (some ⟨g5, 0, none⟩) rs.length rs.length, rs, fx, ep⟩
      have hset : (ms ++ zs.drop j).set j ⟨nm, sz, .slice (some ⟨g5, 0, none⟩) rs.length rs.length, rs, fx, ep⟩ = (ms ++ [⟨nm, sz, .slice (some ⟨g5, 0, none⟩) rs.length rs.length, rs, fx, ep⟩]) ++ zs.drop (j + 1) := by
        rw [List.set_append_right _ _ (by omega), hml, Nat.sub_self, HP.out.2.2, List.set_cons_zero, List.append_assoc]
        rfl
      rw [hset] at HST
      simp only at HST
      have hs5 : w.heap.size < w5.heap.size := Nat.lt_of_lt_of_le hsz b5.size
      have uu : Upto w.heap.size w5 (((((w5.setCell ⟨w.heap.size, j * 5, none⟩ (.string nm)).setCell ⟨w.heap.size, j * 5 + 1, none⟩ (.int .i64 sz)).setCell ⟨w.heap.size, j * 5 + 2, none⟩ (.slice (some ⟨g5, 0, none⟩) rs.length rs.length)).setCell ⟨w.heap.size, j * 5 + 3, none⟩ (.bool fx)).setCell ⟨w.heap.size, j * 5 + 4, none⟩ (.int .i64 ep)) := (((((Upto.refl _ _).setCell ⟨w.heap.size, j * 5, none⟩ (.inl rfl) _).setCell ⟨w.heap.size, j * 5 + 1, none⟩ (.inl rfl) _).setCell ⟨w.heap.size, j * 5 + 2, none⟩ (.inl rfl) _).setCell ⟨w.heap.size, j * 5 + 3, none⟩ (.inl rfl) _).setCell ⟨w.heap.size, j * 5 + 4, none⟩ (.inl rfl) _
      have hbf := (bw_call hb b5).trans (uu.toBelow (Nat.le_of_lt hs5) (Nat.le_refl _))
      have hms : ∀ b ∈ ms ++ [⟨nm, sz, .slice (some ⟨g5, 0, none⟩) rs.length rs.length, rs, fx, ep⟩], (((((w5.setCell ⟨w.heap.size, j * 5, none⟩ (.string nm)).setCell ⟨w.heap.size, j * 5 + 1, none⟩ (.int .i64 sz)).setCell ⟨w.heap.size, j * 5 + 2, none⟩ (.slice (some ⟨g5, 0, none⟩) rs.length rs.length)).setCell ⟨w.heap.size, j * 5 + 3, none⟩ (.bool fx)).setCell ⟨w.heap.size, j * 5 + 4, none⟩ (.int .i64 ep)).ownsRow (w.heap.size + 1) 106 3 b.m b.rs.length (b.rs.flatMap runC) := fun b hbm => by
        rcases List.mem_append.1 hbm with y | y
        · exact ownsRow_upto (owns_below (HO.out.2 b y) b5) uu (by omega)
        · simp only [List.mem_singleton] at y
          subst y
          exact ownsRow_upto (owns_mono og (by omega)) uu (by omega)
      have hpn : (ms ++ [(⟨nm, sz, .slice (some ⟨g5, 0, none⟩) rs.length rs.length, rs, fx, ep⟩ : Bk)]).map plainB = (bs.take (j + 1)).map plainB := by rw [HP.out.2.1, List.map_append, HP.out.1]; rfl
      have hap : ApartM (ms ++ [⟨nm, sz, .slice (some ⟨g5, 0, none⟩) rs.length rs.length, rs, fx, ep⟩]) := ApartM.snoc HAP.out _ (fun b hbm g hgb hgy => by
        have h1 := ((HO.out.2 b hbm).lt g hgb).2
        have h2 := (og.lt g hgy).1
        omega)
      have HF : Hid _ := And.intro hpn (And.intro HST (And.intro hms (And.intro hap (And.intro hbf (Nat.lt_of_lt_of_le hs5 uu.size)))))
      generalize (ms ++ zs.drop j)[j] = y at t0 t1 t2 t3 t4
      obtain ⟨yn, ys, ym, yr, yf, ye⟩ := y
      simp only at t0 t1 t2 t3 t4
      clear hpn HST hms hap HAP hbf uu own5 og b5 HO HP hset hb hs5 a0 a1 a2 a3 a4 rm rl
      go_wp2_with fail
      go_roundw
      case rel => exact ⟨j + 1, _, by omega, by go_num, HF.out⟩
      case measure => simp [intOf]; omega
    · have hjj : j = bs.length := by omega
      have HAP : Hid _ := apa
      have HF : Hid (ms.map plainB = bs.map plainB ∧ OwnB w.heap.size wr (.slice (some ⟨w.heap.size, 0, none⟩) bs.length bs.length) ms) := by
        rw [hjj, List.take_length] at hpl
        rw [hjj, List.drop_of_length_le (by omega), List.append_nil] at own
        exact ⟨hpl, own, fun b hbm => owns_mono (oms b hbm) (by omega)⟩
      clear hpl own oms
      go_wp2_with fail
      go_ret
      exact ⟨ms, rfl, HF.out.1, HF.out.2, HAP.out, hb⟩
end Go.Proofs.Ytkjdfgjmkomcgaa

namespace Go.Proofs.Ytkjdfgjmkomcgaa
open Go.RowKit

set_option linter.unusedVariables false

set_option maxRecDepth 100000


set_option maxHeartbeats 3200000 in
theorem eqBooks_same (v v' : Value) (bs ms : List Bk) (w : World) (hp : ms.map plainB = bs.map plainB) (r : ReadsB w.heap.size w v bs) (r' : ReadsB w.heap.size w v' ms) :
    Calls Try.prog 51 #[v, v'] w fun e w' => e = .returned (.bool true) ∧ Below w.heap.size w w' := by
  have RM : Hid _ := r.maps
  have RM' : Hid _ := r'.maps
  have hl := plain_len hp
  have HP : Hid _ := hp
  obtain ⟨o1, cap1, rfl, m1, c1, -⟩ := r.row
  obtain ⟨o2, cap2, rfl, m2, c2, -⟩ := r'.row
  have C1 : Hid _ := five_cells c1
  have C2 : Hid _ := five_cells c2
  have HL : Hid (ms.length = bs.length) := hl
  rw [hl]
  unfold maxLen at m1
  clear c1 c2 m2 r r' hp hl
  go_enter Try.func51, Try.ntmps51
  go_wp2
  go_loopw [5] (fun i wr => ∃ k : Nat, k ≤ bs.length ∧ i = .int .i64 k ∧ Below w.heap.size w wr) (fun i _ => bs.length - (intOf i).toNat)
  case atStart => exact ⟨0, Nat.zero_le _, rfl, Below.refl _ _⟩
  case round =>
    obtain ⟨k, hk, rfl, hb⟩ := hrel
    by_cases hlt : k < bs.length
    · have hlt2 : k < ms.length := by have := HL.out; omega
      obtain ⟨g1, of1, rfl, q1, a0, a1, a2, a3, a4⟩ := C1.out k hlt
      obtain ⟨g2, of2, rfl, q2, b0, b1, b2, b3, b4⟩ := C2.out k hlt2
      have rm := (RM.out bs[k] (List.getElem_mem hlt)).below hb
      have rm' := (RM'.out ms[k] (List.getElem_mem hlt2)).below hb
      have hpk := plain_at HP.out k hlt2 hlt
      generalize bs[k] = x at a0 a1 a2 a3 a4 rm hpk
      generalize ms[k] = y at b0 b1 b2 b3 b4 rm' hpk
      obtain ⟨nm, sz, m, rs, fx, ep⟩ := x
      obtain ⟨nm', sz', m', rs', fx', ep'⟩ := y
      simp only [plainB, Prod.mk.injEq] at a0 a1 a2 a3 a4 b0 b1 b2 b3 b4 rm rm' hpk
      obtain ⟨rfl, rfl, rfl, rfl, rfl⟩ := hpk
      have hne := BelowOf.any wr
      have l1 : g1 < wr.heap.size := Nat.lt_of_lt_of_le q1 hb.size
      have l2 : g2 < wr.heap.size := Nat.lt_of_lt_of_le q2 hb.size
      have HEQ : ∀ q : BelowOf wr, Calls Try.prog 92 #[.agg #[.string nm', .int .i64 sz', m, .bool fx', .int .i64 ep'], .agg #[.string nm', .int .i64 sz', m', .bool fx', .int .i64 ep']] q.w' fun e w' => e = .returned (.bool true) ∧ Below q.w'.heap.size q.w' w' := fun q => eqBook_same nm' sz' m m' rs' fx' ep' q.w' (rm.of hb.size q) (rm'.of hb.size q)
      have d0 := BelowOf.cell ((hb.cell (p := ⟨g1, of1 + k * 5, none⟩) q1).trans a0) l1
      have d1 := BelowOf.cell ((hb.cell (p := ⟨g1, of1 + k * 5 + 1, none⟩) q1).trans a1) l1
      have d2 := BelowOf.cell ((hb.cell (p := ⟨g1, of1 + k * 5 + 2, none⟩) q1).trans a2) l1
      have d3 := BelowOf.cell ((hb.cell (p := ⟨g1, of1 + k * 5 + 3, none⟩) q1).trans a3) l1
      have d4 := BelowOf.cell ((hb.cell (p := ⟨g1, of1 + k * 5 + 4, none⟩) q1).trans a4) l1
      have f0 := BelowOf.cell ((hb.cell (p := ⟨g2, of2 + k * 5, none⟩) q2).trans b0) l2
      have f1 := BelowOf.cell ((hb.cell (p := ⟨g2, of2 + k * 5 + 1, none⟩) q2).trans b1) l2
      have f2 := BelowOf.cell ((hb.cell (p := ⟨g2, of2 + k * 5 + 2, none⟩) q2).trans b2) l2
      have f3 := BelowOf.cell ((hb.cell (p := ⟨g2, of2 + k * 5 + 3, none⟩) q2).trans b3) l2
      have f4 := BelowOf.cell ((hb.cell (p := ⟨g2, of2 + k * 5 + 4, none⟩) q2).trans b4) l2
      have g1' : (0 : Int) ≤ (k : Int) := by omega
      have g2' : (k : Int) < (bs.length : Int) := by omega
      clear a0 a1 a2 a3 a4 b0 b1 b2 b3 b4 C1 C2 RM RM' rm rm' HP
      go_wp2_with fail
      refine wp_region_of (by kernel_rfl) (by kernel_rfl) ?_
      repeat (go_big_quiet_step ((first | (go_at_call 92; exact calls_of (HEQ _)) | rfl)))
      refine wpQuiet_nil ?_
      intro w5 hw5
      obtain ⟨⟨wx, cx⟩, hwx⟩ := hw5
      have b5 : Below wr.heap.size wr w5 := by rw [hwx]; exact cx
      have hb5 := hb.trans (b5.mono hb.size)
      clear hwx cx wx hne d0 d1 d2 d3 d4 f0 f1 f2 f3 f4 HEQ
      go_wp2_with fail
      go_roundw
      case rel => exact ⟨k + 1, by omega, by go_num, hb5⟩
      case measure => simp [intOf]; omega
    · go_wp2
      go_ret
      exact ⟨rfl, hb⟩
end Go.Proofs.Ytkjdfgjmkomcgaa

namespace Go.Proofs.Ytkjdfgjmkomcgaa

def cellOk (c p : Int) : Bool := (decide (0 ≤ c) && decide (c ≤ 400)) && (decide (0 ≤ p) && decide (p ≤ 999)) && !(decide (c = 0) && !decide (p = 0))

theorem cellOk_iff (c p : Int) : cellOk c p = true ↔ 0 ≤ c ∧ c ≤ 400 ∧ 0 ≤ p ∧ p ≤ 999 ∧ (c = 0 → p = 0) := by
  simp only [cellOk, Bool.and_eq_true, decide_eq_true_eq, Bool.not_eq_true', Bool.and_eq_false_iff, decide_eq_false_iff_not, Bool.not_eq_false']
  constructor
  · rintro ⟨⟨⟨h1, h2⟩, h3, h4⟩, h5⟩
    refine ⟨h1, h2, h3, h4, fun h => ?_⟩
    rcases h5 with h5 | h5
    · exact absurd h h5
    · exact h5
  · rintro ⟨h1, h2, h3, h4, h5⟩
    refine ⟨⟨⟨h1, h2⟩, h3, h4⟩, ?_⟩
    by_cases h : c = 0
    · exact .inr (h5 h)
    · exact .inl h

def poolOk (cs ps : List Int) : Bool := decide (1 ≤ cs.length ∧ cs.length ≤ 24 ∧ ps.length = cs.length ∧ ∀ j, j < cs.length → cellOk (cs.getD j 0) (ps.getD j 0) = true)

theorem poolOk_iff (cs ps : List Int) : poolOk cs ps = true ↔ (1 ≤ cs.length ∧ cs.length ≤ 24 ∧ ps.length = cs.length ∧ ∀ j, j < cs.length → cellOk (cs.getD j 0) (ps.getD j 0) = true) := by
  rw [poolOk, decide_eq_true_iff]

theorem poolOk_no (cs ps : List Int) (h : ¬ (1 ≤ cs.length ∧ cs.length ≤ 24 ∧ ps.length = cs.length ∧ ∀ j, j < cs.length → cellOk (cs.getD j 0) (ps.getD j 0) = true)) : poolOk cs ps = false := by
  rw [poolOk, decide_eq_false_iff_not]
  exact h

/-- The count at a place; 0 where there is none. -/
def countAt (cs : List Int) (at_ : Int) : Int := if 0 ≤ at_ ∧ at_ < cs.length then cs.getD at_.toNat 0 else 0

def shared (cs ps : List Int) (at_ : Int) : (List Int × List Int) × Bool :=
  if poolOk cs ps = true then (if 1 ≤ countAt cs at_ ∧ countAt cs at_ < 400 then ((cs.set at_.toNat (countAt cs at_ + 1), ps), true) else ((cs, ps), false)) else (([], []), false)

def dropped (cs ps : List Int) (at_ : Int) : (List Int × List Int) × Bool :=
  if poolOk cs ps = true then (if 1 ≤ countAt cs at_ then ((cs.set at_.toNat (countAt cs at_ - 1), if countAt cs at_ = 1 then ps.set at_.toNat 0 else ps), true) else ((cs, ps), false)) else (([], []), false)

theorem getD_of (cs : List Int) (k : Nat) (h : k < cs.length) : cs.getD k 0 = cs[k] := by
  rw [List.getD_eq_getElem?_getD, List.getElem?_eq_getElem h]; rfl

theorem getD_set (cs : List Int) (k j : Nat) (x : Int) (h : k < cs.length) : (cs.set k x).getD j 0 = if k = j then x else cs.getD j 0 := by
  rw [List.getD_eq_getElem?_getD, List.getElem?_set, List.getD_eq_getElem?_getD]
  by_cases e : k = j
  · subst e; simp [h]
  · simp [e]

theorem countAt_of (cs : List Int) (k : Nat) (h : k < cs.length) : countAt cs k = cs.getD k 0 := by
  unfold countAt
  rw [if_pos (by omega), Int.toNat_natCast]
end Go.Proofs.Ytkjdfgjmkomcgaa

namespace Go.Proofs.Ytkjdfgjmkomcgaa
open Go.RowKit

set_option linter.unusedVariables false

set_option maxRecDepth 100000


theorem szInts_any (o : Option Addr) (n cap : Nat) (left : Int) (w : World) (h0 : 0 ≤ left) (hl : left ≤ 1048576) (hm : n ≤ maxLen) :
    Calls Try.prog 85 #[.slice o n cap, .int .i64 left] w fun e w' => e = .returned (.int .i64 (if left < n then -1 else left - n)) ∧ w' = w := by
  unfold maxLen at hm
  by_cases hbig : left < (n : Int)
  · rw [if_pos hbig]
    have h1 : left - (n : Int) < 0 := by omega
    go_enter Try.func85, Try.ntmps85
    go_wp2_with fail
    go_ret
    exact ⟨rfl, rfl⟩
  · rw [if_neg hbig]
    have h1 : 0 ≤ left - (n : Int) := by omega
    go_enter Try.func85, Try.ntmps85
    go_wp2_with fail
    go_ret
    exact ⟨rfl, rfl⟩

theorem copied_setI (ps : List Int) (xs : List Value) (j : Nat) (hj : j < ps.length) (hx : xs.length = ps.length) :
    ((ps.take j).map (Value.int .i64) ++ xs.drop j).set j (.int .i64 ps[j]) = (ps.take (j + 1)).map (Value.int .i64) ++ xs.drop (j + 1) := by
  have hl : ((ps.take j).map (Value.int .i64)).length = j := by simp; omega
  rw [List.set_append_right _ _ (by omega), hl, Nat.sub_self, List.drop_eq_getElem_cons (show j < xs.length by omega), List.set_cons_zero, List.take_succ_eq_append_getElem hj, List.map_append, List.append_assoc]
  rfl

/-- make([]int64, n): a row of noughts, at the end of memory. -/
theorem made_ints (n : Nat) (hn : n ≤ 1048576) : ∃ M : Array Value, M.toList = (List.replicate n (0 : Int)).map (Value.int .i64) ∧ (∀ W : World, (Instr.makeSlice 24 (.int .i64 (n : Int)) (.int .i64 (n : Int))).run Try.prog W = .ok (.slice (some ⟨W.heap.size, 0, none⟩) n n) (W.alloc (.cells M 2))) ∧
    ∀ (W : World) (base : Nat), base ≤ W.heap.size → (W.alloc (.cells M 2)).ownsRow base 2 1 (.slice (some ⟨W.heap.size, 0, none⟩) n n) n ((List.replicate n (0 : Int)).map (Value.int .i64)) := by
  obtain ⟨i0, hi, hz0, hz1, hz2⟩ := info_parts Try.infoI64
  have e : (madeCells (Value.int .i64 0).cells n).toList = (List.replicate n (0 : Int)).map (Value.int .i64) := by
    show (madeCells #[.int .i64 0] n).toList = _
    rw [toList_madeCells_one]
    simp
  refine ⟨madeCells (Value.int .i64 0).cells n, e, fun W => ?_, fun W base hb => ?_⟩
  · have h := run_make (P := Try.prog) W 24 2 i0 (.int .i64 0) Try.underlying24 hi hz0 .i64 .i64 (n : Int) (n : Int) (by omega) (by omega) (by rw [hz2]; omega) (by omega)
    rw [hz1, Nat.mul_one, Int.toNat_natCast] at h
    simpa using h
  · have h := World.ownsRow_lit (base := base) (size := 1) (e := 2) W (madeCells (Value.int .i64 0).cells n) n hb (by unfold maxLen; omega) (by rw [size_madeCells]; omega)
    rwa [e] at h

set_option maxHeartbeats 1600000 in
theorem toInts_any (v : Value) (ps : List Int) (w : World) (hn : ps.length ≤ 1048576) (hp : Reads w.heap.size w v (ps.map (Value.int .i64))) :
    Calls Try.prog 86 #[v] w fun e w' => e = .returned (.slice (some ⟨w.heap.size, 0, none⟩) ps.length ps.length) ∧ w'.ownsRow w.heap.size 2 1 (.slice (some ⟨w.heap.size, 0, none⟩) ps.length ps.length) ps.length (ps.map (Value.int .i64)) ∧ Below w.heap.size w w' := by
  obtain ⟨o, cap, rfl, hm, hcells, -⟩ := hp
  have HC : Hid (∀ j u, (ps.map (Value.int .i64))[j]? = some u → ∃ g off, o = some ⟨g, off, none⟩ ∧ g < w.heap.size ∧ w.cell? ⟨g, off + j, none⟩ = some u) := hcells
  have hlen : (ps.map (Value.int .i64)).length = ps.length := by simp
  rw [hlen]
  clear hcells hlen hm
  obtain ⟨M, hM, hmk, hown⟩ := made_ints ps.length hn
  have own0 := hown w w.heap.size (Nat.le_refl _)
  have bd0 : Below w.heap.size w (w.alloc (.cells M 2)) := (Below.refl _ _).alloc (Nat.le_refl _) _
  clear hown hM
  go_enter Try.func86, Try.ntmps86
  go_wp2_with fail
  generalize w.alloc (.cells M 2) = W0 at own0 bd0 ⊢
  generalize hxs : (List.replicate ps.length (0 : Int)).map (Value.int .i64) = xs at own0
  have hMl : xs.length = ps.length := by rw [← hxs]; simp
  clear hmk hxs
  go_loopw [4] (fun i wr => ∃ j : Nat, j ≤ ps.length ∧ i = .int .i64 j ∧ wr.ownsRow w.heap.size 2 1 (.slice (some ⟨w.heap.size, 0, none⟩) ps.length ps.length) ps.length ((ps.take j).map (Value.int .i64) ++ xs.drop j) ∧ Below w.heap.size w wr) (fun i _ => ps.length - (intOf i).toNat)
  case atStart => exact ⟨0, Nat.zero_le _, rfl, by simpa using own0, bd0⟩
  case round =>
    obtain ⟨j, hj, rfl, own, hb⟩ := hrel
    by_cases hlt : j < ps.length
    · obtain ⟨g, off, rfl, hg, hx⟩ := HC.out j (.int .i64 ps[j]) (by simp [hlt])
      have hx1 : wr.cell? ⟨g, off + j, none⟩ = some (.int .i64 ps[j]) := (hb.cell (p := ⟨g, off + j, none⟩) hg).trans hx
      have hc0 := own.cellAt j (by omega)
      have hf := own.frozenAt j
      have hst := (own.stored j (.int .i64 ps[j])).1
      rw [copied_setI ps xs j hlt hMl] at hst
      obtain ⟨u0, hu0⟩ : ∃ u0, ((ps.take j).map (Value.int .i64) ++ xs.drop j)[j]? = some u0 := ⟨_, List.getElem?_eq_getElem (by simp; omega)⟩
      have hc : wr.cell? ⟨w.heap.size, j, none⟩ = some u0 := hc0.trans hu0
      have hb2 : Below w.heap.size w (wr.setCell ⟨w.heap.size, j, none⟩ (.int .i64 ps[j])) := hb.setCell (p := ⟨w.heap.size, j, none⟩) (Nat.le_refl _) _
      have HST : Hid _ := And.intro hst hb2
      clear hst hb2 hc0 hu0 own hx
      generalize ps[j] = x at hx1 HST
      go_wp2_with fail
      go_roundw
      case rel => exact ⟨j + 1, by omega, by go_num, HST.out.1, HST.out.2⟩
      case measure => simp [intOf]; omega
    · obtain rfl : j = ps.length := by omega
      rw [List.take_length, List.drop_of_length_le (by omega), List.append_nil] at own
      go_wp2_with fail
      go_ret
      exact ⟨rfl, own, hb⟩

theorem int_ne {x y : Int} (h : (x != y) = true) : x ≠ y := by simpa using h

theorem int_same {x y : Int} (h : (x != y) = false) : x = y := by simpa using h

set_option maxHeartbeats 800000 in
theorem eqInts_any (v1 v2 : Value) (xs ys : List Int) (w : World) (h1 : Reads w.heap.size w v1 (xs.map (Value.int .i64))) (h2 : Reads w.heap.size w v2 (ys.map (Value.int .i64))) :
    Calls Try.prog 89 #[v1, v2] w fun e w' => e = .returned (.bool (decide (xs = ys))) ∧ Below w.heap.size w w' := by
  obtain ⟨o1, cap1, rfl, m1, c1, -⟩ := h1
  obtain ⟨o2, cap2, rfl, m2, c2, -⟩ := h2
  simp only [List.length_map] at m1 m2 c1 c2 ⊢
  by_cases hlen : xs.length = ys.length
  · rw [← hlen]
    have C1 : Hid (∀ j u, (xs.map (Value.int .i64))[j]? = some u → ∃ g off, o1 = some ⟨g, off, none⟩ ∧ g < w.heap.size ∧ w.cell? ⟨g, off + j, none⟩ = some u) := c1
    have C2 : Hid (∀ j u, (ys.map (Value.int .i64))[j]? = some u → ∃ g off, o2 = some ⟨g, off, none⟩ ∧ g < w.heap.size ∧ w.cell? ⟨g, off + j, none⟩ = some u) := c2
    have HL : Hid (xs.length = ys.length) := hlen
    have hle : ys.length ≤ xs.length := by omega
    have hge : xs.length ≤ ys.length := by omega
    unfold maxLen at m1
    clear c1 c2 m2 hlen
    go_enter Try.func89, Try.ntmps89
    go_wp2
    go_loopw [5] (fun i wr => ∃ k : Nat, k ≤ xs.length ∧ i = .int .i64 k ∧ xs.take k = ys.take k ∧ Below w.heap.size w wr) (fun i _ => xs.length - (intOf i).toNat)
    case atStart => exact ⟨0, Nat.zero_le _, rfl, rfl, Below.refl _ _⟩
    case round =>
      obtain ⟨k, hk, rfl, htk, hb⟩ := hrel
      have HT : Hid (xs.take k = ys.take k) := htk
      clear htk
      by_cases hlt : k < xs.length
      · have hlt2 : k < ys.length := by omega
        obtain ⟨g1, of1, rfl, q1, cc1⟩ := C1.out k (.int .i64 xs[k]) (by simp [hlt])
        obtain ⟨g2, of2, rfl, q2, cc2⟩ := C2.out k (.int .i64 ys[k]) (by simp [hlt2])
        generalize hx : xs[k] = x at cc1
        generalize hy : ys[k] = y at cc2
        have HX : Hid (xs[k] = x) := hx
        have HY : Hid (ys[k] = y) := hy
        clear hx hy C1 C2
        have d1 := (hb.cell (p := ⟨g1, of1 + k, none⟩) q1).trans cc1
        have d2 := (hb.cell (p := ⟨g2, of2 + k, none⟩) q2).trans cc2
        clear cc1 cc2
        go_wp2
        go_quiet (fail)
        go_wp2
        · have hne : x ≠ y := int_ne (by assumption)
          rw [← HX.out, ← HY.out] at hne
          go_ret
          exact ⟨ret_bool (by simp [ne_at xs ys k hlt hlt2 hne]), ⟨hb.os, hb.tape, hb.output, hb.size, hb.block⟩⟩
        · have he : x = y := int_same (by assumption)
          rw [← HX.out, ← HY.out] at he
          go_roundw
          case rel => exact ⟨k + 1, by omega, by go_num, take_more xs ys k hlt hlt2 HT.out he, ⟨hb.os, hb.tape, hb.output, hb.size, hb.block⟩⟩
          case measure => simp [intOf]; omega
      · go_wp2
        go_ret
        exact ⟨ret_bool (by simp [all_taken xs ys k hlt HL.out HT.out]), hb⟩
  · have hn : ((xs.length : Int) != (ys.length : Int)) = true := by rw [bne_iff_ne]; omega
    have HX : Hid (decide (xs = ys) = false) := by rw [Hid, decide_eq_false_iff_not]; intro e; rw [e] at hlen; exact hlen rfl
    unfold maxLen at m1 m2
    clear hlen c1 c2
    go_enter Try.func89, Try.ntmps89
    go_wp2
    go_ret
    exact ⟨ret_bool HX.out.symm, Below.refl _ _⟩

def marksI (k : Int) (n : Nat) : List Int := (List.range n).map fun i : Nat => k + (i : Int)

theorem marksI_length (k : Int) (n : Nat) : (marksI k n).length = n := by simp [marksI]

theorem marksI_get (k : Int) (n j : Nat) (h : j < n) : ((marksI k n).map (Value.int .i64))[j]? = some (.int .i64 (k + j)) := by simp [marksI, h]

theorem marked_setI (k : Int) (xs : List Value) (j : Nat) (h : j < xs.length) :
    ((marksI k j).map (Value.int .i64) ++ xs.drop j).set j (.int .i64 (k + j)) = (marksI k (j + 1)).map (Value.int .i64) ++ xs.drop (j + 1) := by
  have hl : ((marksI k j).map (Value.int .i64)).length = j := by simp [marksI]
  have hs : (marksI k (j + 1)).map (Value.int .i64) = (marksI k j).map (Value.int .i64) ++ [.int .i64 (k + j)] := by simp [marksI, List.range_succ]
  rw [List.set_append_right _ _ (by omega), hl, Nat.sub_self, List.drop_eq_getElem_cons h, List.set_cons_zero, hs]
  exact (List.append_assoc _ [Value.int .i64 (k + j)] _).symm

theorem marked_allI (k : Int) (xs : List Value) (n : Nat) (h : xs.length = n) : (marksI k n).map (Value.int .i64) ++ xs.drop n = (marksI k n).map (Value.int .i64) := by
  rw [List.drop_of_length_le (by omega)]; simp

set_option maxHeartbeats 800000 in
theorem markedI_any (g cap n base : Nat) (k : Int) (xs : List Value) (w : World) (hk : 0 ≤ k) (hn : k + n ≤ 1099511627776) (own : w.ownsRow base 2 1 (.slice (some ⟨g, 0, none⟩) n cap) n xs) :
    Calls Try.prog 55 #[.slice (some ⟨g, 0, none⟩) n cap, .int .i64 k] w fun e w' => e = .returned (.int .i64 (k + n)) ∧ w'.ownsRow base 2 1 (.slice (some ⟨g, 0, none⟩) n cap) n ((marksI k n).map (Value.int .i64)) ∧ Upto g w w' := by
  have hx : xs.length = n := by simpa using own.1
  have hg := own.lt g rfl
  go_enter Try.func55, Try.ntmps55
  go_wp2
  go_loopw [1, 5] (fun q i wr => ∃ j : Nat, j ≤ n ∧ i = .int .i64 j ∧ q = .int .i64 (k + j) ∧ wr.ownsRow base 2 1 (.slice (some ⟨g, 0, none⟩) n cap) n ((marksI k j).map (Value.int .i64) ++ xs.drop j) ∧ Upto g w wr) (fun _ i _ => n - (intOf i).toNat)
  case atStart => exact ⟨0, Nat.zero_le _, rfl, by simp, by simpa [marksI] using own, Upto.refl _ _⟩
  case round =>
    obtain ⟨j, hj, rfl, rfl, ow, u⟩ := hrel
    clear own
    by_cases hlt : j < n
    · have hc0 := ow.cellAt j (by omega)
      have hf := ow.frozenAt j
      have hst := (ow.stored j (.int .i64 (k + j))).1
      rw [marked_setI k xs j (by omega)] at hst
      have HST : Hid ((wr.setCell ⟨g, j, none⟩ (.int .i64 (k + j))).ownsRow base 2 1 (.slice (some ⟨g, 0, none⟩) n cap) n ((marksI k (j + 1)).map (Value.int .i64) ++ xs.drop (j + 1))) := hst
      obtain ⟨u0, hu0⟩ : ∃ u0, ((marksI k j).map (Value.int .i64) ++ xs.drop j)[j]? = some u0 := ⟨_, List.getElem?_eq_getElem (by simp [marksI_length]; omega)⟩
      have hc : wr.cell? ⟨g, j, none⟩ = some u0 := hc0.trans hu0
      have u2 : Upto g w (wr.setCell ⟨g, j, none⟩ (.int .i64 (k + j))) := u.setCell _ (.inl rfl) _
      clear ow hc0 hu0 hst u
      go_wp2_with fail
      go_roundw
      case rel => exact ⟨j + 1, by omega, by go_num, by go_num, HST.out, u2⟩
      case measure => simp [intOf]; omega
    · obtain rfl : j = n := by omega
      rw [marked_allI k xs j hx] at ow
      go_wp2_with fail
      go_ret
      exact ⟨rfl, ow, u⟩

/-- A row of one's own, marked; whatever other row lies in another block stays. -/
theorem markedIRow_any (v : Value) (n base : Nat) (k : Int) (xs : List Value) (w : World) (hk : 0 ≤ k) (hn : k + n ≤ 1099511627776) (hbase : base ≤ w.heap.size) (own : w.ownsRow base 2 1 v n xs) :
    Calls Try.prog 55 #[v, .int .i64 k] w fun e w' => e = .returned (.int .i64 (k + n)) ∧ w'.ownsRow base 2 1 v n ((marksI k n).map (Value.int .i64)) ∧ Below base w w' ∧ w.heap.size ≤ w'.heap.size ∧ ∀ i, i < w.heap.size → v.ownBlock ≠ some i → w'.heap[i]? = w.heap[i]? := by
  rcases own.2 with ⟨rfl, rfl⟩ | ⟨g, cap, cur, rfl, hg, _⟩
  · go_enter Try.func55, Try.ntmps55
    go_wp2
    refine wp_loop_rounds 1 ?_
    rw [rounds_succ]
    go_wp2
    go_ret
    exact ⟨ret_int (by simp), World.ownsRow_nil _ _ _ _, Below.refl _ _, Nat.le_refl _, fun _ _ _ => rfl⟩
  · refine (markedI_any g cap n base k xs w hk hn own).mono ?_
    rintro e w' ⟨he, ho, hu⟩
    exact ⟨he, ho, hu.toBelow hbase hg, hu.size, fun i hi hn => hu.block i hi (fun e => hn (by rw [e]; rfl))⟩

set_option maxHeartbeats 800000 in
theorem heldI_any (v : Value) (n : Nat) (k : Int) (w : World) (hk : 0 ≤ k) (hn : k + n ≤ 1099511627776) (hr : Reads w.heap.size w v ((marksI k n).map (Value.int .i64))) :
    Calls Try.prog 56 #[v, .int .i64 k] w fun e w' => e = .returned (.int .i64 (k + n)) ∧ Below w.heap.size w w' := by
  obtain ⟨o, cap, rfl, hm, hc, -⟩ := hr
  have hl : ((marksI k n).map (Value.int .i64)).length = n := by simp [marksI_length]
  rw [hl] at hm ⊢
  have HC : Hid (∀ j u, ((marksI k n).map (Value.int .i64))[j]? = some u → ∃ g off, o = some ⟨g, off, none⟩ ∧ g < w.heap.size ∧ w.cell? ⟨g, off + j, none⟩ = some u) := hc
  clear hc hl hm
  go_enter Try.func56, Try.ntmps56
  go_wp2
  go_loopw [1, 5] (fun q i wr => ∃ j : Nat, j ≤ n ∧ i = .int .i64 j ∧ q = .int .i64 (k + j) ∧ Below w.heap.size w wr) (fun _ i _ => n - (intOf i).toNat)
  case atStart => exact ⟨0, Nat.zero_le _, rfl, by simp, Below.refl _ _⟩
  case round =>
    obtain ⟨j, hj, rfl, rfl, hb⟩ := hrel
    by_cases hlt : j < n
    · obtain ⟨g, off, rfl, hg, hx⟩ := HC.out j _ (marksI_get k n j hlt)
      have hx1 : wr.cell? ⟨g, off + j, none⟩ = some (.int .i64 (k + j)) := (hb.cell (p := ⟨g, off + j, none⟩) hg).trans hx
      have g1 : (0 : Int) ≤ (j : Int) := by omega
      have g2 : (j : Int) < (n : Int) := by omega
      clear HC hx
      go_wp2
      go_roundw
      case rel => exact ⟨j + 1, by omega, by go_num, by go_num, hb⟩
      case measure => simp [intOf]; omega
    · obtain rfl : j = n := by omega
      go_wp2_with fail
      go_ret
      exact ⟨rfl, hb⟩
end Go.Proofs.Ytkjdfgjmkomcgaa

namespace Go.Proofs.Ytkjdfgjmkomcgaa
open Go.RowKit

set_option linter.unusedVariables false

set_option maxRecDepth 100000


/-- A box of a pool: its two rows. -/
theorem pool_box (w : World) (v1 v2 : Value) (T : TypeId) : ∃ W0, W0 = w.alloc (.cells #[v1, v2] T) ∧ W0.heap[w.heap.size]? = some (.cells #[v1, v2] T (0, 0)) ∧ Below w.heap.size w W0 ∧ W0.heap.size = w.heap.size + 1 :=
  ⟨_, rfl, heap_alloc_new w _, bw_alloc (Below.refl _ _), by simp⟩

theorem getD_some (xs : List Int) (j : Nat) (h : j < xs.length) : (xs.map (Value.int .i64))[j]? = some (.int .i64 (xs.getD j 0)) := by
  rw [List.getElem?_map, List.getElem?_eq_getElem h, List.getD_eq_getElem?_getD, List.getElem?_eq_getElem h]; rfl

set_option maxHeartbeats 1600000 in
theorem specPoolOk_any (v1 v2 : Value) (cs ps : List Int) (w : World) (h1 : Reads w.heap.size w v1 (cs.map (Value.int .i64))) (h2 : Reads w.heap.size w v2 (ps.map (Value.int .i64))) :
    Calls Try.prog 31 #[.agg #[v1, v2]] w fun e w' => e = .returned (.bool (poolOk cs ps)) ∧ Below w.heap.size w w' := by
  obtain ⟨o1, cap1, rfl, m1, c1, -⟩ := h1
  obtain ⟨o2, cap2, rfl, m2, c2, -⟩ := h2
  simp only [List.length_map] at m1 m2 ⊢
  have C1 : Hid (∀ j u, (cs.map (Value.int .i64))[j]? = some u → ∃ g off, o1 = some ⟨g, off, none⟩ ∧ g < w.heap.size ∧ w.cell? ⟨g, off + j, none⟩ = some u) := c1
  have C2 : Hid (∀ j u, (ps.map (Value.int .i64))[j]? = some u → ∃ g off, o2 = some ⟨g, off, none⟩ ∧ g < w.heap.size ∧ w.cell? ⟨g, off + j, none⟩ = some u) := c2
  clear c1 c2
  unfold maxLen at m1 m2
  obtain ⟨W0, hW0, k0, d0, z0⟩ := pool_box w (.slice o1 cs.length cap1) (.slice o2 ps.length cap2) 26
  have HW0 : Hid (W0 = _) := hW0
  have p0 := at_cell k0 0
  have p1 := at_cell k0 1
  clear hW0 k0
  by_cases hl : (decide ((1 : Int) ≤ (cs.length : Int)) && decide ((cs.length : Int) ≤ 24)) = true
  · by_cases he : ps.length = cs.length
    · have hne : ((ps.length : Int) != (cs.length : Int)) = false := by simp [he]
      have hb : 1 ≤ cs.length ∧ cs.length ≤ 24 := by simp at hl; omega
      have HE : Hid (ps.length = cs.length) := he
      have he1 : ps.length ≤ cs.length := by omega
      have he2 : cs.length ≤ ps.length := by omega
      clear he
      go_enter Try.func31, Try.ntmps31
      go_wp2_with fail
      rw [← HW0.out]
      clear HW0
      refine (l1In_any _ _ _ _).mono ?_
      rintro e w' ⟨rfl, rfl⟩
      rw [hl]
      go_wp2_with fail
      go_loopw [3] (fun i wr => ∃ k : Nat, k ≤ cs.length ∧ i = .int .i64 k ∧ (∀ j, j < k → cellOk (cs.getD j 0) (ps.getD j 0) = true) ∧ wr = w') (fun i _ => cs.length - (intOf i).toNat)
      case atStart => exact ⟨0, Nat.zero_le _, rfl, fun j hj => by omega, rfl⟩
      case round =>
        obtain ⟨k, hk, rfl, hall, rfl⟩ := hrel
        have HA : Hid (∀ j, j < k → cellOk (cs.getD j 0) (ps.getD j 0) = true) := hall
        clear hall
        by_cases hlt : k < cs.length
        · obtain ⟨g1, of1, rfl, q1, cc1⟩ := C1.out k _ (getD_some cs k hlt)
          obtain ⟨g2, of2, rfl, q2, cc2⟩ := C2.out k _ (getD_some ps k (by omega))
          have d1 := (d0.cell (p := ⟨g1, of1 + k, none⟩) q1).trans cc1
          have d2 := (d0.cell (p := ⟨g2, of2 + k, none⟩) q2).trans cc2
          have HN : Hid (cellOk (cs.getD k 0) (ps.getD k 0) = true → ∀ j, j < k + 1 → cellOk (cs.getD j 0) (ps.getD j 0) = true) := fun h j hj => by
            rcases Nat.lt_or_ge j k with q | q
            · exact HA.out j q
            · obtain rfl : j = k := by omega
              exact h
          have HNo : Hid (cellOk (cs.getD k 0) (ps.getD k 0) = false → poolOk cs ps = false) := fun h => poolOk_no cs ps fun q => by rw [q.2.2.2 k hlt] at h; cases h
          clear C1 C2 cc1 cc2 HA
          have hle2 : (k : Int) < (ps.length : Int) := by rw [HE.out]; omega
          generalize cs.getD k 0 = c at *
          generalize ps.getD k 0 = p at *
          have HK : Hid (cellOk c p = ((decide (0 ≤ c) && decide (c ≤ 400)) && (decide (0 ≤ p) && decide (p ≤ 999)) && !(decide (c = 0) && !decide (p = 0)))) := rfl
          cases hc : (decide (0 ≤ c) && decide (c ≤ 400))
          · go_wp2_with fail
            refine (l1In_any _ _ _ _).mono ?_
            rintro e w1 ⟨rfl, rfl⟩
            rw [hc]
            go_wp2_with fail
            go_ret
            exact ⟨ret_bool (HNo.out (by rw [HK.out, hc]; rfl)).symm, d0⟩
          · cases hp : (decide (0 ≤ p) && decide (p ≤ 999))
            · go_wp2_with fail
              refine (l1In_any _ _ _ _).mono ?_
              rintro e w1 ⟨rfl, rfl⟩
              rw [hc]
              go_wp2_with fail
              refine (l1In_any _ _ _ _).mono ?_
              rintro e w1 ⟨rfl, rfl⟩
              rw [hp]
              go_wp2_with fail
              go_ret
              exact ⟨ret_bool (HNo.out (by rw [HK.out, hc, hp]; rfl)).symm, d0⟩
            · by_cases hc0 : c = 0
              · by_cases hp0 : p = 0
                · have HOK : Hid (cellOk c p = true) := by rw [Hid, HK.out, hc, hp]; simp [hp0]
                  subst hc0 hp0
                  go_wp2_with fail
                  refine (l1In_any _ _ _ _).mono ?_
                  rintro e w1 ⟨rfl, rfl⟩
                  go_wp2_with fail
                  refine (l1In_any _ _ _ _).mono ?_
                  rintro e w1 ⟨rfl, rfl⟩
                  go_wp2_with fail
                  go_roundw
                  case rel => exact ⟨k + 1, by omega, by go_num, HN.out HOK.out, by trivial⟩
                  case measure => simp [intOf]; omega
                · have HNO : Hid (cellOk c p = false) := by rw [Hid, HK.out, hc, hp]; simp [hp0, hc0]
                  subst hc0
                  have hp1 : (p != 0) = true := by simpa using hp0
                  go_wp2_with fail
                  refine (l1In_any _ _ _ _).mono ?_
                  rintro e w1 ⟨rfl, rfl⟩
                  go_wp2_with fail
                  refine (l1In_any _ _ _ _).mono ?_
                  rintro e w1 ⟨rfl, rfl⟩
                  rw [hp]
                  go_wp2_with fail
                  go_ret
                  exact ⟨ret_bool (HNo.out HNO.out).symm, d0⟩
              · have HOK : Hid (cellOk c p = true) := by rw [Hid, HK.out, hc, hp]; simp [hc0]
                have hc1 : (c == 0) = false := by simpa using hc0
                go_wp2_with fail
                refine (l1In_any _ _ _ _).mono ?_
                rintro e w1 ⟨rfl, rfl⟩
                rw [hc]
                go_wp2_with fail
                refine (l1In_any _ _ _ _).mono ?_
                rintro e w1 ⟨rfl, rfl⟩
                rw [hp]
                go_wp2_with fail
                go_roundw
                case rel => exact ⟨k + 1, by omega, by go_num, HN.out HOK.out, by trivial⟩
                case measure => simp [intOf]; omega
        · have hv : poolOk cs ps = true := (poolOk_iff cs ps).2 ⟨hb.1, hb.2, HE.out, fun j hj => HA.out j (by omega)⟩
          go_wp2_with fail
          go_ret
          exact ⟨ret_bool hv.symm, d0⟩
    · have hne : ((ps.length : Int) != (cs.length : Int)) = true := by simp; omega
      have hv : poolOk cs ps = false := poolOk_no cs ps fun q => he q.2.2.1
      rw [hv]
      go_enter Try.func31, Try.ntmps31
      go_wp2_with fail
      rw [← HW0.out]
      clear HW0
      refine (l1In_any _ _ _ _).mono ?_
      rintro e w' ⟨rfl, rfl⟩
      rw [hl]
      go_wp2_with fail
      go_ret
      exact ⟨rfl, d0⟩
  · have hf : (decide ((1 : Int) ≤ (cs.length : Int)) && decide ((cs.length : Int) ≤ 24)) = false := by simpa using hl
    have hv : poolOk cs ps = false := poolOk_no cs ps fun q => hl (by simp; omega)
    rw [hv]
    go_enter Try.func31, Try.ntmps31
    go_wp2_with fail
    rw [← HW0.out]
    clear HW0
    refine (l1In_any _ _ _ _).mono ?_
    rintro e w' ⟨rfl, rfl⟩
    rw [hf]
    go_wp2_with fail
    go_ret
    exact ⟨rfl, d0⟩
end Go.Proofs.Ytkjdfgjmkomcgaa

namespace Go.Proofs.Ytkjdfgjmkomcgaa
open Go.RowKit

set_option linter.unusedVariables false

set_option maxRecDepth 100000


/-- A pool whose two rows are the call's own and lie apart. -/
structure OwnP (base : Nat) (w : World) (v1 v2 : Value) (cs ps : List Int) : Prop where
  c : w.ownsRow base 2 1 v1 cs.length (cs.map (Value.int .i64))
  p : w.ownsRow base 2 1 v2 ps.length (ps.map (Value.int .i64))
  apart : ∀ g, v1.ownBlock = some g → v2.ownBlock ≠ some g

theorem OwnP.below {base : Nat} {w w' : World} {v1 v2 : Value} {cs ps : List Int} (h : OwnP base w v1 v2 cs ps) (b : Below w.heap.size w w') : OwnP base w' v1 v2 cs ps := ⟨owns_below h.c b, owns_below h.p b, h.apart⟩

theorem OwnP.mono {base base' : Nat} {w : World} {v1 v2 : Value} {cs ps : List Int} (h : OwnP base w v1 v2 cs ps) (b : base' ≤ base) : OwnP base' w v1 v2 cs ps := ⟨owns_mono h.c b, owns_mono h.p b, h.apart⟩

theorem OwnP.upto {base c : Nat} {w w' : World} {v1 v2 : Value} {cs ps : List Int} (h : OwnP base w v1 v2 cs ps) (u : Upto c w w') (hc : c < base) : OwnP base w' v1 v2 cs ps := ⟨ownsRow_upto h.c u hc, ownsRow_upto h.p u hc, h.apart⟩

theorem OwnP.r1 {base : Nat} {w : World} {v1 v2 : Value} {cs ps : List Int} (h : OwnP base w v1 v2 cs ps) : Reads w.heap.size w v1 (cs.map (Value.int .i64)) := Reads.of_own h.c

theorem OwnP.r2 {base : Nat} {w : World} {v1 v2 : Value} {cs ps : List Int} (h : OwnP base w v1 v2 cs ps) : Reads w.heap.size w v2 (ps.map (Value.int .i64)) := Reads.of_own h.p

theorem OwnP.nil (base : Nat) (w : World) : OwnP base w (.slice none 0 0) (.slice none 0 0) [] [] := ⟨owns_nil _ _ _ _, owns_nil _ _ _ _, fun g h => by cases h⟩

/-- The answer's box is written. -/
theorem pool_end (w W : World) (u1 u2 x y : Value) (b : Nat) (cs ps : List Int) (hb : w.heap.size ≤ b) (k : W.heap[b]? = some (.cells #[x, y] 26 (0, 0))) (own : OwnP (b + 1) W u1 u2 cs ps) (d : Below w.heap.size w W) :
    ((W.setCell ⟨b, 0, none⟩ u1).setCell ⟨b, 1, none⟩ u2).heap[b]? = some (.cells #[u1, u2] 26 (0, 0)) ∧ OwnP w.heap.size ((W.setCell ⟨b, 0, none⟩ u1).setCell ⟨b, 1, none⟩ u2) u1 u2 cs ps ∧ Below w.heap.size w ((W.setCell ⟨b, 0, none⟩ u1).setCell ⟨b, 1, none⟩ u2) := by
  obtain ⟨h1, h2⟩ := set_two k u1 u2
  exact ⟨h1, (own.upto h2 (by omega)).mono (by omega), d.trans (h2.toBelow d.size (by omega))⟩
end Go.Proofs.Ytkjdfgjmkomcgaa

