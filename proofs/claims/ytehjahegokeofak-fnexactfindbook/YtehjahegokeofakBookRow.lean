/-
  The laws' helpers on a row of books: its size, copied, the same.
-/
import Derived.Test.YtehjahegokeofakBookLaw
namespace Go.Proofs.Ytehjahegokeofak
open Go.RowKit
set_option linter.unusedVariables false

/-- All of a book but where its map lies. -/
def plainB (b : Bk) : ByteArray × Int × List (Int × Int × Int) × Bool × Int := (b.nm, b.sz, b.rs, b.fx, b.ep)
theorem plain_names {bs ms : List Bk} (h : ms.map plainB = bs.map plainB) : ms.map Bk.nm = bs.map Bk.nm := by
  have := congrArg (List.map Prod.fst) h
  simpa [List.map_map, Function.comp_def, plainB] using this
theorem plain_find {bs ms : List Bk} (h : ms.map plainB = bs.map plainB) (n : ByteArray) : findB ms n = findB bs n := by rw [findB, findB, plain_names h]
theorem plain_len {bs ms : List Bk} (h : ms.map plainB = bs.map plainB) : ms.length = bs.length := by simpa using congrArg List.length h
theorem plain_at {bs ms : List Bk} (h : ms.map plainB = bs.map plainB) (k : Nat) (h1 : k < ms.length) (h2 : k < bs.length) : plainB ms[k] = plainB bs[k] := by
  have e : (ms.map plainB)[k]? = (bs.map plainB)[k]? := by rw [h]
  simpa [h1, h2] using e

/-- A book's five cells in a row. -/
theorem five_cells {B : Nat} {w : World} {o : Option Addr} {bs : List Bk} (hc : ∀ i x, bs[i]? = some x → ∃ g off, o = some ⟨g, off, none⟩ ∧ g < B ∧ ∀ j u, (bookC x)[j]? = some u → w.cell? ⟨g, off + i * 5 + j, none⟩ = some u) (i : Nat) (hi : i < bs.length) :
    ∃ g off, o = some ⟨g, off, none⟩ ∧ g < B ∧ w.cell? ⟨g, off + i * 5, none⟩ = some (.string bs[i].nm) ∧ w.cell? ⟨g, off + i * 5 + 1, none⟩ = some (.int .i64 bs[i].sz) ∧ w.cell? ⟨g, off + i * 5 + 2, none⟩ = some bs[i].m ∧ w.cell? ⟨g, off + i * 5 + 3, none⟩ = some (.bool bs[i].fx) ∧ w.cell? ⟨g, off + i * 5 + 4, none⟩ = some (.int .i64 bs[i].ep) := by
  obtain ⟨g, off, e, hg, hx⟩ := hc i bs[i] (List.getElem?_eq_getElem hi)
  exact ⟨g, off, e, hg, hx 0 _ rfl, hx 1 _ rfl, hx 2 _ rfl, hx 3 _ rfl, hx 4 _ rfl⟩

set_option maxHeartbeats 1600000 in
theorem szBooks_any (v : Value) (bs : List Bk) (left : Int) (w : World) (h0 : 0 ≤ left) (hl : left ≤ 1048576) (hn : ∀ b ∈ bs, b.nm.size ≤ maxLen) (r : ReadsB w.heap.size w v bs) :
    Calls Try.prog 6 #[v, .int .i64 left] w fun e w' => ∃ q : Int, e = .returned (.int .i64 q) ∧ (q = -1 ∨ (0 ≤ q ∧ q ≤ left ∧ bs.length ≤ 1048576 ∧ ∀ b ∈ bs, b.nm.size ≤ 1048576 ∧ b.rs.length ≤ 1048576)) ∧ Below w.heap.size w w' := by
  have RM : Hid _ := r.maps
  have RN : Hid _ := hn
  obtain ⟨o, cap, rfl, hm, hc, -⟩ := r.row
  have HC : Hid _ := five_cells hc
  unfold maxLen at hm
  clear hc r hn
  by_cases hbig : left < (bs.length : Int)
  · have h1 : left - (bs.length : Int) < 0 := by omega
    go_enter Try.func6, Try.ntmps6
    go_wp2_with fail
    go_ret
    exact ⟨-1, rfl, .inl rfl, Below.refl _ _⟩
  · have h1 : 0 ≤ left - (bs.length : Int) := by omega
    go_enter Try.func6, Try.ntmps6
    go_wp2_with fail
    go_loopw [1, 5] (fun q i wr => ∃ (k : Nat) (l : Int), k ≤ bs.length ∧ i = .int .i64 k ∧ q = .int .i64 l ∧ (0 ≤ l ∧ l ≤ left) ∧ (∀ j (hj : j < bs.length), j < k → bs[j].nm.size ≤ 1048576 ∧ bs[j].rs.length ≤ 1048576) ∧ Below w.heap.size w wr) (fun _ i _ => bs.length - (intOf i).toNat)
    case atStart => exact ⟨0, left - (bs.length : Int), Nat.zero_le _, rfl, rfl, by omega, fun j _ hj => by omega, Below.refl _ _⟩
    case round =>
      obtain ⟨k, l, hk, rfl, rfl, hlq, hall, hb⟩ := hrel
      have HA : Hid _ := hall
      clear hall
      by_cases hlt : k < bs.length
      · obtain ⟨g, off, rfl, hg, a0, a1, a2, a3, a4⟩ := HC.out k hlt
        have rm := ((RM.out bs[k] (List.getElem_mem hlt)).below hb).mono hb.size
        have rn := RN.out bs[k] (List.getElem_mem hlt)
        obtain ⟨x, hx⟩ : ∃ x, bs[k] = x := ⟨_, rfl⟩
        have HX : Hid (bs[k] = x) := hx
        rw [hx] at a0 a1 a2 a3 a4 rm rn
        clear hx HC RM RN
        obtain ⟨nm, sz, m, rs, fx, ep⟩ := x
        simp only at a0 a1 a2 a3 a4 rm rn
        obtain ⟨o', cap', rfl⟩ := rm.form
        replace a0 := (hb.cell (p := ⟨g, off + k * 5, none⟩) hg).trans a0
        replace a1 := (hb.cell (p := ⟨g, off + k * 5 + 1, none⟩) hg).trans a1
        replace a2 := (hb.cell (p := ⟨g, off + k * 5 + 2, none⟩) hg).trans a2
        replace a3 := (hb.cell (p := ⟨g, off + k * 5 + 3, none⟩) hg).trans a3
        replace a4 := (hb.cell (p := ⟨g, off + k * 5 + 4, none⟩) hg).trans a4
        go_wp2_with fail
        refine (szBook_any nm sz _ rs fx ep l _ rn hlq.1 (by omega) rm).mono ?_
        rintro e w1 ⟨q, rfl, hq, b1⟩
        replace hb := bw_call hb b1
        clear a0 a1 a2 a3 a4 b1 rm rn
        rcases hq with rfl | ⟨hq0, hq1, hq2, hq3⟩
        · go_wp2_with fail
          go_ret
          exact ⟨-1, rfl, .inl rfl, hb⟩
        · have HN : Hid (∀ j (hj : j < bs.length), j < k + 1 → bs[j].nm.size ≤ 1048576 ∧ bs[j].rs.length ≤ 1048576) := fun j hj hjk => by
            rcases Nat.lt_or_ge j k with y | y
            · exact HA.out j hj y
            · obtain rfl : j = k := by omega
              rw [HX.out]
              exact ⟨hq2, hq3⟩
          clear HA HX hq2 hq3
          go_wp2_with fail
          go_roundw
          case rel => exact ⟨k + 1, q, by omega, by go_num, rfl, by omega, HN.out, hb⟩
          case measure => simp [intOf]; omega
      · have HB : Hid (∀ b ∈ bs, b.nm.size ≤ 1048576 ∧ b.rs.length ≤ 1048576) := fun b hbm => by
          obtain ⟨j, hj, rfl⟩ := List.getElem_of_mem hbm
          exact HA.out j hj (by omega)
        clear HA HC RM RN
        go_wp2_with fail
        go_ret
        exact ⟨l, rfl, .inr ⟨hlq.1, hlq.2, by omega, HB.out⟩, hb⟩

theorem Try.infoBook : (Try.prog.info? 54).map (fun i => (i.zero, i.size, i.bytes)) = some (some (.agg #[.string ByteArray.empty, .int .i64 0, .slice none 0 0, .bool false, .int .i64 0]), 5, 64) := by kernel_rfl

def zeroBk : Bk := ⟨ByteArray.empty, 0, .slice none 0 0, [], false, 0⟩

/-- make([]impl.Book, n): a row of zero books, at the end of memory. -/
theorem made_books (n : Nat) (hn : n ≤ 1048576) : ∃ M : Array Value, (∀ W : World, (Instr.makeSlice 25 (.int .i64 (n : Int)) (.int .i64 (n : Int))).run Try.prog W = .ok (.slice (some ⟨W.heap.size, 0, none⟩) n n) (W.alloc (.cells M 54))) ∧
    ∀ (W : World) (base : Nat), base ≤ W.heap.size → (W.alloc (.cells M 54)).ownsRow base 54 5 (.slice (some ⟨W.heap.size, 0, none⟩) n n) (List.replicate n zeroBk).length ((List.replicate n zeroBk).flatMap bookC) := by
  obtain ⟨i0, hi, hz0, hz1, hz2⟩ := info_parts Try.infoBook
  have e := toList_made (cs := bookC) bookC_len (by omega) zeroBk (Value.agg #[.string ByteArray.empty, .int .i64 0, .slice none 0 0, .bool false, .int .i64 0]).cells rfl n
  refine ⟨madeCells (Value.agg #[.string ByteArray.empty, .int .i64 0, .slice none 0 0, .bool false, .int .i64 0]).cells (n * 5), fun W => ?_, fun W base hb => ?_⟩
  · have h := run_make (P := Try.prog) W 25 54 i0 (.agg #[.string ByteArray.empty, .int .i64 0, .slice none 0 0, .bool false, .int .i64 0]) Try.underlying25 hi hz0 .i64 .i64 (n : Int) (n : Int) (by omega) (by omega) (by rw [hz2]; omega) (by omega)
    rw [hz1, Int.toNat_natCast] at h
    simpa using h
  · have h := World.ownsRow_lit (base := base) (size := 5) (e := 54) W (madeCells (Value.agg #[.string ByteArray.empty, .int .i64 0, .slice none 0 0, .bool false, .int .i64 0]).cells (n * 5)) n hb (by unfold maxLen; omega) (by rw [size_madeCells])
    rw [e] at h
    rwa [List.length_replicate]

/-- A whole book is written. -/
theorem own_book {w : World} {base g n cap : Nat} {xs : List Bk} (h : w.ownsRow base 54 5 (.slice (some ⟨g, 0, none⟩) n cap) xs.length (xs.flatMap bookC)) (i : Nat) (hi : i < xs.length) (y : Bk) :
    (((((w.setCell ⟨g, i * 5, none⟩ (.string y.nm)).setCell ⟨g, i * 5 + 1, none⟩ (.int .i64 y.sz)).setCell ⟨g, i * 5 + 2, none⟩ y.m).setCell ⟨g, i * 5 + 3, none⟩ (.bool y.fx)).setCell ⟨g, i * 5 + 4, none⟩ (.int .i64 y.ep)).ownsRow base 54 5 (.slice (some ⟨g, 0, none⟩) n cap) (xs.set i y).length ((xs.set i y).flatMap bookC) := by
  obtain ⟨x, hx⟩ : ∃ x, xs[i] = x := ⟨_, rfl⟩
  have hxi : xs[i]? = some x := by rw [List.getElem?_eq_getElem hi, hx]
  have h1 := own_put bookC_len h i 0 x ⟨y.nm, x.sz, x.m, x.rs, x.fx, x.ep⟩ (.string y.nm) hxi (by omega) rfl
  have h2 := own_put bookC_len h1 i 1 ⟨y.nm, x.sz, x.m, x.rs, x.fx, x.ep⟩ ⟨y.nm, y.sz, x.m, x.rs, x.fx, x.ep⟩ (.int .i64 y.sz) (by simp [hi]) (by omega) rfl
  have h3 := own_put bookC_len h2 i 2 ⟨y.nm, y.sz, x.m, x.rs, x.fx, x.ep⟩ ⟨y.nm, y.sz, y.m, x.rs, x.fx, x.ep⟩ y.m (by simp [hi]) (by omega) rfl
  have h4 := own_put bookC_len h3 i 3 ⟨y.nm, y.sz, y.m, x.rs, x.fx, x.ep⟩ ⟨y.nm, y.sz, y.m, x.rs, y.fx, x.ep⟩ (.bool y.fx) (by simp [hi]) (by omega) rfl
  have h5 := own_put bookC_len h4 i 4 ⟨y.nm, y.sz, y.m, x.rs, y.fx, x.ep⟩ y (.int .i64 y.ep) (by simp [hi]) (by omega) rfl
  rw [List.set_set, List.set_set, List.set_set, List.set_set] at h5
  exact h5
theorem own_five {w : World} {base g n cap : Nat} {xs : List Bk} (h : w.ownsRow base 54 5 (.slice (some ⟨g, 0, none⟩) n cap) xs.length (xs.flatMap bookC)) (i : Nat) (hi : i < xs.length) :
    (w.cell? ⟨g, i * 5, none⟩ = some (.string xs[i].nm) ∧ w.cell? ⟨g, i * 5 + 1, none⟩ = some (.int .i64 xs[i].sz) ∧ w.cell? ⟨g, i * 5 + 2, none⟩ = some xs[i].m ∧ w.cell? ⟨g, i * 5 + 3, none⟩ = some (.bool xs[i].fx) ∧ w.cell? ⟨g, i * 5 + 4, none⟩ = some (.int .i64 xs[i].ep)) ∧ w.frozen? ⟨g, i * 5, none⟩ = false ∧ w.frozen? ⟨g, i * 5 + 1, none⟩ = false ∧ w.frozen? ⟨g, i * 5 + 2, none⟩ = false ∧ w.frozen? ⟨g, i * 5 + 3, none⟩ = false ∧ w.frozen? ⟨g, i * 5 + 4, none⟩ = false := by
  obtain ⟨a0, b0⟩ := own_cell bookC_len h i 0 _ (List.getElem?_eq_getElem hi) (by omega)
  obtain ⟨a1, b1⟩ := own_cell bookC_len h i 1 _ (List.getElem?_eq_getElem hi) (by omega)
  obtain ⟨a2, b2⟩ := own_cell bookC_len h i 2 _ (List.getElem?_eq_getElem hi) (by omega)
  obtain ⟨a3, b3⟩ := own_cell bookC_len h i 3 _ (List.getElem?_eq_getElem hi) (by omega)
  obtain ⟨a4, b4⟩ := own_cell bookC_len h i 4 _ (List.getElem?_eq_getElem hi) (by omega)
  exact ⟨⟨a0, a1, a2, a3, a4⟩, b0, b1, b2, b3, b4⟩

/-- A row of books of one's own: the row, and each map. -/
structure OwnB (base : Nat) (w : World) (v : Value) (bs : List Bk) : Prop where
  row : w.ownsRow base 54 5 v bs.length (bs.flatMap bookC)
  maps : ∀ b ∈ bs, w.ownsRow base 78 3 b.m b.rs.length (b.rs.flatMap runC)
theorem OwnB.reads {base : Nat} {w : World} {v : Value} {bs : List Bk} (h : OwnB base w v bs) : ReadsB w.heap.size w v bs := ⟨ReadsR.of_own bookC_len h.row, fun b hb => ReadsR.of_own runC_len (h.maps b hb)⟩
theorem OwnB.below {base : Nat} {w w' : World} {v : Value} {bs : List Bk} (h : OwnB base w v bs) (k : Below w.heap.size w w') : OwnB base w' v bs := ⟨owns_below h.row k, fun b hb => owns_below (h.maps b hb) k⟩
theorem OwnB.mono {base base' : Nat} {w : World} {v : Value} {bs : List Bk} (h : OwnB base w v bs) (k : base' ≤ base) : OwnB base' w v bs := ⟨owns_mono h.row k, fun b hb => owns_mono (h.maps b hb) k⟩

set_option maxHeartbeats 3200000 in
theorem toBooks_any (v : Value) (bs : List Bk) (w : World) (hn : bs.length ≤ 1048576) (hr : ∀ b ∈ bs, b.rs.length ≤ 1048576) (r : ReadsB w.heap.size w v bs) :
    Calls Try.prog 8 #[v] w fun e w' => ∃ ms : List Bk, e = .returned (.slice (some ⟨w.heap.size, 0, none⟩) bs.length bs.length) ∧ ms.map plainB = bs.map plainB ∧ OwnB w.heap.size w' (.slice (some ⟨w.heap.size, 0, none⟩) bs.length bs.length) ms ∧ Below w.heap.size w w' := by
  have RM : Hid _ := r.maps
  have RL : Hid _ := hr
  obtain ⟨o, cap, rfl, hm, hc, -⟩ := r.row
  have HC : Hid _ := five_cells hc
  obtain ⟨M, hmk, hown⟩ := made_books bs.length hn
  have own0 := hown w w.heap.size (Nat.le_refl _)
  have bd0 : Below w.heap.size w (w.alloc (.cells M 54)) := bw_alloc (Below.refl _ _)
  clear hown hc hm r hr
  go_enter Try.func8, Try.ntmps8
  go_wp2_with fail
  generalize w.alloc (.cells M 54) = W0 at own0 bd0 ⊢
  generalize hzs : List.replicate bs.length zeroBk = zs at own0
  have hzl : zs.length = bs.length := by rw [← hzs]; simp
  clear hmk hzs
  go_loopw [4] (fun i wr => ∃ (j : Nat) (ms : List Bk), j ≤ bs.length ∧ i = .int .i64 j ∧ ms.map plainB = (bs.take j).map plainB ∧ wr.ownsRow w.heap.size 54 5 (.slice (some ⟨w.heap.size, 0, none⟩) bs.length bs.length) (ms ++ zs.drop j).length ((ms ++ zs.drop j).flatMap bookC) ∧ (∀ b ∈ ms, wr.ownsRow (w.heap.size + 1) 78 3 b.m b.rs.length (b.rs.flatMap runC)) ∧ Below w.heap.size w wr ∧ w.heap.size < wr.heap.size) (fun i _ => bs.length - (intOf i).toNat)
  case atStart => exact ⟨0, [], Nat.zero_le _, rfl, rfl, by simpa using own0, fun b hb => by simp at hb, bd0, (own0.lt _ rfl).2⟩
  case round =>
    obtain ⟨j, ms, hj, rfl, hpl, own, oms, hb, hsz⟩ := hrel
    have hml : ms.length = j := by have := plain_len hpl; rw [List.length_take] at this; omega
    by_cases hlt : j < bs.length
    · obtain ⟨g, off, rfl, hg, a0, a1, a2, a3, a4⟩ := HC.out j hlt
      have rm := ((RM.out bs[j] (List.getElem_mem hlt)).below hb).mono hb.size
      have rl := RL.out bs[j] (List.getElem_mem hlt)
      have hpt : (bs.take (j + 1)).map plainB = (bs.take j).map plainB ++ [plainB bs[j]] := by rw [List.take_succ_eq_append_getElem hlt, List.map_append]; rfl
      have hdr : zs.drop j = zs[j]'(by omega) :: zs.drop (j + 1) := List.drop_eq_getElem_cons (by omega)
      generalize zs[j]'(by omega) = z at hdr
      obtain ⟨x, hx⟩ : ∃ x, bs[j] = x := ⟨_, rfl⟩
      rw [hx] at a0 a1 a2 a3 a4 rm rl hpt
      clear hx HC RM RL
      obtain ⟨nm, sz, m, rs, fx, ep⟩ := x
      simp only at a0 a1 a2 a3 a4 rm rl
      obtain ⟨o', cap', rfl⟩ := rm.form
      replace a0 := (hb.cell (p := ⟨g, off + j * 5, none⟩) hg).trans a0
      replace a1 := (hb.cell (p := ⟨g, off + j * 5 + 1, none⟩) hg).trans a1
      replace a2 := (hb.cell (p := ⟨g, off + j * 5 + 2, none⟩) hg).trans a2
      replace a3 := (hb.cell (p := ⟨g, off + j * 5 + 3, none⟩) hg).trans a3
      replace a4 := (hb.cell (p := ⟨g, off + j * 5 + 4, none⟩) hg).trans a4
      have HP : Hid _ := And.intro hpl (And.intro hpt hdr)
      have HO : Hid _ := And.intro own oms
      clear hpl hpt hdr own oms
      go_wp2_with fail
      refine (toBook_any nm sz _ rs fx ep _ rl rm).mono ?_
      rintro e w5 ⟨g5, rfl, og, b5⟩
      have own5 := owns_below HO.out.1 b5
      have hjl : j < (ms ++ zs.drop j).length := by simp; omega
      obtain ⟨⟨t0, t1, t2, t3, t4⟩, u0, u1, u2, u3, u4⟩ := own_five own5 j hjl
      have HST := own_book own5 j hjl ⟨nm, sz, .slice (some ⟨g5, 0, none⟩) rs.length rs.length, rs, fx, ep⟩
      have hset : (ms ++ zs.drop j).set j ⟨nm, sz, .slice (some ⟨g5, 0, none⟩) rs.length rs.length, rs, fx, ep⟩ = (ms ++ [⟨nm, sz, .slice (some ⟨g5, 0, none⟩) rs.length rs.length, rs, fx, ep⟩]) ++ zs.drop (j + 1) := by
        rw [List.set_append_right _ _ (by omega), hml, Nat.sub_self, HP.out.2.2, List.set_cons_zero, List.append_assoc]
        rfl
      rw [hset] at HST
      simp only at HST
      have hs5 : w.heap.size < w5.heap.size := Nat.lt_of_lt_of_le hsz b5.size
      have uu : Upto w.heap.size w5 (((((w5.setCell ⟨w.heap.size, j * 5, none⟩ (.string nm)).setCell ⟨w.heap.size, j * 5 + 1, none⟩ (.int .i64 sz)).setCell ⟨w.heap.size, j * 5 + 2, none⟩ (.slice (some ⟨g5, 0, none⟩) rs.length rs.length)).setCell ⟨w.heap.size, j * 5 + 3, none⟩ (.bool fx)).setCell ⟨w.heap.size, j * 5 + 4, none⟩ (.int .i64 ep)) := (((((Upto.refl _ _).setCell ⟨w.heap.size, j * 5, none⟩ (.inl rfl) _).setCell ⟨w.heap.size, j * 5 + 1, none⟩ (.inl rfl) _).setCell ⟨w.heap.size, j * 5 + 2, none⟩ (.inl rfl) _).setCell ⟨w.heap.size, j * 5 + 3, none⟩ (.inl rfl) _).setCell ⟨w.heap.size, j * 5 + 4, none⟩ (.inl rfl) _
      have hbf := (bw_call hb b5).trans (uu.toBelow (Nat.le_of_lt hs5) (Nat.le_refl _))
      have hms : ∀ b ∈ ms ++ [⟨nm, sz, .slice (some ⟨g5, 0, none⟩) rs.length rs.length, rs, fx, ep⟩], (((((w5.setCell ⟨w.heap.size, j * 5, none⟩ (.string nm)).setCell ⟨w.heap.size, j * 5 + 1, none⟩ (.int .i64 sz)).setCell ⟨w.heap.size, j * 5 + 2, none⟩ (.slice (some ⟨g5, 0, none⟩) rs.length rs.length)).setCell ⟨w.heap.size, j * 5 + 3, none⟩ (.bool fx)).setCell ⟨w.heap.size, j * 5 + 4, none⟩ (.int .i64 ep)).ownsRow (w.heap.size + 1) 78 3 b.m b.rs.length (b.rs.flatMap runC) := fun b hbm => by
        rcases List.mem_append.1 hbm with y | y
        · exact ownsRow_upto (owns_below (HO.out.2 b y) b5) uu (by omega)
        · simp only [List.mem_singleton] at y
          subst y
          exact ownsRow_upto (owns_mono og (by omega)) uu (by omega)
      have hpn : (ms ++ [(⟨nm, sz, .slice (some ⟨g5, 0, none⟩) rs.length rs.length, rs, fx, ep⟩ : Bk)]).map plainB = (bs.take (j + 1)).map plainB := by rw [HP.out.2.1, List.map_append, HP.out.1]; rfl
      have HF : Hid _ := And.intro hpn (And.intro HST (And.intro hms (And.intro hbf (Nat.lt_of_lt_of_le hs5 uu.size))))
      generalize (ms ++ zs.drop j)[j] = y at t0 t1 t2 t3 t4
      obtain ⟨yn, ys, ym, yr, yf, ye⟩ := y
      simp only at t0 t1 t2 t3 t4
      clear hpn HST hms hbf uu own5 og b5 HO HP hset hb hs5 a0 a1 a2 a3 a4 rm rl
      go_wp2_with fail
      go_roundw
      case rel => exact ⟨j + 1, _, by omega, by go_num, HF.out⟩
      case measure => simp [intOf]; omega
    · have hjj : j = bs.length := by omega
      have HF : Hid (ms.map plainB = bs.map plainB ∧ OwnB w.heap.size wr (.slice (some ⟨w.heap.size, 0, none⟩) bs.length bs.length) ms) := by
        rw [hjj, List.take_length] at hpl
        rw [hjj, List.drop_of_length_le (by omega), List.append_nil] at own
        exact ⟨hpl, own, fun b hbm => owns_mono (oms b hbm) (by omega)⟩
      clear hpl own oms
      go_wp2_with fail
      go_ret
      exact ⟨ms, rfl, HF.out.1, HF.out.2, hb⟩

end Go.Proofs.Ytehjahegokeofak
