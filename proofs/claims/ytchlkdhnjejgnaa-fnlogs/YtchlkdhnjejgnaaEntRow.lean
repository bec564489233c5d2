/-
  The laws' helpers on a row of entries: copied, the same.
-/
import Derived.Test.YtchlkdhnjejgnaaEntLaw
import Derived.Test.YtchlkdhnjejgnaaRuns
namespace Go.Proofs.Ytchlkdhnjejgnaa
open Go.RowKit
set_option linter.unusedVariables false
set_option maxRecDepth 100000

theorem Try.infoEntry : (Try.prog.info? 56).map (fun i => (i.zero, i.size, i.bytes)) = some (some (.agg #[.int .i64 0, .int .i64 0, .int .i64 0, .int .i64 0, .string ByteArray.empty, .string ByteArray.empty, .int .i64 0, .int .i64 0, .int .i64 0]), 9, 88) := by kernel_rfl

/-- make([]impl.Entry, n): a row of zero entries, at the end of memory. -/
theorem made_entries (n : Nat) (hn : n ≤ 1048576) : ∃ M : Array Value, (∀ W : World, (Instr.makeSlice 48 (.int .i64 (n : Int)) (.int .i64 (n : Int))).run Try.prog W = .ok (.slice (some ⟨W.heap.size, 0, none⟩) n n) (W.alloc (.cells M 56))) ∧
    ∀ (W : World) (base : Nat), base ≤ W.heap.size → (W.alloc (.cells M 56)).ownsRow base 56 9 (.slice (some ⟨W.heap.size, 0, none⟩) n n) (List.replicate n Ent.zero).length ((List.replicate n Ent.zero).flatMap entC) := by
  obtain ⟨i0, hi, hz0, hz1, hz2⟩ := info_parts Try.infoEntry
  have e := toList_made (cs := entC) entC_len (by omega) Ent.zero (Value.agg #[.int .i64 0, .int .i64 0, .int .i64 0, .int .i64 0, .string ByteArray.empty, .string ByteArray.empty, .int .i64 0, .int .i64 0, .int .i64 0]).cells rfl n
  refine ⟨madeCells (Value.agg #[.int .i64 0, .int .i64 0, .int .i64 0, .int .i64 0, .string ByteArray.empty, .string ByteArray.empty, .int .i64 0, .int .i64 0, .int .i64 0]).cells (n * 9), fun W => ?_, fun W base hb => ?_⟩
  · have h := run_make (P := Try.prog) W 48 56 i0 (.agg #[.int .i64 0, .int .i64 0, .int .i64 0, .int .i64 0, .string ByteArray.empty, .string ByteArray.empty, .int .i64 0, .int .i64 0, .int .i64 0]) Try.underlying48 hi hz0 .i64 .i64 (n : Int) (n : Int) (by omega) (by omega) (by rw [hz2]; omega) (by omega)
    rw [hz1, Int.toNat_natCast] at h
    simpa using h
  · have h := World.ownsRow_lit (base := base) (size := 9) (e := 56) W (madeCells (Value.agg #[.int .i64 0, .int .i64 0, .int .i64 0, .int .i64 0, .string ByteArray.empty, .string ByteArray.empty, .int .i64 0, .int .i64 0, .int .i64 0]).cells (n * 9)) n hb (by unfold maxLen; omega) (by rw [size_madeCells])
    rw [e] at h
    rwa [List.length_replicate]

/-- A whole entry is written. -/
theorem own_entry {w : World} {base g n cap : Nat} {xs : List Ent} (h : w.ownsRow base 56 9 (.slice (some ⟨g, 0, none⟩) n cap) xs.length (xs.flatMap entC)) (i : Nat) (hi : i < xs.length) (y : Ent) :
    (((((((((w.setCell ⟨g, i * 9, none⟩ (.int .i64 y.sq)).setCell ⟨g, i * 9 + 1, none⟩ (.int .i64 y.cl)).setCell ⟨g, i * 9 + 2, none⟩ (.int .i64 y.tg)).setCell ⟨g, i * 9 + 3, none⟩ (.int .i64 y.o.k)).setCell ⟨g, i * 9 + 4, none⟩ (.string y.o.nm)).setCell ⟨g, i * 9 + 5, none⟩ (.string y.o.ot)).setCell ⟨g, i * 9 + 6, none⟩ (.int .i64 y.o.at_)).setCell ⟨g, i * 9 + 7, none⟩ (.int .i64 y.o.va)).setCell ⟨g, i * 9 + 8, none⟩ (.int .i64 y.o.ep)).ownsRow base 56 9 (.slice (some ⟨g, 0, none⟩) n cap) (xs.set i y).length ((xs.set i y).flatMap entC) := by
  obtain ⟨x, hx⟩ : ∃ x, xs[i] = x := ⟨_, rfl⟩
  have hxi : xs[i]? = some x := by rw [List.getElem?_eq_getElem hi, hx]
  have h0 := own_put entC_len h i 0 x ⟨y.sq, x.cl, x.tg, ⟨x.o.k, x.o.nm, x.o.ot, x.o.at_, x.o.va, x.o.ep⟩⟩ (.int .i64 y.sq) hxi (by omega) rfl
  have h1 := own_put entC_len h0 i 1 ⟨y.sq, x.cl, x.tg, ⟨x.o.k, x.o.nm, x.o.ot, x.o.at_, x.o.va, x.o.ep⟩⟩ ⟨y.sq, y.cl, x.tg, ⟨x.o.k, x.o.nm, x.o.ot, x.o.at_, x.o.va, x.o.ep⟩⟩ (.int .i64 y.cl) (by simp [hi]) (by omega) rfl
  have h2 := own_put entC_len h1 i 2 ⟨y.sq, y.cl, x.tg, ⟨x.o.k, x.o.nm, x.o.ot, x.o.at_, x.o.va, x.o.ep⟩⟩ ⟨y.sq, y.cl, y.tg, ⟨x.o.k, x.o.nm, x.o.ot, x.o.at_, x.o.va, x.o.ep⟩⟩ (.int .i64 y.tg) (by simp [hi]) (by omega) rfl
  have h3 := own_put entC_len h2 i 3 ⟨y.sq, y.cl, y.tg, ⟨x.o.k, x.o.nm, x.o.ot, x.o.at_, x.o.va, x.o.ep⟩⟩ ⟨y.sq, y.cl, y.tg, ⟨y.o.k, x.o.nm, x.o.ot, x.o.at_, x.o.va, x.o.ep⟩⟩ (.int .i64 y.o.k) (by simp [hi]) (by omega) rfl
  have h4 := own_put entC_len h3 i 4 ⟨y.sq, y.cl, y.tg, ⟨y.o.k, x.o.nm, x.o.ot, x.o.at_, x.o.va, x.o.ep⟩⟩ ⟨y.sq, y.cl, y.tg, ⟨y.o.k, y.o.nm, x.o.ot, x.o.at_, x.o.va, x.o.ep⟩⟩ (.string y.o.nm) (by simp [hi]) (by omega) rfl
  have h5 := own_put entC_len h4 i 5 ⟨y.sq, y.cl, y.tg, ⟨y.o.k, y.o.nm, x.o.ot, x.o.at_, x.o.va, x.o.ep⟩⟩ ⟨y.sq, y.cl, y.tg, ⟨y.o.k, y.o.nm, y.o.ot, x.o.at_, x.o.va, x.o.ep⟩⟩ (.string y.o.ot) (by simp [hi]) (by omega) rfl
  have h6 := own_put entC_len h5 i 6 ⟨y.sq, y.cl, y.tg, ⟨y.o.k, y.o.nm, y.o.ot, x.o.at_, x.o.va, x.o.ep⟩⟩ ⟨y.sq, y.cl, y.tg, ⟨y.o.k, y.o.nm, y.o.ot, y.o.at_, x.o.va, x.o.ep⟩⟩ (.int .i64 y.o.at_) (by simp [hi]) (by omega) rfl
  have h7 := own_put entC_len h6 i 7 ⟨y.sq, y.cl, y.tg, ⟨y.o.k, y.o.nm, y.o.ot, y.o.at_, x.o.va, x.o.ep⟩⟩ ⟨y.sq, y.cl, y.tg, ⟨y.o.k, y.o.nm, y.o.ot, y.o.at_, y.o.va, x.o.ep⟩⟩ (.int .i64 y.o.va) (by simp [hi]) (by omega) rfl
  have h8 := own_put entC_len h7 i 8 ⟨y.sq, y.cl, y.tg, ⟨y.o.k, y.o.nm, y.o.ot, y.o.at_, y.o.va, x.o.ep⟩⟩ y (.int .i64 y.o.ep) (by simp [hi]) (by omega) rfl
  rw [List.set_set, List.set_set, List.set_set, List.set_set, List.set_set, List.set_set, List.set_set, List.set_set] at h8
  exact h8
theorem own_nine {w : World} {base g n cap : Nat} {xs : List Ent} (h : w.ownsRow base 56 9 (.slice (some ⟨g, 0, none⟩) n cap) xs.length (xs.flatMap entC)) (i : Nat) (hi : i < xs.length) :
    (w.cell? ⟨g, i * 9, none⟩ = some (.int .i64 xs[i].sq) ∧ w.cell? ⟨g, i * 9 + 1, none⟩ = some (.int .i64 xs[i].cl) ∧ w.cell? ⟨g, i * 9 + 2, none⟩ = some (.int .i64 xs[i].tg) ∧ w.cell? ⟨g, i * 9 + 3, none⟩ = some (.int .i64 xs[i].o.k) ∧ w.cell? ⟨g, i * 9 + 4, none⟩ = some (.string xs[i].o.nm) ∧ w.cell? ⟨g, i * 9 + 5, none⟩ = some (.string xs[i].o.ot) ∧ w.cell? ⟨g, i * 9 + 6, none⟩ = some (.int .i64 xs[i].o.at_) ∧ w.cell? ⟨g, i * 9 + 7, none⟩ = some (.int .i64 xs[i].o.va) ∧ w.cell? ⟨g, i * 9 + 8, none⟩ = some (.int .i64 xs[i].o.ep)) ∧ w.frozen? ⟨g, i * 9, none⟩ = false ∧ w.frozen? ⟨g, i * 9 + 1, none⟩ = false ∧ w.frozen? ⟨g, i * 9 + 2, none⟩ = false ∧ w.frozen? ⟨g, i * 9 + 3, none⟩ = false ∧ w.frozen? ⟨g, i * 9 + 4, none⟩ = false ∧ w.frozen? ⟨g, i * 9 + 5, none⟩ = false ∧ w.frozen? ⟨g, i * 9 + 6, none⟩ = false ∧ w.frozen? ⟨g, i * 9 + 7, none⟩ = false ∧ w.frozen? ⟨g, i * 9 + 8, none⟩ = false := by
  obtain ⟨a0, b0⟩ := own_cell entC_len h i 0 _ (List.getElem?_eq_getElem hi) (by omega)
  obtain ⟨a1, b1⟩ := own_cell entC_len h i 1 _ (List.getElem?_eq_getElem hi) (by omega)
  obtain ⟨a2, b2⟩ := own_cell entC_len h i 2 _ (List.getElem?_eq_getElem hi) (by omega)
  obtain ⟨a3, b3⟩ := own_cell entC_len h i 3 _ (List.getElem?_eq_getElem hi) (by omega)
  obtain ⟨a4, b4⟩ := own_cell entC_len h i 4 _ (List.getElem?_eq_getElem hi) (by omega)
  obtain ⟨a5, b5⟩ := own_cell entC_len h i 5 _ (List.getElem?_eq_getElem hi) (by omega)
  obtain ⟨a6, b6⟩ := own_cell entC_len h i 6 _ (List.getElem?_eq_getElem hi) (by omega)
  obtain ⟨a7, b7⟩ := own_cell entC_len h i 7 _ (List.getElem?_eq_getElem hi) (by omega)
  obtain ⟨a8, b8⟩ := own_cell entC_len h i 8 _ (List.getElem?_eq_getElem hi) (by omega)
  exact ⟨⟨a0, a1, a2, a3, a4, a5, a6, a7, a8⟩, b0, b1, b2, b3, b4, b5, b6, b7, b8⟩

set_option maxHeartbeats 3200000 in
theorem toEntries_any (v : Value) (bs : List Ent) (w : World) (hn : bs.length ≤ 1048576) (r : ReadsR 9 entC w.heap.size w v bs) :
    Calls Try.prog 30 #[v] w fun e w' => e = .returned (.slice (some ⟨w.heap.size, 0, none⟩) bs.length bs.length) ∧ w'.ownsRow w.heap.size 56 9 (.slice (some ⟨w.heap.size, 0, none⟩) bs.length bs.length) bs.length (bs.flatMap entC) ∧ Below w.heap.size w w' := by
  obtain ⟨o, cap, rfl, hm, hc, -⟩ := r
  have HC : Hid _ := nine_cells hc
  obtain ⟨M, hmk, hown⟩ := made_entries bs.length hn
  have own0 := hown w w.heap.size (Nat.le_refl _)
  have bd0 : Below w.heap.size w (w.alloc (.cells M 56)) := bw_alloc (Below.refl _ _)
  clear hown hc hm
  go_enter Try.func30, Try.ntmps30
  go_wp2_with fail
  generalize w.alloc (.cells M 56) = W0 at own0 bd0 ⊢
  generalize hzs : List.replicate bs.length Ent.zero = zs at own0
  have hzl : zs.length = bs.length := by rw [← hzs]; simp
  clear hmk hzs
  go_loopw [4] (fun i wr => ∃ j : Nat, j ≤ bs.length ∧ i = .int .i64 j ∧ wr.ownsRow w.heap.size 56 9 (.slice (some ⟨w.heap.size, 0, none⟩) bs.length bs.length) (bs.take j ++ zs.drop j).length ((bs.take j ++ zs.drop j).flatMap entC) ∧ Below w.heap.size w wr ∧ w.heap.size < wr.heap.size) (fun i _ => bs.length - (intOf i).toNat)
  case atStart => exact ⟨0, Nat.zero_le _, rfl, by simpa using own0, bd0, (own0.lt _ rfl).2⟩
  case round =>
    obtain ⟨j, hj, rfl, own, hb, hsz⟩ := hrel
    by_cases hlt : j < bs.length
    · obtain ⟨g, off, rfl, hg, a0, a1, a2, a3, a4, a5, a6, a7, a8⟩ := HC.out j hlt
      have hset : (bs.take j ++ zs.drop j).set j bs[j] = bs.take (j + 1) ++ zs.drop (j + 1) := by
        rw [List.set_append_right _ _ (by rw [List.length_take]; omega), List.length_take, Nat.min_eq_left (by omega), Nat.sub_self, List.drop_eq_getElem_cons (show j < zs.length by omega), List.set_cons_zero, List.take_succ_eq_append_getElem hlt, List.append_assoc]
        rfl
      obtain ⟨x, hx⟩ : ∃ x, bs[j] = x := ⟨_, rfl⟩
      rw [hx] at a0 a1 a2 a3 a4 a5 a6 a7 a8 hset
      clear hx HC
      obtain ⟨sq, cl, tg, ⟨k1, nm, ot, at_, va, ep⟩⟩ := x
      simp only at a0 a1 a2 a3 a4 a5 a6 a7 a8
      replace a0 := (hb.cell (p := ⟨g, off + j * 9, none⟩) hg).trans a0
      replace a1 := (hb.cell (p := ⟨g, off + j * 9 + 1, none⟩) hg).trans a1
      replace a2 := (hb.cell (p := ⟨g, off + j * 9 + 2, none⟩) hg).trans a2
      replace a3 := (hb.cell (p := ⟨g, off + j * 9 + 3, none⟩) hg).trans a3
      replace a4 := (hb.cell (p := ⟨g, off + j * 9 + 4, none⟩) hg).trans a4
      replace a5 := (hb.cell (p := ⟨g, off + j * 9 + 5, none⟩) hg).trans a5
      replace a6 := (hb.cell (p := ⟨g, off + j * 9 + 6, none⟩) hg).trans a6
      replace a7 := (hb.cell (p := ⟨g, off + j * 9 + 7, none⟩) hg).trans a7
      replace a8 := (hb.cell (p := ⟨g, off + j * 9 + 8, none⟩) hg).trans a8
      have HO : Hid (wr.ownsRow w.heap.size 56 9 (.slice (some ⟨w.heap.size, 0, none⟩) bs.length bs.length) (bs.take j ++ zs.drop j).length ((bs.take j ++ zs.drop j).flatMap entC)) := own
      clear own
      go_wp2_with fail
      refine (toEntry_any sq cl tg k1 nm ot at_ va ep _).mono ?_
      rintro e w5 ⟨rfl, b5⟩
      have own5 := owns_below HO.out b5
      have hjl : j < (bs.take j ++ zs.drop j).length := by simp; omega
      obtain ⟨⟨t0, t1, t2, t3, t4, t5, t6, t7, t8⟩, u0, u1, u2, u3, u4, u5, u6, u7, u8⟩ := own_nine own5 j hjl
      have HST := own_entry own5 j hjl ⟨sq, cl, tg, ⟨k1, nm, ot, at_, va, ep⟩⟩
      rw [hset] at HST
      simp only at HST
      have hs5 : w.heap.size < w5.heap.size := Nat.lt_of_lt_of_le hsz b5.size
      have uu : Upto w.heap.size w5 (((((((((w5.setCell ⟨w.heap.size, j * 9, none⟩ (.int .i64 sq)).setCell ⟨w.heap.size, j * 9 + 1, none⟩ (.int .i64 cl)).setCell ⟨w.heap.size, j * 9 + 2, none⟩ (.int .i64 tg)).setCell ⟨w.heap.size, j * 9 + 3, none⟩ (.int .i64 k1)).setCell ⟨w.heap.size, j * 9 + 4, none⟩ (.string nm)).setCell ⟨w.heap.size, j * 9 + 5, none⟩ (.string ot)).setCell ⟨w.heap.size, j * 9 + 6, none⟩ (.int .i64 at_)).setCell ⟨w.heap.size, j * 9 + 7, none⟩ (.int .i64 va)).setCell ⟨w.heap.size, j * 9 + 8, none⟩ (.int .i64 ep)) := (((((((((Upto.refl _ _).setCell ⟨w.heap.size, j * 9, none⟩ (.inl rfl) _).setCell ⟨w.heap.size, j * 9 + 1, none⟩ (.inl rfl) _).setCell ⟨w.heap.size, j * 9 + 2, none⟩ (.inl rfl) _).setCell ⟨w.heap.size, j * 9 + 3, none⟩ (.inl rfl) _).setCell ⟨w.heap.size, j * 9 + 4, none⟩ (.inl rfl) _).setCell ⟨w.heap.size, j * 9 + 5, none⟩ (.inl rfl) _).setCell ⟨w.heap.size, j * 9 + 6, none⟩ (.inl rfl) _).setCell ⟨w.heap.size, j * 9 + 7, none⟩ (.inl rfl) _).setCell ⟨w.heap.size, j * 9 + 8, none⟩ (.inl rfl) _
      have hbf := (bw_call hb b5).trans (uu.toBelow (Nat.le_of_lt hs5) (Nat.le_refl _))
      have HF : Hid _ := And.intro HST (And.intro hbf (Nat.lt_of_lt_of_le hs5 uu.size))
      generalize (bs.take j ++ zs.drop j)[j] = y at t0 t1 t2 t3 t4 t5 t6 t7 t8
      clear HST hbf uu own5 b5 HO hset hb hs5 a0 a1 a2 a3 a4 a5 a6 a7 a8
      go_wp2_with fail
      go_roundw
      case rel => exact ⟨j + 1, by omega, by go_num, HF.out⟩
      case measure => simp [intOf]; omega
    · have hjj : j = bs.length := by omega
      have HF : Hid (wr.ownsRow w.heap.size 56 9 (.slice (some ⟨w.heap.size, 0, none⟩) bs.length bs.length) bs.length (bs.flatMap entC)) := by
        rw [hjj, List.take_length, List.drop_of_length_le (by omega), List.append_nil] at own
        exact own
      clear own
      go_wp2_with fail
      go_ret
      exact ⟨rfl, HF.out, hb⟩

set_option maxHeartbeats 3200000 in
theorem eqEntries_same (v v' : Value) (bs : List Ent) (w : World) (r : ReadsR 9 entC w.heap.size w v bs) (r' : ReadsR 9 entC w.heap.size w v' bs) :
    Calls Try.prog 31 #[v, v'] w fun e w' => e = .returned (.bool true) ∧ Below w.heap.size w w' := by
  obtain ⟨o1, cap1, rfl, m1, c1, -⟩ := r
  obtain ⟨o2, cap2, rfl, m2, c2, -⟩ := r'
  have C1 : Hid _ := nine_cells c1
  have C2 : Hid _ := nine_cells c2
  unfold maxLen at m1
  clear c1 c2 m2
  go_enter Try.func31, Try.ntmps31
  go_wp2
  go_loopw [5] (fun i wr => ∃ k : Nat, k ≤ bs.length ∧ i = .int .i64 k ∧ Below w.heap.size w wr) (fun i _ => bs.length - (intOf i).toNat)
  case atStart => exact ⟨0, Nat.zero_le _, rfl, Below.refl _ _⟩
  case round =>
    obtain ⟨k, hk, rfl, hb⟩ := hrel
    by_cases hlt : k < bs.length
    · obtain ⟨g1, of1, rfl, q1, a0, a1, a2, a3, a4, a5, a6, a7, a8⟩ := C1.out k hlt
      obtain ⟨g2, of2, rfl, q2, b0, b1, b2, b3, b4, b5, b6, b7, b8⟩ := C2.out k hlt
      generalize bs[k] = x at a0 a1 a2 a3 a4 a5 a6 a7 a8 b0 b1 b2 b3 b4 b5 b6 b7 b8
      obtain ⟨sq, cl, tg, ⟨k1, nm, ot, at_, va, ep⟩⟩ := x
      simp only at a0 a1 a2 a3 a4 a5 a6 a7 a8 b0 b1 b2 b3 b4 b5 b6 b7 b8
      have hne := BelowOf.any wr
      have l1 : g1 < wr.heap.size := Nat.lt_of_lt_of_le q1 hb.size
      have l2 : g2 < wr.heap.size := Nat.lt_of_lt_of_le q2 hb.size
      have HEQ : ∀ q : BelowOf wr, Calls Try.prog 58 #[.agg #[.int .i64 sq, .int .i64 cl, .int .i64 tg, .int .i64 k1, .string nm, .string ot, .int .i64 at_, .int .i64 va, .int .i64 ep], .agg #[.int .i64 sq, .int .i64 cl, .int .i64 tg, .int .i64 k1, .string nm, .string ot, .int .i64 at_, .int .i64 va, .int .i64 ep]] q.w' fun e w' => e = .returned (.bool true) ∧ Below q.w'.heap.size q.w' w' := fun q => eqEntry_same sq cl tg k1 nm ot at_ va ep q.w'
      have d0 := BelowOf.cell ((hb.cell (p := ⟨g1, of1 + k * 9, none⟩) q1).trans a0) l1
      have f0 := BelowOf.cell ((hb.cell (p := ⟨g2, of2 + k * 9, none⟩) q2).trans b0) l2
      have d1 := BelowOf.cell ((hb.cell (p := ⟨g1, of1 + k * 9 + 1, none⟩) q1).trans a1) l1
      have f1 := BelowOf.cell ((hb.cell (p := ⟨g2, of2 + k * 9 + 1, none⟩) q2).trans b1) l2
      have d2 := BelowOf.cell ((hb.cell (p := ⟨g1, of1 + k * 9 + 2, none⟩) q1).trans a2) l1
      have f2 := BelowOf.cell ((hb.cell (p := ⟨g2, of2 + k * 9 + 2, none⟩) q2).trans b2) l2
      have d3 := BelowOf.cell ((hb.cell (p := ⟨g1, of1 + k * 9 + 3, none⟩) q1).trans a3) l1
      have f3 := BelowOf.cell ((hb.cell (p := ⟨g2, of2 + k * 9 + 3, none⟩) q2).trans b3) l2
      have d4 := BelowOf.cell ((hb.cell (p := ⟨g1, of1 + k * 9 + 4, none⟩) q1).trans a4) l1
      have f4 := BelowOf.cell ((hb.cell (p := ⟨g2, of2 + k * 9 + 4, none⟩) q2).trans b4) l2
      have d5 := BelowOf.cell ((hb.cell (p := ⟨g1, of1 + k * 9 + 5, none⟩) q1).trans a5) l1
      have f5 := BelowOf.cell ((hb.cell (p := ⟨g2, of2 + k * 9 + 5, none⟩) q2).trans b5) l2
      have d6 := BelowOf.cell ((hb.cell (p := ⟨g1, of1 + k * 9 + 6, none⟩) q1).trans a6) l1
      have f6 := BelowOf.cell ((hb.cell (p := ⟨g2, of2 + k * 9 + 6, none⟩) q2).trans b6) l2
      have d7 := BelowOf.cell ((hb.cell (p := ⟨g1, of1 + k * 9 + 7, none⟩) q1).trans a7) l1
      have f7 := BelowOf.cell ((hb.cell (p := ⟨g2, of2 + k * 9 + 7, none⟩) q2).trans b7) l2
      have d8 := BelowOf.cell ((hb.cell (p := ⟨g1, of1 + k * 9 + 8, none⟩) q1).trans a8) l1
      have f8 := BelowOf.cell ((hb.cell (p := ⟨g2, of2 + k * 9 + 8, none⟩) q2).trans b8) l2
      have g1' : (0 : Int) ≤ (k : Int) := by omega
      have g2' : (k : Int) < (bs.length : Int) := by omega
      clear a0 a1 a2 a3 a4 a5 a6 a7 a8 b0 b1 b2 b3 b4 b5 b6 b7 b8 C1 C2
      go_wp2_with fail
      refine wp_region_of (by kernel_rfl) (by kernel_rfl) ?_
      repeat (go_big_quiet_step ((first | (go_at_call 58; exact calls_of (HEQ _)) | rfl)))
      refine wpQuiet_nil ?_
      intro w5 hw5
      obtain ⟨⟨wx, cx⟩, hwx⟩ := hw5
      have b5 : Below wr.heap.size wr w5 := by rw [hwx]; exact cx
      have hb5 := hb.trans (b5.mono hb.size)
      clear hwx cx wx hne d0 d1 d2 d3 d4 d5 d6 d7 d8 f0 f1 f2 f3 f4 f5 f6 f7 f8 HEQ
      go_wp2_with fail
      go_roundw
      case rel => exact ⟨k + 1, by omega, by go_num, hb5⟩
      case measure => simp [intOf]; omega
    · go_wp2
      go_ret
      exact ⟨rfl, hb⟩

end Go.Proofs.Ytchlkdhnjejgnaa
