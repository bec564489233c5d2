/-
  Contracts and plain laws, one chapter behind the other.
-/
import Derived.Test.YtaekdfknkgmfbaaGreatDoorRows
import Derived.ChangeSame
import Derived.ChangeVars
import Derived.RowKit
import Derived.RowKitTokens
import Derived.LaidLaws
import Derived.LaidHandle
import Derived.LaidSub
import Derived.Stop.LaidErr
import Derived.Stop.LaidTwo
import Derived.Test.YtaekdfknkgmfbaaGreatDoorTie
import Derived.Test.YtaekdfknkgmfbaaGreatDoorCards
import Derived.SevenTiedAt
import Derived.JoinedOf
import Derived.ProofKit
import Derived.Laws.Bits128
import Derived.IntWalk
import Derived.Test.YtaekdfknkgmfbaaGreatDoorChecked
import Derived.WalkKit
import Derived.WalkSpells
import Derived.Handy
import Derived.Below
import Derived.Deep.QuietTactic
import Derived.BigQuiet
import Derived.OpenShut
import Derived.ShutString
import Derived.Lib.SmallJoins
import Derived.SliceStrings
import Derived.ChangeSlices
import Derived.Test.YtaekdfknkgmfbaaGreatDoorM01
import Derived.Test.YtaekdfknkgmfbaaGreatDoorM04
namespace Go.Proofs.YtaekdfknkgmfbaaGreatDoor
open Go.RowKit

set_option linter.unusedVariables false

set_option maxRecDepth 100000


/-- All of a book but where its map lies. -/
def plainB (b : Bk) : ByteArray × Int × List (Int × Int × Int) × Bool × Int := (b.nm, b.sz, b.rs, b.fx, b.ep)

theorem plain_len {bs ms : List Bk} (h : ms.map plainB = bs.map plainB) : ms.length = bs.length := by simpa using congrArg List.length h

theorem plain_at {bs ms : List Bk} (h : ms.map plainB = bs.map plainB) (k : Nat) (h1 : k < ms.length) (h2 : k < bs.length) : plainB ms[k] = plainB bs[k] := by
  have e : (ms.map plainB)[k]? = (bs.map plainB)[k]? := by rw [h]
  simpa [h1, h2] using e

/-- A book's five cells in a row. -/
theorem five_cells {B : Nat} {w : World} {o : Option Addr} {bs : List Bk} (hc : ∀ i x, bs[i]? = some x → ∃ g off, o = some ⟨g, off, none⟩ ∧ g < B ∧ ∀ j u, (bookC x)[j]? = some u → w.cell? ⟨g, off + i * 5 + j, none⟩ = some u) (i : Nat) (hi : i < bs.length) :
    ∃ g off, o = some ⟨g, off, none⟩ ∧ g < B ∧ w.cell? ⟨g, off + i * 5, none⟩ = some (.string bs[i].nm) ∧ w.cell? ⟨g, off + i * 5 + 1, none⟩ = some (.int .i64 bs[i].sz) ∧ w.cell? ⟨g, off + i * 5 + 2, none⟩ = some bs[i].m ∧ w.cell? ⟨g, off + i * 5 + 3, none⟩ = some (.bool bs[i].fx) ∧ w.cell? ⟨g, off + i * 5 + 4, none⟩ = some (.int .i64 bs[i].ep) := by
  obtain ⟨g, off, e, hg, hx⟩ := hc i bs[i] (List.getElem?_eq_getElem hi)
  exact ⟨g, off, e, hg, hx 0 _ rfl, hx 1 _ rfl, hx 2 _ rfl, hx 3 _ rfl, hx 4 _ rfl⟩

set_option maxHeartbeats 1600000 in
theorem szBooks_any (v : Value) (bs : List Bk) (left : Int) (w : World) (h0 : 0 ≤ left) (hl : left ≤ 1048576) (hn : ∀ b ∈ bs, b.nm.size ≤ maxLen) (r : ReadsB w.heap.size w v bs) :
    Calls Tryz.prog 106 #[v, .int .i64 left] w fun e w' => ∃ q : Int, e = .returned (.int .i64 q) ∧ (q = -1 ∨ (0 ≤ q ∧ q ≤ left ∧ bs.length ≤ 1048576 ∧ ∀ b ∈ bs, b.nm.size ≤ 1048576 ∧ b.rs.length ≤ 1048576)) ∧ Below w.heap.size w w' := by
  have RM : Hid _ := r.maps
  have RN : Hid _ := hn
  obtain ⟨o, cap, rfl, hm, hc, -⟩ := r.row
  have HC : Hid _ := five_cells hc
  unfold maxLen at hm
  clear hc r hn
  by_cases hbig : left < (bs.length : Int)
  · have h1 : left - (bs.length : Int) < 0 := by omega
    go_enter Tryz.func106, Tryz.ntmps106
    go_wp2_with fail
    go_ret
    exact ⟨-1, rfl, .inl rfl, Below.refl _ _⟩
  · have h1 : 0 ≤ left - (bs.length : Int) := by omega
    go_enter Tryz.func106, Tryz.ntmps106
    go_wp2_with fail
    go_loopw [1, 5] (fun q i wr => ∃ (k : Nat) (l : Int), k ≤ bs.length ∧ i = .int .i64 k ∧ q = .int .i64 l ∧ (0 ≤ l ∧ l ≤ left) ∧ (∀ j (hj : j < bs.length), j < k → bs[j].nm.size ≤ 1048576 ∧ bs[j].rs.length ≤ 1048576) ∧ Below w.heap.size w wr) (fun _ i _ => bs.length - (intOf i).toNat)
    case atStart => exact ⟨0, left - (bs.length : Int), Nat.zero_le _, rfl, rfl, by omega, fun j _ hj => by omega, Below.refl _ _⟩
    case round =>
      obtain ⟨k, l, hk, rfl, rfl, hlq, hall, hb⟩ := hrel
      have HA : Hid _ := hall
      clear hall
      by_cases hlt : k < bs.length
      · obtain ⟨g, off, rfl, hg, a0, a1, a2, a3, a4⟩ := HC.out k hlt
        have rm := ((RM.out bs[k] (List.getElem_mem hlt)).below hb).mono hb.size
        have rn := RN.out bs[k] (List.getElem_mem hlt)
        obtain ⟨x, hx⟩ : ∃ x, bs[k] = x := ⟨_, rfl⟩
        have HX : Hid (bs[k] = x) := hx
        rw [hx] at a0 a1 a2 a3 a4 rm rn
        clear hx HC RM RN
        obtain ⟨nm, sz, m, rs, fx, ep⟩ := x
        simp only at a0 a1 a2 a3 a4 rm rn
        obtain ⟨o', cap', rfl⟩ := rm.form
        replace a0 := (hb.cell (p := ⟨g, off + k * 5, none⟩) hg).trans a0
        replace a1 := (hb.cell (p := ⟨g, off + k * 5 + 1, none⟩) hg).trans a1
        replace a2 := (hb.cell (p := ⟨g, off + k * 5 + 2, none⟩) hg).trans a2
        replace a3 := (hb.cell (p := ⟨g, off + k * 5 + 3, none⟩) hg).trans a3
        replace a4 := (hb.cell (p := ⟨g, off + k * 5 + 4, none⟩) hg).trans a4
        go_wp2_with fail
        refine (szBook_any nm sz _ rs fx ep l _ rn hlq.1 (by omega) rm).mono ?_
        rintro e w1 ⟨q, rfl, hq, b1⟩
        replace hb := bw_call hb b1
        clear a0 a1 a2 a3 a4 b1 rm rn
        rcases hq with rfl | ⟨hq0, hq1, hq2, hq3⟩
        · go_wp2_with fail
          go_ret
          exact ⟨-1, rfl, .inl rfl, hb⟩
        · have HN : Hid (∀ j (hj : j < bs.length), j < k + 1 → bs[j].nm.size ≤ 1048576 ∧ bs[j].rs.length ≤ 1048576) := fun j hj hjk => by
            rcases Nat.lt_or_ge j k with y | y
            · exact HA.out j hj y
            · obtain rfl : j = k := by omega
              rw [HX.out]
              exact ⟨hq2, hq3⟩
          clear HA HX hq2 hq3
          go_wp2_with fail
          go_roundw
          case rel => exact ⟨k + 1, q, by omega, by go_num, rfl, by omega, HN.out, hb⟩
          case measure => simp [intOf]; omega
      · have HB : Hid (∀ b ∈ bs, b.nm.size ≤ 1048576 ∧ b.rs.length ≤ 1048576) := fun b hbm => by
          obtain ⟨j, hj, rfl⟩ := List.getElem_of_mem hbm
          exact HA.out j hj (by omega)
        clear HA HC RM RN
        go_wp2_with fail
        go_ret
        exact ⟨l, rfl, .inr ⟨hlq.1, hlq.2, by omega, HB.out⟩, hb⟩

theorem Tryz.infoBook : (Tryz.prog.info? 48).map (fun i => (i.zero, i.size, i.bytes)) = some (some (.agg #[.string ByteArray.empty, .int .i64 0, .slice none 0 0, .bool false, .int .i64 0]), 5, 64) := by kernel_rfl

def zeroBk : Bk := ⟨ByteArray.empty, 0, .slice none 0 0, [], false, 0⟩

/-- make([]impl.Book, n): a row of zero books, at the end of memory. -/
theorem made_books (n : Nat) (hn : n ≤ 1048576) : ∃ M : Array Value, (∀ W : World, (Instr.makeSlice 27 (.int .i64 (n : Int)) (.int .i64 (n : Int))).run Tryz.prog W = .ok (.slice (some ⟨W.heap.size, 0, none⟩) n n) (W.alloc (.cells M 48))) ∧
    ∀ (W : World) (base : Nat), base ≤ W.heap.size → (W.alloc (.cells M 48)).ownsRow base 48 5 (.slice (some ⟨W.heap.size, 0, none⟩) n n) (List.replicate n zeroBk).length ((List.replicate n zeroBk).flatMap bookC) := by
  obtain ⟨i0, hi, hz0, hz1, hz2⟩ := info_parts Tryz.infoBook
  have e := toList_made (cs := bookC) bookC_len (by omega) zeroBk (Value.agg #[.string ByteArray.empty, .int .i64 0, .slice none 0 0, .bool false, .int .i64 0]).cells rfl n
  refine ⟨madeCells (Value.agg #[.string ByteArray.empty, .int .i64 0, .slice none 0 0, .bool false, .int .i64 0]).cells (n * 5), fun W => ?_, fun W base hb => ?_⟩
  · have h := run_make (P := Tryz.prog) W 27 48 i0 (.agg #[.string ByteArray.empty, .int .i64 0, .slice none 0 0, .bool false, .int .i64 0]) Tryz.underlying27 hi hz0 .i64 .i64 (n : Int) (n : Int) (by omega) (by omega) (by rw [hz2]; omega) (by omega)
    rw [hz1, Int.toNat_natCast] at h
    simpa using h
  · have h := World.ownsRow_lit (base := base) (size := 5) (e := 48) W (madeCells (Value.agg #[.string ByteArray.empty, .int .i64 0, .slice none 0 0, .bool false, .int .i64 0]).cells (n * 5)) n hb (by unfold maxLen; omega) (by rw [size_madeCells])
    rw [e] at h
    rwa [List.length_replicate]

/-- A whole book is written. -/
theorem own_book {w : World} {base g n cap : Nat} {xs : List Bk} (h : w.ownsRow base 48 5 (.slice (some ⟨g, 0, none⟩) n cap) xs.length (xs.flatMap bookC)) (i : Nat) (hi : i < xs.length) (y : Bk) :
    (((((w.setCell ⟨g, i * 5, none⟩ (.string y.nm)).setCell ⟨g, i * 5 + 1, none⟩ (.int .i64 y.sz)).setCell ⟨g, i * 5 + 2, none⟩ y.m).setCell ⟨g, i * 5 + 3, none⟩ (.bool y.fx)).setCell ⟨g, i * 5 + 4, none⟩ (.int .i64 y.ep)).ownsRow base 48 5 (.slice (some ⟨g, 0, none⟩) n cap) (xs.set i y).length ((xs.set i y).flatMap bookC) := by
  obtain ⟨x, hx⟩ : ∃ x, xs[i] = x := ⟨_, rfl⟩
  have hxi : xs[i]? = some x := by rw [List.getElem?_eq_getElem hi, hx]
  have h1 := own_put bookC_len h i 0 x ⟨y.nm, x.sz, x.m, x.rs, x.fx, x.ep⟩ (.string y.nm) hxi (by omega) rfl
  have h2 := own_put bookC_len h1 i 1 ⟨y.nm, x.sz, x.m, x.rs, x.fx, x.ep⟩ ⟨y.nm, y.sz, x.m, x.rs, x.fx, x.ep⟩ (.int .i64 y.sz) (by simp [hi]) (by omega) rfl
  have h3 := own_put bookC_len h2 i 2 ⟨y.nm, y.sz, x.m, x.rs, x.fx, x.ep⟩ ⟨y.nm, y.sz, y.m, x.rs, x.fx, x.ep⟩ y.m (by simp [hi]) (by omega) rfl
  have h4 := own_put bookC_len h3 i 3 ⟨y.nm, y.sz, y.m, x.rs, x.fx, x.ep⟩ ⟨y.nm, y.sz, y.m, x.rs, y.fx, x.ep⟩ (.bool y.fx) (by simp [hi]) (by omega) rfl
  have h5 := own_put bookC_len h4 i 4 ⟨y.nm, y.sz, y.m, x.rs, y.fx, x.ep⟩ y (.int .i64 y.ep) (by simp [hi]) (by omega) rfl
  rw [List.set_set, List.set_set, List.set_set, List.set_set] at h5
  exact h5

theorem own_five {w : World} {base g n cap : Nat} {xs : List Bk} (h : w.ownsRow base 48 5 (.slice (some ⟨g, 0, none⟩) n cap) xs.length (xs.flatMap bookC)) (i : Nat) (hi : i < xs.length) :
    (w.cell? ⟨g, i * 5, none⟩ = some (.string xs[i].nm) ∧ w.cell? ⟨g, i * 5 + 1, none⟩ = some (.int .i64 xs[i].sz) ∧ w.cell? ⟨g, i * 5 + 2, none⟩ = some xs[i].m ∧ w.cell? ⟨g, i * 5 + 3, none⟩ = some (.bool xs[i].fx) ∧ w.cell? ⟨g, i * 5 + 4, none⟩ = some (.int .i64 xs[i].ep)) ∧ w.frozen? ⟨g, i * 5, none⟩ = false ∧ w.frozen? ⟨g, i * 5 + 1, none⟩ = false ∧ w.frozen? ⟨g, i * 5 + 2, none⟩ = false ∧ w.frozen? ⟨g, i * 5 + 3, none⟩ = false ∧ w.frozen? ⟨g, i * 5 + 4, none⟩ = false := by
  obtain ⟨a0, b0⟩ := own_cell bookC_len h i 0 _ (List.getElem?_eq_getElem hi) (by omega)
  obtain ⟨a1, b1⟩ := own_cell bookC_len h i 1 _ (List.getElem?_eq_getElem hi) (by omega)
  obtain ⟨a2, b2⟩ := own_cell bookC_len h i 2 _ (List.getElem?_eq_getElem hi) (by omega)
  obtain ⟨a3, b3⟩ := own_cell bookC_len h i 3 _ (List.getElem?_eq_getElem hi) (by omega)
  obtain ⟨a4, b4⟩ := own_cell bookC_len h i 4 _ (List.getElem?_eq_getElem hi) (by omega)
  exact ⟨⟨a0, a1, a2, a3, a4⟩, b0, b1, b2, b3, b4⟩

/-- A row of books of one's own: the row, and each map. -/
structure OwnB (base : Nat) (w : World) (v : Value) (bs : List Bk) : Prop where
  row : w.ownsRow base 48 5 v bs.length (bs.flatMap bookC)
  maps : ∀ b ∈ bs, w.ownsRow base 112 3 b.m b.rs.length (b.rs.flatMap runC)

theorem OwnB.reads {base : Nat} {w : World} {v : Value} {bs : List Bk} (h : OwnB base w v bs) : ReadsB w.heap.size w v bs := ⟨ReadsR.of_own bookC_len h.row, fun b hb => ReadsR.of_own runC_len (h.maps b hb)⟩

theorem OwnB.below {base : Nat} {w w' : World} {v : Value} {bs : List Bk} (h : OwnB base w v bs) (k : Below w.heap.size w w') : OwnB base w' v bs := ⟨owns_below h.row k, fun b hb => owns_below (h.maps b hb) k⟩

theorem OwnB.mono {base base' : Nat} {w : World} {v : Value} {bs : List Bk} (h : OwnB base w v bs) (k : base' ≤ base) : OwnB base' w v bs := ⟨owns_mono h.row k, fun b hb => owns_mono (h.maps b hb) k⟩

/-- No two maps lie in one block. -/
def ApartM (ms : List Bk) : Prop := ms.Pairwise (fun a b => ∀ g, a.m.ownBlock = some g → b.m.ownBlock ≠ some g)

theorem ApartM.snoc {ms : List Bk} (h : ApartM ms) (y : Bk) (hy : ∀ b ∈ ms, ∀ g, b.m.ownBlock = some g → y.m.ownBlock ≠ some g) : ApartM (ms ++ [y]) :=
  List.pairwise_append.2 ⟨h, List.pairwise_singleton _ _, fun a ha b hb => by simp only [List.mem_singleton] at hb; subst hb; exact hy a ha⟩

set_option maxHeartbeats 3200000 in
theorem toBooksA_any (v : Value) (bs : List Bk) (w : World) (hn : bs.length ≤ 1048576) (hr : ∀ b ∈ bs, b.rs.length ≤ 1048576) (r : ReadsB w.heap.size w v bs) :
    Calls Tryz.prog 108 #[v] w fun e w' => ∃ ms : List Bk, e = .returned (.slice (some ⟨w.heap.size, 0, none⟩) bs.length bs.length) ∧ ms.map plainB = bs.map plainB ∧ OwnB w.heap.size w' (.slice (some ⟨w.heap.size, 0, none⟩) bs.length bs.length) ms ∧ ApartM ms ∧ Below w.heap.size w w' := by
  have RM : Hid _ := r.maps
  have RL : Hid _ := hr
  obtain ⟨o, cap, rfl, hm, hc, -⟩ := r.row
  have HC : Hid _ := five_cells hc
  obtain ⟨M, hmk, hown⟩ := made_books bs.length hn
  have own0 := hown w w.heap.size (Nat.le_refl _)
  have bd0 : Below w.heap.size w (w.alloc (.cells M 48)) := bw_alloc (Below.refl _ _)
  clear hown hc hm r hr
  go_enter Tryz.func108, Tryz.ntmps108
  go_wp2_with fail
  generalize w.alloc (.cells M 48) = W0 at own0 bd0 ⊢
  generalize hzs : List.replicate bs.length zeroBk = zs at own0
  have hzl : zs.length = bs.length := by rw [← hzs]; simp
  clear hmk hzs
  go_loopw [4] (fun i wr => ∃ (j : Nat) (ms : List Bk), j ≤ bs.length ∧ i = .int .i64 j ∧ ms.map plainB = (bs.take j).map plainB ∧ wr.ownsRow w.heap.size 48 5 (.slice (some ⟨w.heap.size, 0, none⟩) bs.length bs.length) (ms ++ zs.drop j).length ((ms ++ zs.drop j).flatMap bookC) ∧ (∀ b ∈ ms, wr.ownsRow (w.heap.size + 1) 112 3 b.m b.rs.length (b.rs.flatMap runC)) ∧ ApartM ms ∧ Below w.heap.size w wr ∧ w.heap.size < wr.heap.size) (fun i _ => bs.length - (intOf i).toNat)
  case atStart => exact ⟨0, [], Nat.zero_le _, rfl, rfl, by simpa using own0, (fun b hb => by simp at hb), List.Pairwise.nil, bd0, (own0.lt _ rfl).2⟩
  case round =>
    obtain ⟨j, ms, hj, rfl, hpl, own, oms, apa, hb, hsz⟩ := hrel
    have hml : ms.length = j := by have := plain_len hpl; rw [List.length_take] at this; omega
    by_cases hlt : j < bs.length
    · obtain ⟨g, off, rfl, hg, a0, a1, a2, a3, a4⟩ := HC.out j hlt
      have rm := ((RM.out bs[j] (List.getElem_mem hlt)).below hb).mono hb.size
      have rl := RL.out bs[j] (List.getElem_mem hlt)
      have hpt : (bs.take (j + 1)).map plainB = (bs.take j).map plainB ++ [plainB bs[j]] := by rw [List.take_succ_eq_append_getElem hlt, List.map_append]; rfl
      have hdr : zs.drop j = zs[j]'(by omega) :: zs.drop (j + 1) := List.drop_eq_getElem_cons (by omega)
      generalize zs[j]'(by omega) = z at hdr
      obtain ⟨x, hx⟩ : ∃ x, bs[j] = x := ⟨_, rfl⟩
      rw [hx] at a0 a1 a2 a3 a4 rm rl hpt
      clear hx HC RM RL
      obtain ⟨nm, sz, m, rs, fx, ep⟩ := x
      simp only at a0 a1 a2 a3 a4 rm rl
      obtain ⟨o', cap', rfl⟩ := rm.form
      replace a0 := (hb.cell (p := ⟨g, off + j * 5, none⟩) hg).trans a0
      replace a1 := (hb.cell (p := ⟨g, off + j * 5 + 1, none⟩) hg).trans a1
      replace a2 := (hb.cell (p := ⟨g, off + j * 5 + 2, none⟩) hg).trans a2
      replace a3 := (hb.cell (p := ⟨g, off + j * 5 + 3, none⟩) hg).trans a3
      replace a4 := (hb.cell (p := ⟨g, off + j * 5 + 4, none⟩) hg).trans a4
      have HP : Hid _ := And.intro hpl (And.intro hpt hdr)
      have HO : Hid _ := And.intro own oms
      have HAP : Hid _ := apa
      clear hpl hpt hdr own oms apa
      go_wp2_with fail
      refine (toBook_any nm sz _ rs fx ep _ rl rm).mono ?_
      rintro e w5 ⟨g5, rfl, og, b5⟩
      have own5 := owns_below HO.out.1 b5
      have hjl : j < (ms ++ zs.drop j).length := by simp; omega
      obtain ⟨⟨t0, t1, t2, t3, t4⟩, u0, u1, u2, u3, u4⟩ := own_five own5 j hjl
      have HST := own_book own5 j hjl ⟨nm, sz, .slice (some ⟨g5, 0, none⟩) rs.length rs.length, rs, fx, ep⟩
      have hset : (ms ++ zs.drop j).set j ⟨nm, sz, .slice (some ⟨g5, 0, none⟩) rs.length rs.length, rs, fx, ep⟩ = (ms ++ [⟨nm, sz, .slice (some ⟨g5, 0, none⟩) rs.length rs.length, rs, fx, ep⟩]) ++ zs.drop (j + 1) := by
        rw [List.set_append_right _ _ (by omega), hml, Nat.sub_self, HP.out.2.2, List.set_cons_zero, List.append_assoc]
        rfl
      rw [hset] at HST
      simp only at HST
      have hs5 : w.heap.size < w5.heap.size := Nat.lt_of_lt_of_le hsz b5.size
      have uu : Upto w.heap.size w5 (((((w5.setCell ⟨w.heap.size, j * 5, none⟩ (.string nm)).setCell ⟨w.heap.size, j * 5 + 1, none⟩ (.int .i64 sz)).setCell ⟨w.heap.size, j * 5 + 2, none⟩ (.slice (some ⟨g5, 0, none⟩) rs.length rs.length)).setCell ⟨w.heap.size, j * 5 + 3, none⟩ (.bool fx)).setCell ⟨w.heap.size, j * 5 + 4, none⟩ (.int .i64 ep)) := (((((Upto.refl _ _).setCell ⟨w.heap.size, j * 5, none⟩ (.inl rfl) _).setCell ⟨w.heap.size, j * 5 + 1, none⟩ (.inl rfl) _).setCell ⟨w.heap.size, j * 5 + 2, none⟩ (.inl rfl) _).setCell ⟨w.heap.size, j * 5 + 3, none⟩ (.inl rfl) _).setCell ⟨w.heap.size, j * 5 + 4, none⟩ (.inl rfl) _
      have hbf := (bw_call hb b5).trans (uu.toBelow (Nat.le_of_lt hs5) (Nat.le_refl _))
      have hms : ∀ b ∈ ms ++ [⟨nm, sz, .slice (some ⟨g5, 0, none⟩) rs.length rs.length, rs, fx, ep⟩], (((((w5.setCell ⟨w.heap.size, j * 5, none⟩ (.string nm)).setCell ⟨w.heap.size, j * 5 + 1, none⟩ (.int .i64 sz)).setCell ⟨w.heap.size, j * 5 + 2, none⟩ (.slice (some ⟨g5, 0, none⟩) rs.length rs.length)).setCell ⟨w.heap.size, j * 5 + 3, none⟩ (.bool fx)).setCell ⟨w.heap.size, j * 5 + 4, none⟩ (.int .i64 ep)).ownsRow (w.heap.size + 1) 112 3 b.m b.rs.length (b.rs.flatMap runC) := fun b hbm => by
        rcases List.mem_append.1 hbm with y | y
        · exact ownsRow_upto (owns_below (HO.out.2 b y) b5) uu (by omega)
        · simp only [List.mem_singleton] at y
          subst y
          exact ownsRow_upto (owns_mono og (by omega)) uu (by omega)
      have hpn : (ms ++ [(⟨nm, sz, .slice (some ⟨g5, 0, none⟩) rs.length rs.length, rs, fx, ep⟩ : Bk)]).map plainB = (bs.take (j + 1)).map plainB := by rw [HP.out.2.1, List.map_append, HP.out.1]; rfl
      have hap : ApartM (ms ++ [⟨nm, sz, .slice (some ⟨g5, 0, none⟩) rs.length rs.length, rs, fx, ep⟩]) := ApartM.snoc HAP.out _ (fun b hbm g hgb hgy => by
        have h1 := ((HO.out.2 b hbm).lt g hgb).2
        have h2 := (og.lt g hgy).1
        omega)
      have HF : Hid _ := And.intro hpn (And.intro HST (And.intro hms (And.intro hap (And.intro hbf (Nat.lt_of_lt_of_le hs5 uu.size)))))
      generalize (ms ++ zs.drop j)[j] = y at t0 t1 t2 t3 t4
      obtain ⟨yn, ys, ym, yr, yf, ye⟩ := y
      simp only at t0 t1 t2 t3 t4
      clear hpn HST hms hap HAP hbf uu own5 og b5 HO HP hset hb hs5 a0 a1 a2 a3 a4 rm rl
      go_wp2_with fail
      go_roundw
      case rel => exact ⟨j + 1, _, by omega, by go_num, HF.out⟩
      case measure => simp [intOf]; omega
    · have hjj : j = bs.length := by omega
      have HAP : Hid _ := apa
      have HF : Hid (ms.map plainB = bs.map plainB ∧ OwnB w.heap.size wr (.slice (some ⟨w.heap.size, 0, none⟩) bs.length bs.length) ms) := by
        rw [hjj, List.take_length] at hpl
        rw [hjj, List.drop_of_length_le (by omega), List.append_nil] at own
        exact ⟨hpl, own, fun b hbm => owns_mono (oms b hbm) (by omega)⟩
      clear hpl own oms
      go_wp2_with fail
      go_ret
      exact ⟨ms, rfl, HF.out.1, HF.out.2, HAP.out, hb⟩
end Go.Proofs.YtaekdfknkgmfbaaGreatDoor

namespace Go.Proofs.YtaekdfknkgmfbaaGreatDoor
open Go.RowKit

set_option linter.unusedVariables false

set_option maxRecDepth 100000


/-! ### The program's variables -/
def errVars : List Nat := [2, 3, 4, 5, 6, 7, 8, 9, 1]

/-- What the program's variables hold: nine errors of their own, and the library's handle of the type 'error'. -/
structure Vars (w : World) (ad : Nat → Addr) : Prop where
  cell : ∀ i ∈ errVars, w.cell? ⟨i, 0, none⟩ = some (.iface 312 (.pointer (some (ad i))))
  et : w.cell? ⟨10, 0, none⟩ = some (.iface 207 (.agg #[.pointer (some ⟨12, 92, none⟩)]))
  blk : ∀ i ∈ errVars, ∃ c t, w.heap[(ad i).block]? = some (.cells c t (0, 0))

theorem cell_lt {w : World} {a : Addr} {v : Value} (h : w.cell? a = some v) : a.block < w.heap.size := by
  rcases Nat.lt_or_ge a.block w.heap.size with q | q
  · exact q
  · simp [World.cell?, Array.getElem?_eq_none q] at h

theorem Vars.below {w w' : World} {ad : Nat → Addr} (h : Vars w ad) (k : Below w.heap.size w w') : Vars w' ad :=
  ⟨fun i hi => (k.cell (p := ⟨i, 0, none⟩) (cell_lt (h.cell i hi))).trans (h.cell i hi), (k.cell (p := ⟨10, 0, none⟩) (cell_lt h.et)).trans h.et, fun i hi => by
    obtain ⟨c, t, hb⟩ := h.blk i hi
    exact ⟨c, t, (k.block _ (heap_lt hb)).trans hb⟩⟩

/-- The error of a wrong shelf too: another one than those. -/
structure VarsS (w : World) (ad : Nat → Addr) : Prop where
  v : Vars w ad
  ws : w.cell? ⟨0, 0, none⟩ = some (.iface 312 (.pointer (some (ad 0))))
  ne : ∀ i ∈ errVars, ad i ≠ ad 0
  wb : ∃ c t, w.heap[(ad 0).block]? = some (.cells c t (0, 0))

theorem VarsS.below {w w' : World} {ad : Nat → Addr} (h : VarsS w ad) (k : Below w.heap.size w w') : VarsS w' ad :=
  ⟨h.v.below k, (k.cell (p := ⟨0, 0, none⟩) (cell_lt h.ws)).trans h.ws, h.ne, by
    obtain ⟨c, t, hb⟩ := h.wb
    exact ⟨c, t, (k.block _ (heap_lt hb)).trans hb⟩⟩

/-- Which variable is wrapped where that code is told. -/
def varOf (c : Int) : Nat := if c = 1 then 2 else if c = 2 then 3 else if c = 3 then 4 else if c = 4 then 5 else if c = 5 then 6 else if c = 6 then 7 else if c = 7 then 8 else if c = 8 then 9 else if c = 9 then 1 else 0

/-- A refusal, or none. -/
def refErr (ad : Nat → Addr) (c : Int) : Value := if c = 0 then .nilIface else .iface 147 (.agg #[.int .i64 c, .iface 312 (.pointer (some (ad (varOf c))))])

def kMakes (k : Int) : Bool := decide (k = 1) || kOther k

def kInside (k : Int) : Bool := decide (k = 2) || decide (k = 3) || decide (k = 7)

theorem makes_any (k : Int) (hk : 1 ≤ k ∧ k ≤ 9) (w : World) :
    Calls Tryz.prog 178 #[.int .i64 k] w fun e w' => e = .returned (.bool (kMakes k)) ∧ w' = w := by
  have h : k = 1 ∨ k = 2 ∨ k = 3 ∨ k = 4 ∨ k = 5 ∨ k = 6 ∨ k = 7 ∨ k = 8 ∨ k = 9 := by omega
  rcases h with rfl | rfl | rfl | rfl | rfl | rfl | rfl | rfl | rfl
  all_goals
    go_enter Tryz.func178, Tryz.ntmps178
    go_wp2
    go_ret
    exact ⟨rfl, rfl⟩

theorem heedsEpoch_any (k : Int) (hk : 1 ≤ k ∧ k ≤ 9) (w : World) :
    Calls Tryz.prog 180 #[.int .i64 k] w fun e w' => e = .returned (.bool (kEpoch k)) ∧ w' = w := by
  have h : k = 1 ∨ k = 2 ∨ k = 3 ∨ k = 4 ∨ k = 5 ∨ k = 6 ∨ k = 7 ∨ k = 8 ∨ k = 9 := by omega
  rcases h with rfl | rfl | rfl | rfl | rfl | rfl | rfl | rfl | rfl
  all_goals
    go_enter Tryz.func180, Tryz.ntmps180
    go_wp2
    go_ret
    exact ⟨rfl, rfl⟩

theorem changesInside_any (k : Int) (hk : 1 ≤ k ∧ k ≤ 9) (w : World) :
    Calls Tryz.prog 181 #[.int .i64 k] w fun e w' => e = .returned (.bool (kInside k)) ∧ w' = w := by
  have h : k = 1 ∨ k = 2 ∨ k = 3 ∨ k = 4 ∨ k = 5 ∨ k = 6 ∨ k = 7 ∨ k = 8 ∨ k = 9 := by omega
  rcases h with rfl | rfl | rfl | rfl | rfl | rfl | rfl | rfl | rfl
  all_goals
    go_enter Tryz.func181, Tryz.ntmps181
    go_wp2
    go_ret
    exact ⟨rfl, rfl⟩

theorem asksPlace_any (k : Int) (hk : 1 ≤ k ∧ k ≤ 9) (w : World) :
    Calls Tryz.prog 182 #[.int .i64 k] w fun e w' => e = .returned (.bool (kAt k)) ∧ w' = w := by
  have h : k = 1 ∨ k = 2 ∨ k = 3 ∨ k = 4 ∨ k = 5 ∨ k = 6 ∨ k = 7 ∨ k = 8 ∨ k = 9 := by omega
  rcases h with rfl | rfl | rfl | rfl | rfl | rfl | rfl | rfl | rfl
  all_goals
    go_enter Tryz.func182, Tryz.ntmps182
    go_wp2
    go_ret
    exact ⟨rfl, rfl⟩

theorem madeName_make (nm ot : ByteArray) (at_ va ep : Int) (w : World) :
    Calls Tryz.prog 179 #[.agg #[.int .i64 1, .string nm, .string ot, .int .i64 at_, .int .i64 va, .int .i64 ep]] w fun e w' => e = .returned (.string nm) ∧ Below w.heap.size w w' := by
  go_enter Tryz.func179, Tryz.ntmps179
  go_wp2
  go_ret
  exact ⟨rfl, bw_alloc (Below.refl _ _)⟩

theorem madeName_other (k : Int) (hk : k = 4 ∨ k = 5) (nm ot : ByteArray) (at_ va ep : Int) (w : World) :
    Calls Tryz.prog 179 #[.agg #[.int .i64 k, .string nm, .string ot, .int .i64 at_, .int .i64 va, .int .i64 ep]] w fun e w' => e = .returned (.string ot) ∧ Below w.heap.size w w' := by
  rcases hk with rfl | rfl
  all_goals
    go_enter Tryz.func179, Tryz.ntmps179
    go_wp2
    go_ret
    exact ⟨rfl, bw_alloc (Below.refl _ _)⟩

/-- The book at a place, or the zero one. -/
def bkAt (bks : List Bk) (at_ : Int) : Bk := if at_ < 0 then zeroBk else bks.getD at_.toNat zeroBk

theorem bkAt_no {bks : List Bk} {at_ : Int} (h : at_ < 0) : bkAt bks at_ = zeroBk := by rw [bkAt, if_pos h]

theorem bkAt_yes {bks : List Bk} {i : Nat} (h : i < bks.length) : bkAt bks (i : Int) = bks[i] := by
  rw [bkAt, if_neg (by omega), Int.toNat_natCast, List.getD_eq_getElem?_getD, List.getElem?_eq_getElem h]; rfl

set_option maxHeartbeats 1600000 in
theorem bookAt_any (vb : Value) (bks : List Bk) (at_ : Int) (w : World) (hat : at_ < bks.length) (hms : ∀ b ∈ bks, ∃ o k cap, b.m = .slice o k cap) (r : ReadsR 5 bookC w.heap.size w vb bks) :
    Calls Tryz.prog 176 #[vb, .int .i64 at_] w fun e w' => e = .returned (.agg (bookC (bkAt bks at_)).toArray) ∧ Below w.heap.size w w' := by
  obtain ⟨o, cap, rfl, hm, hc, -⟩ := r
  have HC : Hid _ := five_cells hc
  obtain ⟨W0, hW0, k0, d0, z0⟩ := box1 w #[.string ByteArray.empty, .int .i64 0, .slice none 0 0, .bool false, .int .i64 0] 48
  unfold maxLen at hm
  have HW0 : Hid (W0 = _) := hW0
  have p0 := at_cell k0 0
  have p1 := at_cell k0 1
  have p2 := at_cell k0 2
  have p3 := at_cell k0 3
  have p4 := at_cell k0 4
  have f0 := at_open k0 0
  have f1 := at_open k0 1
  have f2 := at_open k0 2
  have f3 := at_open k0 3
  have f4 := at_open k0 4
  clear hc
  by_cases h0 : at_ < 0
  · rw [bkAt_no h0]
    go_enter Tryz.func176, Tryz.ntmps176
    go_wp2_with fail
    refine bodyPost_ret (v := .agg (bookC zeroBk).toArray) ?_ rfl ⟨rfl, bw_alloc (Below.refl _ _)⟩
    simp [results, Tryz.results176, go_sem, bookC, zeroBk]
    rfl
  · obtain ⟨i, rfl⟩ := Int.eq_ofNat_of_zero_le (show 0 ≤ at_ by omega)
    have hi : i < bks.length := by omega
    rw [bkAt_yes hi]
    obtain ⟨g, off, rfl, hg, a0, a1, a2, a3, a4⟩ := HC.out i hi
    obtain ⟨o', k', c', hm'⟩ := hms bks[i] (List.getElem_mem hi)
    generalize bks[i] = x at *
    obtain ⟨xn, xs, xm, xr, xf, xe⟩ := x
    simp only at a0 a1 a2 a3 a4 hm'
    subst hm'
    have hne : ¬ g = w.heap.size := by omega
    go_enter Tryz.func176, Tryz.ntmps176
    go_wp2_with fail
    refine bodyPost_ret (v := .agg (bookC ⟨xn, xs, .slice o' k' c', xr, xf, xe⟩).toArray) ?_ rfl ⟨rfl, bw_alloc (Below.refl _ _)⟩
    simp [results, Tryz.results176, go_sem, bookC]

set_option maxHeartbeats 1600000 in
theorem codeOf_any (c : Int) (i : Nat) (w : World) (ad : Nat → Addr) (hv : Vars w ad) :
    Calls Tryz.prog 63 #[.iface 147 (.agg #[.int .i64 c, .iface 312 (.pointer (some (ad i)))])] w fun e w' => e = .returned (.int .i64 c) ∧ Below w.heap.size w w' := by
  obtain ⟨W0, hW0, k0, d0, z0⟩ := box1 w #[.int .i64 0, .nilIface] 147
  have HW0 : Hid (W0 = _) := hW0
  have hv0 := hv.below d0
  clear hW0 z0
  go_enter Tryz.func63, Tryz.ntmps63
  go_wp2_with fail
  rw [← HW0.out]
  clear HW0
  refine (as_ref c _ (ad i) w.heap.size _ _ _ hv0.et k0).mono ?_
  rintro e w1 ⟨rfl, k1, u1⟩
  have q0 := at_cell k1 0
  have b1 : Below w.heap.size w w1 := d0.trans (u1.toBelow d0.size (Nat.le_refl _))
  clear k1 u1 k0 d0
  go_wp2_with fail
  go_ret
  exact ⟨rfl, b1⟩
end Go.Proofs.YtaekdfknkgmfbaaGreatDoor

namespace Go.Proofs.YtaekdfknkgmfbaaGreatDoor
open Go.ChangeShapes Go.WideShapes Go.RowKit

set_option linter.unusedVariables false


theorem Tryz.lEt : Tryz.prog.globalNamed "errors.errorType" = some 10 := by kernel_rfl

theorem Tryz.lRt : (Tryz.prog.cutTypes.find? (·.1 == "internal/reflectlite.rtype")).map (·.2) = some 207 := by kernel_rfl

theorem Tryz.lSize : Tryz.prog.types.size = 344 := by kernel_rfl

theorem Tryz.lOne : ((List.range 344).filter fun t => Tryz.prog.rowNamed t [101, 114, 114, 111, 114]) = [92] := by kernel_rfl

theorem Tryz.lRow : ∀ u, Tryz.prog.typeName? 3 u = some "*errors.errorString" → u = 312 := typeName_ptr_named (nm := "errors.errorString") (by kernel_rfl) (by kernel_rfl) (by decide)

theorem Tryz.lCells : Tryz.prog.cellsOf 332 = 1 := by kernel_rfl

theorem Tryz.lCellsS : Tryz.prog.cellsOf 9 = 1 := by kernel_rfl

theorem Tryz.lGT : ∀ i ∈ 0 :: errVars, (Tryz.prog.globals[i]?).map (·.type) = some 92 := by
  intro i hi
  simp only [errVars, List.mem_cons, List.mem_nil_iff, or_false] at hi
  rcases hi with rfl | rfl | rfl | rfl | rfl | rfl | rfl | rfl | rfl | rfl <;> kernel_rfl

theorem Tryz.gerrWrongShelf : Tryz.prog.globalNamed "loop.example/g00372/impl.errWrongShelf" = some 0 := by kernel_rfl

theorem Tryz.gerrWrongOp : Tryz.prog.globalNamed "loop.example/g00372/impl.errWrongOp" = some 2 := by kernel_rfl

theorem Tryz.gerrNoBook : Tryz.prog.globalNamed "loop.example/g00372/impl.errNoBook" = some 3 := by kernel_rfl

theorem Tryz.gerrBookThere : Tryz.prog.globalNamed "loop.example/g00372/impl.errBookThere" = some 4 := by kernel_rfl

theorem Tryz.gerrFenced : Tryz.prog.globalNamed "loop.example/g00372/impl.errFenced" = some 5 := by kernel_rfl

theorem Tryz.gerrFixed : Tryz.prog.globalNamed "loop.example/g00372/impl.errFixed" = some 6 := by kernel_rfl

theorem Tryz.gerrRange : Tryz.prog.globalNamed "loop.example/g00372/impl.errRange" = some 7 := by kernel_rfl

theorem Tryz.gerrManyBooks : Tryz.prog.globalNamed "loop.example/g00372/impl.errManyBooks" = some 8 := by kernel_rfl

theorem Tryz.gerrWorn : Tryz.prog.globalNamed "loop.example/g00372/impl.errWorn" = some 9 := by kernel_rfl

theorem Tryz.gerrNoPage : Tryz.prog.globalNamed "loop.example/g00372/impl.errNoPage" = some 1 := by kernel_rfl

def laidTen : List (String × DataW Unit) := [("loop.example/g00372/impl.errWrongShelf", Rows.laid_loop_example_g00372_impl_errWrongShelf), ("loop.example/g00372/impl.errWrongOp", Rows.laid_loop_example_g00372_impl_errWrongOp), ("loop.example/g00372/impl.errNoBook", Rows.laid_loop_example_g00372_impl_errNoBook), ("loop.example/g00372/impl.errBookThere", Rows.laid_loop_example_g00372_impl_errBookThere), ("loop.example/g00372/impl.errFenced", Rows.laid_loop_example_g00372_impl_errFenced), ("loop.example/g00372/impl.errFixed", Rows.laid_loop_example_g00372_impl_errFixed), ("loop.example/g00372/impl.errRange", Rows.laid_loop_example_g00372_impl_errRange), ("loop.example/g00372/impl.errManyBooks", Rows.laid_loop_example_g00372_impl_errManyBooks), ("loop.example/g00372/impl.errWorn", Rows.laid_loop_example_g00372_impl_errWorn), ("loop.example/g00372/impl.errNoPage", Rows.laid_loop_example_g00372_impl_errNoPage)]

def laidAll : List (String × DataW Unit) := ("errors.errorType", Rows.laid_errors_errorType) :: laidTen

/-- Two listed errors: their cells, two pointers, whole blocks. -/
theorem two_laid {W : World} {n0 n1 : String} {t0 t1 : List UInt8} {g0 g1 : Nat} (h : laidMet Tryz.prog [(n0, .iface "*errors.errorString" (.ptr (.agg [.lit (.string t0)]))), (n1, .iface "*errors.errorString" (.ptr (.agg [.lit (.string t1)])))] W) (hg0 : Tryz.prog.globalNamed n0 = some g0) (ht0 : (Tryz.prog.globals[g0]?).map (·.type) = some 92) (hg1 : Tryz.prog.globalNamed n1 = some g1) (ht1 : (Tryz.prog.globals[g1]?).map (·.type) = some 92) :
    ∃ (a0 a1 : Addr) (c0 c1 : Array Value) (s0 s1 : TypeId), W.cell? ⟨g0, 0, none⟩ = some (.iface 312 (.pointer (some a0))) ∧ W.cell? ⟨g1, 0, none⟩ = some (.iface 312 (.pointer (some a1))) ∧ a0 ≠ a1 ∧ W.heap[a0.block]? = some (.cells c0 s0 (0, 0)) ∧ W.heap[a1.block]? = some (.cells c1 s1 (0, 0)) := by
  obtain ⟨a0, a1, s0, s1, c0, c1, u0, u1, hv0, hv1, -, -, -, -, -, -, hne, hb0, hb1⟩ := laid_sentinels2 h hg0 ht0 hg1 ht1 Tryz.underlying92 Tryz.lRow Tryz.underlying312 Tryz.underlying332 rfl rfl Tryz.underlying9 Tryz.lCells Tryz.lCellsS
  exact ⟨a0, a1, c0, c1, u0, u1, by simpa using World.var?_cell hg0 hv0 0, by simpa using World.var?_cell hg1 hv1 0, hne, hb0, hb1⟩

/-- The handle of the type 'error'. -/
theorem handle_laid {W : World} {l : List (String × DataW Unit)} (h : handlesMet Tryz.prog (("errors.errorType", Rows.laid_errors_errorType) :: l) W) : W.cell? ⟨10, 0, none⟩ = some (.iface 207 (.agg #[.pointer (some ⟨12, 92, none⟩)])) := by
  obtain ⟨name, u, ty, e1, e2, e3, e4, e5⟩ := h _ (List.mem_cons_self ..)
  have en : name = [101, 114, 114, 111, 114] := (Option.some.inj e1).symm
  subst en
  obtain rfl := Option.some.inj (Tryz.lRt.symm.trans e2)
  have hm : ty ∈ (List.range 344).filter fun t => Tryz.prog.rowNamed t [101, 114, 114, 111, 114] := List.mem_filter.2 ⟨List.mem_range.2 (by rw [← Tryz.lSize]; exact e3), e4⟩
  rw [Tryz.lOne] at hm
  obtain rfl := List.mem_singleton.1 hm
  have hh : typeHandle Tryz.prog 92 = .pointer (some ⟨12, 92, none⟩) := by kernel_rfl
  rw [hh] at e5
  simpa using World.var?_cell Tryz.lEt e5 0

/-- The address that a variable holds. -/
def adOf (W : World) (i : Nat) : Addr := match W.cell? ⟨i, 0, none⟩ with
  | some (.iface _ (.pointer (some a))) => a
  | _ => ⟨0, 0, none⟩

theorem adOf_eq {W : World} {i : Nat} {t : TypeId} {a : Addr} (h : W.cell? ⟨i, 0, none⟩ = some (.iface t (.pointer (some a)))) : adOf W i = a := by rw [adOf, h]

theorem pair_serrWrongOp {W : World} (h : laidMet Tryz.prog laidTen W) : ∃ (a0 a1 : Addr) (c0 c1 : Array Value) (s0 s1 : TypeId), W.cell? ⟨0, 0, none⟩ = some (.iface 312 (.pointer (some a0))) ∧ W.cell? ⟨2, 0, none⟩ = some (.iface 312 (.pointer (some a1))) ∧ a0 ≠ a1 ∧ W.heap[a0.block]? = some (.cells c0 s0 (0, 0)) ∧ W.heap[a1.block]? = some (.cells c1 s1 (0, 0)) := by
  have h2 := laidMet.filter (fun x => x.1 == "loop.example/g00372/impl.errWrongShelf" || x.1 == "loop.example/g00372/impl.errWrongOp") h
  have e : laidTen.filter (fun x => x.1 == "loop.example/g00372/impl.errWrongShelf" || x.1 == "loop.example/g00372/impl.errWrongOp") = [("loop.example/g00372/impl.errWrongShelf", Rows.laid_loop_example_g00372_impl_errWrongShelf), ("loop.example/g00372/impl.errWrongOp", Rows.laid_loop_example_g00372_impl_errWrongOp)] := by simp [laidTen]
  rw [e] at h2
  exact two_laid h2 Tryz.gerrWrongShelf (Tryz.lGT _ (by decide)) Tryz.gerrWrongOp (Tryz.lGT _ (by decide))

theorem pair_serrNoBook {W : World} (h : laidMet Tryz.prog laidTen W) : ∃ (a0 a1 : Addr) (c0 c1 : Array Value) (s0 s1 : TypeId), W.cell? ⟨0, 0, none⟩ = some (.iface 312 (.pointer (some a0))) ∧ W.cell? ⟨3, 0, none⟩ = some (.iface 312 (.pointer (some a1))) ∧ a0 ≠ a1 ∧ W.heap[a0.block]? = some (.cells c0 s0 (0, 0)) ∧ W.heap[a1.block]? = some (.cells c1 s1 (0, 0)) := by
  have h2 := laidMet.filter (fun x => x.1 == "loop.example/g00372/impl.errWrongShelf" || x.1 == "loop.example/g00372/impl.errNoBook") h
  have e : laidTen.filter (fun x => x.1 == "loop.example/g00372/impl.errWrongShelf" || x.1 == "loop.example/g00372/impl.errNoBook") = [("loop.example/g00372/impl.errWrongShelf", Rows.laid_loop_example_g00372_impl_errWrongShelf), ("loop.example/g00372/impl.errNoBook", Rows.laid_loop_example_g00372_impl_errNoBook)] := by simp [laidTen]
  rw [e] at h2
  exact two_laid h2 Tryz.gerrWrongShelf (Tryz.lGT _ (by decide)) Tryz.gerrNoBook (Tryz.lGT _ (by decide))

theorem pair_serrBookThere {W : World} (h : laidMet Tryz.prog laidTen W) : ∃ (a0 a1 : Addr) (c0 c1 : Array Value) (s0 s1 : TypeId), W.cell? ⟨0, 0, none⟩ = some (.iface 312 (.pointer (some a0))) ∧ W.cell? ⟨4, 0, none⟩ = some (.iface 312 (.pointer (some a1))) ∧ a0 ≠ a1 ∧ W.heap[a0.block]? = some (.cells c0 s0 (0, 0)) ∧ W.heap[a1.block]? = some (.cells c1 s1 (0, 0)) := by
  have h2 := laidMet.filter (fun x => x.1 == "loop.example/g00372/impl.errWrongShelf" || x.1 == "loop.example/g00372/impl.errBookThere") h
  have e : laidTen.filter (fun x => x.1 == "loop.example/g00372/impl.errWrongShelf" || x.1 == "loop.example/g00372/impl.errBookThere") = [("loop.example/g00372/impl.errWrongShelf", Rows.laid_loop_example_g00372_impl_errWrongShelf), ("loop.example/g00372/impl.errBookThere", Rows.laid_loop_example_g00372_impl_errBookThere)] := by simp [laidTen]
  rw [e] at h2
  exact two_laid h2 Tryz.gerrWrongShelf (Tryz.lGT _ (by decide)) Tryz.gerrBookThere (Tryz.lGT _ (by decide))

theorem pair_serrFenced {W : World} (h : laidMet Tryz.prog laidTen W) : ∃ (a0 a1 : Addr) (c0 c1 : Array Value) (s0 s1 : TypeId), W.cell? ⟨0, 0, none⟩ = some (.iface 312 (.pointer (some a0))) ∧ W.cell? ⟨5, 0, none⟩ = some (.iface 312 (.pointer (some a1))) ∧ a0 ≠ a1 ∧ W.heap[a0.block]? = some (.cells c0 s0 (0, 0)) ∧ W.heap[a1.block]? = some (.cells c1 s1 (0, 0)) := by
  have h2 := laidMet.filter (fun x => x.1 == "loop.example/g00372/impl.errWrongShelf" || x.1 == "loop.example/g00372/impl.errFenced") h
  have e : laidTen.filter (fun x => x.1 == "loop.example/g00372/impl.errWrongShelf" || x.1 == "loop.example/g00372/impl.errFenced") = [("loop.example/g00372/impl.errWrongShelf", Rows.laid_loop_example_g00372_impl_errWrongShelf), ("loop.example/g00372/impl.errFenced", Rows.laid_loop_example_g00372_impl_errFenced)] := by simp [laidTen]
  rw [e] at h2
  exact two_laid h2 Tryz.gerrWrongShelf (Tryz.lGT _ (by decide)) Tryz.gerrFenced (Tryz.lGT _ (by decide))

theorem pair_serrFixed {W : World} (h : laidMet Tryz.prog laidTen W) : ∃ (a0 a1 : Addr) (c0 c1 : Array Value) (s0 s1 : TypeId), W.cell? ⟨0, 0, none⟩ = some (.iface 312 (.pointer (some a0))) ∧ W.cell? ⟨6, 0, none⟩ = some (.iface 312 (.pointer (some a1))) ∧ a0 ≠ a1 ∧ W.heap[a0.block]? = some (.cells c0 s0 (0, 0)) ∧ W.heap[a1.block]? = some (.cells c1 s1 (0, 0)) := by
  have h2 := laidMet.filter (fun x => x.1 == "loop.example/g00372/impl.errWrongShelf" || x.1 == "loop.example/g00372/impl.errFixed") h
  have e : laidTen.filter (fun x => x.1 == "loop.example/g00372/impl.errWrongShelf" || x.1 == "loop.example/g00372/impl.errFixed") = [("loop.example/g00372/impl.errWrongShelf", Rows.laid_loop_example_g00372_impl_errWrongShelf), ("loop.example/g00372/impl.errFixed", Rows.laid_loop_example_g00372_impl_errFixed)] := by simp [laidTen]
  rw [e] at h2
  exact two_laid h2 Tryz.gerrWrongShelf (Tryz.lGT _ (by decide)) Tryz.gerrFixed (Tryz.lGT _ (by decide))

theorem pair_serrRange {W : World} (h : laidMet Tryz.prog laidTen W) : ∃ (a0 a1 : Addr) (c0 c1 : Array Value) (s0 s1 : TypeId), W.cell? ⟨0, 0, none⟩ = some (.iface 312 (.pointer (some a0))) ∧ W.cell? ⟨7, 0, none⟩ = some (.iface 312 (.pointer (some a1))) ∧ a0 ≠ a1 ∧ W.heap[a0.block]? = some (.cells c0 s0 (0, 0)) ∧ W.heap[a1.block]? = some (.cells c1 s1 (0, 0)) := by
  have h2 := laidMet.filter (fun x => x.1 == "loop.example/g00372/impl.errWrongShelf" || x.1 == "loop.example/g00372/impl.errRange") h
  have e : laidTen.filter (fun x => x.1 == "loop.example/g00372/impl.errWrongShelf" || x.1 == "loop.example/g00372/impl.errRange") = [("loop.example/g00372/impl.errWrongShelf", Rows.laid_loop_example_g00372_impl_errWrongShelf), ("loop.example/g00372/impl.errRange", Rows.laid_loop_example_g00372_impl_errRange)] := by simp [laidTen]
  rw [e] at h2
  exact two_laid h2 Tryz.gerrWrongShelf (Tryz.lGT _ (by decide)) Tryz.gerrRange (Tryz.lGT _ (by decide))

theorem pair_serrManyBooks {W : World} (h : laidMet Tryz.prog laidTen W) : ∃ (a0 a1 : Addr) (c0 c1 : Array Value) (s0 s1 : TypeId), W.cell? ⟨0, 0, none⟩ = some (.iface 312 (.pointer (some a0))) ∧ W.cell? ⟨8, 0, none⟩ = some (.iface 312 (.pointer (some a1))) ∧ a0 ≠ a1 ∧ W.heap[a0.block]? = some (.cells c0 s0 (0, 0)) ∧ W.heap[a1.block]? = some (.cells c1 s1 (0, 0)) := by
  have h2 := laidMet.filter (fun x => x.1 == "loop.example/g00372/impl.errWrongShelf" || x.1 == "loop.example/g00372/impl.errManyBooks") h
  have e : laidTen.filter (fun x => x.1 == "loop.example/g00372/impl.errWrongShelf" || x.1 == "loop.example/g00372/impl.errManyBooks") = [("loop.example/g00372/impl.errWrongShelf", Rows.laid_loop_example_g00372_impl_errWrongShelf), ("loop.example/g00372/impl.errManyBooks", Rows.laid_loop_example_g00372_impl_errManyBooks)] := by simp [laidTen]
  rw [e] at h2
  exact two_laid h2 Tryz.gerrWrongShelf (Tryz.lGT _ (by decide)) Tryz.gerrManyBooks (Tryz.lGT _ (by decide))

theorem pair_serrWorn {W : World} (h : laidMet Tryz.prog laidTen W) : ∃ (a0 a1 : Addr) (c0 c1 : Array Value) (s0 s1 : TypeId), W.cell? ⟨0, 0, none⟩ = some (.iface 312 (.pointer (some a0))) ∧ W.cell? ⟨9, 0, none⟩ = some (.iface 312 (.pointer (some a1))) ∧ a0 ≠ a1 ∧ W.heap[a0.block]? = some (.cells c0 s0 (0, 0)) ∧ W.heap[a1.block]? = some (.cells c1 s1 (0, 0)) := by
  have h2 := laidMet.filter (fun x => x.1 == "loop.example/g00372/impl.errWrongShelf" || x.1 == "loop.example/g00372/impl.errWorn") h
  have e : laidTen.filter (fun x => x.1 == "loop.example/g00372/impl.errWrongShelf" || x.1 == "loop.example/g00372/impl.errWorn") = [("loop.example/g00372/impl.errWrongShelf", Rows.laid_loop_example_g00372_impl_errWrongShelf), ("loop.example/g00372/impl.errWorn", Rows.laid_loop_example_g00372_impl_errWorn)] := by simp [laidTen]
  rw [e] at h2
  exact two_laid h2 Tryz.gerrWrongShelf (Tryz.lGT _ (by decide)) Tryz.gerrWorn (Tryz.lGT _ (by decide))

theorem pair_serrNoPage {W : World} (h : laidMet Tryz.prog laidTen W) : ∃ (a0 a1 : Addr) (c0 c1 : Array Value) (s0 s1 : TypeId), W.cell? ⟨0, 0, none⟩ = some (.iface 312 (.pointer (some a0))) ∧ W.cell? ⟨1, 0, none⟩ = some (.iface 312 (.pointer (some a1))) ∧ a0 ≠ a1 ∧ W.heap[a0.block]? = some (.cells c0 s0 (0, 0)) ∧ W.heap[a1.block]? = some (.cells c1 s1 (0, 0)) := by
  have h2 := laidMet.filter (fun x => x.1 == "loop.example/g00372/impl.errWrongShelf" || x.1 == "loop.example/g00372/impl.errNoPage") h
  have e : laidTen.filter (fun x => x.1 == "loop.example/g00372/impl.errWrongShelf" || x.1 == "loop.example/g00372/impl.errNoPage") = [("loop.example/g00372/impl.errWrongShelf", Rows.laid_loop_example_g00372_impl_errWrongShelf), ("loop.example/g00372/impl.errNoPage", Rows.laid_loop_example_g00372_impl_errNoPage)] := by simp [laidTen]
  rw [e] at h2
  exact two_laid h2 Tryz.gerrWrongShelf (Tryz.lGT _ (by decide)) Tryz.gerrNoPage (Tryz.lGT _ (by decide))

theorem vars_ten {W : World} (h : laidMetH Tryz.prog laidAll W) : VarsS W (adOf W) := by
  have h' : laidMet Tryz.prog laidTen W ∧ handlesMet Tryz.prog [("errors.errorType", Rows.laid_errors_errorType)] W := h
  have het := handle_laid h'.2
  obtain ⟨x0, aerrWrongOp, c0, cerrWrongOp, s0, terrWrongOp, k0, kerrWrongOp, nerrWrongOp, b0, berrWrongOp⟩ := pair_serrWrongOp h'.1
  rw [← adOf_eq k0, ← adOf_eq kerrWrongOp] at nerrWrongOp
  clear b0
  obtain ⟨x0, aerrNoBook, c0, cerrNoBook, s0, terrNoBook, k0, kerrNoBook, nerrNoBook, b0, berrNoBook⟩ := pair_serrNoBook h'.1
  rw [← adOf_eq k0, ← adOf_eq kerrNoBook] at nerrNoBook
  clear b0
  obtain ⟨x0, aerrBookThere, c0, cerrBookThere, s0, terrBookThere, k0, kerrBookThere, nerrBookThere, b0, berrBookThere⟩ := pair_serrBookThere h'.1
  rw [← adOf_eq k0, ← adOf_eq kerrBookThere] at nerrBookThere
  clear b0
  obtain ⟨x0, aerrFenced, c0, cerrFenced, s0, terrFenced, k0, kerrFenced, nerrFenced, b0, berrFenced⟩ := pair_serrFenced h'.1
  rw [← adOf_eq k0, ← adOf_eq kerrFenced] at nerrFenced
  clear b0
  obtain ⟨x0, aerrFixed, c0, cerrFixed, s0, terrFixed, k0, kerrFixed, nerrFixed, b0, berrFixed⟩ := pair_serrFixed h'.1
  rw [← adOf_eq k0, ← adOf_eq kerrFixed] at nerrFixed
  clear b0
  obtain ⟨x0, aerrRange, c0, cerrRange, s0, terrRange, k0, kerrRange, nerrRange, b0, berrRange⟩ := pair_serrRange h'.1
  rw [← adOf_eq k0, ← adOf_eq kerrRange] at nerrRange
  clear b0
  obtain ⟨x0, aerrManyBooks, c0, cerrManyBooks, s0, terrManyBooks, k0, kerrManyBooks, nerrManyBooks, b0, berrManyBooks⟩ := pair_serrManyBooks h'.1
  rw [← adOf_eq k0, ← adOf_eq kerrManyBooks] at nerrManyBooks
  clear b0
  obtain ⟨x0, aerrWorn, c0, cerrWorn, s0, terrWorn, k0, kerrWorn, nerrWorn, b0, berrWorn⟩ := pair_serrWorn h'.1
  rw [← adOf_eq k0, ← adOf_eq kerrWorn] at nerrWorn
  clear b0
  obtain ⟨x0, aerrNoPage, c0, cerrNoPage, s0, terrNoPage, k0, kerrNoPage, nerrNoPage, b0, berrNoPage⟩ := pair_serrNoPage h'.1
  rw [← adOf_eq k0, ← adOf_eq kerrNoPage] at nerrNoPage
  refine ⟨⟨?_, het, ?_⟩, by rw [adOf_eq k0]; exact k0, ?_, ⟨c0, s0, by rw [adOf_eq k0]; exact b0⟩⟩
  · intro i hi
    simp only [errVars, List.mem_cons, List.mem_nil_iff, or_false] at hi
    rcases hi with rfl | rfl | rfl | rfl | rfl | rfl | rfl | rfl | rfl
    · rw [adOf_eq kerrWrongOp]; exact kerrWrongOp
    · rw [adOf_eq kerrNoBook]; exact kerrNoBook
    · rw [adOf_eq kerrBookThere]; exact kerrBookThere
    · rw [adOf_eq kerrFenced]; exact kerrFenced
    · rw [adOf_eq kerrFixed]; exact kerrFixed
    · rw [adOf_eq kerrRange]; exact kerrRange
    · rw [adOf_eq kerrManyBooks]; exact kerrManyBooks
    · rw [adOf_eq kerrWorn]; exact kerrWorn
    · rw [adOf_eq kerrNoPage]; exact kerrNoPage
  · intro i hi
    simp only [errVars, List.mem_cons, List.mem_nil_iff, or_false] at hi
    rcases hi with rfl | rfl | rfl | rfl | rfl | rfl | rfl | rfl | rfl
    · exact ⟨cerrWrongOp, terrWrongOp, by rw [adOf_eq kerrWrongOp]; exact berrWrongOp⟩
    · exact ⟨cerrNoBook, terrNoBook, by rw [adOf_eq kerrNoBook]; exact berrNoBook⟩
    · exact ⟨cerrBookThere, terrBookThere, by rw [adOf_eq kerrBookThere]; exact berrBookThere⟩
    · exact ⟨cerrFenced, terrFenced, by rw [adOf_eq kerrFenced]; exact berrFenced⟩
    · exact ⟨cerrFixed, terrFixed, by rw [adOf_eq kerrFixed]; exact berrFixed⟩
    · exact ⟨cerrRange, terrRange, by rw [adOf_eq kerrRange]; exact berrRange⟩
    · exact ⟨cerrManyBooks, terrManyBooks, by rw [adOf_eq kerrManyBooks]; exact berrManyBooks⟩
    · exact ⟨cerrWorn, terrWorn, by rw [adOf_eq kerrWorn]; exact berrWorn⟩
    · exact ⟨cerrNoPage, terrNoPage, by rw [adOf_eq kerrNoPage]; exact berrNoPage⟩
  · intro i hi
    simp only [errVars, List.mem_cons, List.mem_nil_iff, or_false] at hi
    rcases hi with rfl | rfl | rfl | rfl | rfl | rfl | rfl | rfl | rfl
    · exact fun e => nerrWrongOp e.symm
    · exact fun e => nerrNoBook e.symm
    · exact fun e => nerrBookThere e.symm
    · exact fun e => nerrFenced e.symm
    · exact fun e => nerrFixed e.symm
    · exact fun e => nerrRange e.symm
    · exact fun e => nerrManyBooks e.symm
    · exact fun e => nerrWorn e.symm
    · exact fun e => nerrNoPage e.symm

/-! ### A world that meets them -/
abbrev xerrWrongShelf : ByteArray := { data := #[116, 104, 101, 32, 115, 104, 101, 108, 102, 32, 105, 115, 32, 110, 111, 116, 32, 114, 105, 103, 104, 116] }

abbrev xerrWrongOp : ByteArray := { data := #[116, 104, 101, 32, 111, 112, 32, 105, 115, 32, 110, 111, 116, 32, 114, 105, 103, 104, 116] }

abbrev xerrNoBook : ByteArray := { data := #[116, 104, 101, 114, 101, 32, 105, 115, 32, 110, 111, 32, 115, 117, 99, 104, 32, 98, 111, 111, 107] }

abbrev xerrBookThere : ByteArray := { data := #[116, 104, 101, 114, 101, 32, 105, 115, 32, 115, 117, 99, 104, 32, 97, 32, 98, 111, 111, 107, 32, 97, 108, 114, 101, 97, 100, 121] }

abbrev xerrFenced : ByteArray := { data := #[116, 104, 101, 32, 101, 112, 111, 99, 104, 32, 105, 115, 32, 98, 101, 108, 111, 119, 32, 116, 104, 101, 32, 98, 111, 111, 107, 39, 115] }

abbrev xerrFixed : ByteArray := { data := #[116, 104, 101, 32, 98, 111, 111, 107, 32, 105, 115, 32, 102, 105, 120, 101, 100] }

abbrev xerrRange : ByteArray := { data := #[116, 104, 101, 32, 112, 108, 97, 99, 101, 32, 105, 115, 32, 110, 111, 116, 32, 98, 101, 108, 111, 119, 32, 116, 104, 101, 32, 98, 111, 111, 107, 39, 115, 32, 115, 105, 122, 101] }

abbrev xerrManyBooks : ByteArray := { data := #[116, 104, 101, 114, 101, 32, 105, 115, 32, 110, 111, 32, 114, 111, 111, 109, 32, 102, 111, 114, 32, 111, 110, 101, 32, 109, 111, 114, 101, 32, 98, 111, 111, 107] }

abbrev xerrWorn : ByteArray := { data := #[116, 104, 101, 32, 98, 111, 111, 107, 39, 115, 32, 101, 112, 111, 99, 104, 32, 105, 115, 32, 116, 104, 101, 32, 108, 97, 115, 116, 32, 111, 110, 101] }

abbrev xerrNoPage : ByteArray := { data := #[116, 104, 101, 114, 101, 32, 105, 115, 32, 110, 111, 32, 112, 97, 103, 101, 32, 116, 111, 32, 115, 112, 97, 114, 101] }

noncomputable def low : Nat := (World.holding Tryz.prog default ⟨#[], #[], []⟩).heap.size

noncomputable def laidWorld (os : Os) : World :=
  let w0 := World.holding Tryz.prog os ⟨#[.cells #[.string xerrWrongShelf] 332, .cells #[.string xerrWrongOp] 332, .cells #[.string xerrNoBook] 332, .cells #[.string xerrBookThere] 332, .cells #[.string xerrFenced] 332, .cells #[.string xerrFixed] 332, .cells #[.string xerrRange] 332, .cells #[.string xerrManyBooks] 332, .cells #[.string xerrWorn] 332, .cells #[.string xerrNoPage] 332], #[], []⟩
  { w0 with heap := ((((((((((w0.heap.modify 0 fun
      | .cells _ t frozen => .cells #[.iface 312 (.pointer (some ⟨low + 0, 0, none⟩))] t frozen
      | o => o).modify 2 fun
      | .cells _ t frozen => .cells #[.iface 312 (.pointer (some ⟨low + 1, 0, none⟩))] t frozen
      | o => o).modify 3 fun
      | .cells _ t frozen => .cells #[.iface 312 (.pointer (some ⟨low + 2, 0, none⟩))] t frozen
      | o => o).modify 4 fun
      | .cells _ t frozen => .cells #[.iface 312 (.pointer (some ⟨low + 3, 0, none⟩))] t frozen
      | o => o).modify 5 fun
      | .cells _ t frozen => .cells #[.iface 312 (.pointer (some ⟨low + 4, 0, none⟩))] t frozen
      | o => o).modify 6 fun
      | .cells _ t frozen => .cells #[.iface 312 (.pointer (some ⟨low + 5, 0, none⟩))] t frozen
      | o => o).modify 7 fun
      | .cells _ t frozen => .cells #[.iface 312 (.pointer (some ⟨low + 6, 0, none⟩))] t frozen
      | o => o).modify 8 fun
      | .cells _ t frozen => .cells #[.iface 312 (.pointer (some ⟨low + 7, 0, none⟩))] t frozen
      | o => o).modify 9 fun
      | .cells _ t frozen => .cells #[.iface 312 (.pointer (some ⟨low + 8, 0, none⟩))] t frozen
      | o => o).modify 1 fun
      | .cells _ t frozen => .cells #[.iface 312 (.pointer (some ⟨low + 9, 0, none⟩))] t frozen
      | o => o).modify 10 fun
      | .cells _ t frozen => .cells #[.iface 207 (.agg #[.pointer (some ⟨12, 92, none⟩)])] t frozen
      | o => o }

set_option maxRecDepth 100000 in
theorem laid_ten (os : Os) (args : Array Value) : laidMetH Tryz.prog laidAll ((laidWorld os).forCall (fun _ _ => 0) ⟨#[], args, []⟩).memory :=
  laidMetH_of_parts (show laidMet Tryz.prog laidTen _ from laidMet_of_run (ps := [.cell 0 0, .cell (low + 0) 0, .cell 2 0, .cell (low + 1) 0, .cell 3 0, .cell (low + 2) 0, .cell 4 0, .cell (low + 3) 0, .cell 5 0, .cell (low + 4) 0, .cell 6 0, .cell (low + 5) 0, .cell 7 0, .cell (low + 6) 0, .cell 8 0, .cell (low + 7) 0, .cell 9 0, .cell (low + 8) 0, .cell 1 0, .cell (low + 9) 0]) 8 (by kernel_rfl) (by kernel_rfl) (by kernel_rfl)) (by kernel_rfl)
end Go.Proofs.YtaekdfknkgmfbaaGreatDoor

namespace Go.Proofs.YtaekdfknkgmfbaaGreatDoor.fnExactReads
open Go

set_option linter.unusedVariables false


theorem both {a b : Bool} (h : a = true) (k : b = true) : (a && b) = true := by rw [h, k]; rfl

theorem hfn : Tryz.prog.funcNamed Rows.fnExactReadsRow.func = some 10 := by kernel_rfl

set_option maxRecDepth 100000 in
set_option maxHeartbeats 12800000 in
theorem closed : joinedFacts Tryz.prog 10 Tryz.f10 Rows.fnExactReadsSpec Rows.fnExactReadsRow = true := by
  unfold joinedFacts
  refine both (both (both (both (both (both (both (both (both (both (both (both (both (both (both (both (both (both (both (both (both (both (both (both (both (both (both (both (both (both (both ?_ ?_) ?_) ?_) ?_) ?_) ?_) ?_) ?_) ?_) ?_) ?_) ?_) ?_) ?_) ?_) ?_) ?_) ?_) ?_) ?_) ?_) ?_) ?_) ?_) ?_) ?_) ?_) ?_) ?_) ?_) ?_
  all_goals as_aux_lemma => kernel_rfl

theorem hinst : Tryz.f10.isInstance Tryz.prog Rows.fnExactReadsRow.origin Rows.fnExactReadsRow.targs := of_decide_eq_true (by kernel_rfl)

theorem hwrap : Tryz.f10.isWrapper Tryz.prog Rows.fnExactReadsRow.wrapper Rows.fnExactReadsRow.mainSum := by unfold Func.isWrapper; first | (rw [if_pos (by decide +kernel)]; kernel_rfl) | (rw [if_neg (by decide +kernel)]; exact ⟨rfl, rfl⟩)

theorem byText : Rows.fnExactReadsRow.wfByText (OpenSpec.ofChange Rows.fnExactReadsSpec) = true := by kernel_rfl

theorem mainIs : Tryz.prog.mainIs = some (true, "b2287236bee097b051ce9616ae8ae0340ef641078460b544a384993f62e4c8ab".toList) := by kernel_rfl

theorem looks : true = Tryz.prog.looks [] := by kernel_rfl

theorem goes : false = Rows.fnExactReadsRow.goesBy Tryz.prog := by kernel_rfl

theorem stand2 : Tryz.prog.wantsStandIn 2 = false := by kernel_rfl

theorem stand9 : Tryz.prog.wantsStandIn 9 = false := by kernel_rfl

theorem stand72 : Tryz.prog.wantsStandIn 72 = false := by kernel_rfl
end Go.Proofs.YtaekdfknkgmfbaaGreatDoor.fnExactReads

namespace Go.Proofs.YtaekdfknkgmfbaaGreatDoor
open Go.RowKit

set_option linter.unusedVariables false

set_option maxRecDepth 100000


/-- The bytes of an argument, below block c. -/
def Src (w : World) (c : Nat) (x : Option Addr) (len : Nat) : Prop :=
  len ≤ maxLen ∧ ∀ j, j < len → ∃ b off z, x = some ⟨b, off, none⟩ ∧ b < c ∧ w.cell? ⟨b, off + j, none⟩ = some (.int .u8 z) ∧ 0 ≤ z ∧ z ≤ 255

theorem Src.below {w w' : World} {c : Nat} {x : Option Addr} {len : Nat} (h : Src w c x len) (k : Below c w w') : Src w' c x len :=
  ⟨h.1, fun j hj => by obtain ⟨b, off, z, e, hb, hz, r⟩ := h.2 j hj; exact ⟨b, off, z, e, hb, (k.cell (p := ⟨b, off + j, none⟩) hb).trans hz, r⟩⟩

theorem Src.mono {w : World} {c d : Nat} {x : Option Addr} {len : Nat} (h : Src w c x len) (k : c ≤ d) : Src w d x len :=
  ⟨h.1, fun j hj => by obtain ⟨b, off, z, e, hb, r⟩ := h.2 j hj; exact ⟨b, off, z, e, Nat.lt_of_lt_of_le hb k, r⟩⟩

theorem Cur.new {w : World} {x : Option Addr} {len cap : Nat} (h : Src w w.heap.size x len) (q : Int) (t : TypeId) :
    Cur (w.alloc (.cells #[.slice x len cap, .int .i64 0, .int .i64 q] t)) w.heap.size x len cap := by
  have hb : Below w.heap.size w (w.alloc (.cells #[.slice x len cap, .int .i64 0, .int .i64 q] t)) := (Below.refl _ _).alloc (Nat.le_refl _) _
  refine ⟨by simp [go_sem], h.1, by simp [go_sem], ⟨0, q, Nat.zero_le _, by simp [go_sem], by simp [go_sem]⟩, by simp [go_sem], by simp [go_sem], fun j hj => ?_⟩
  obtain ⟨b, off, z, e, hb', hz, r⟩ := h.2 j hj
  exact ⟨b, off, z, e, hb', (hb.cell (p := ⟨b, off + j, none⟩) hb').trans hz, r⟩
end Go.Proofs.YtaekdfknkgmfbaaGreatDoor

namespace Go.Proofs.YtaekdfknkgmfbaaGreatDoor
open Go.ChangeShapes Go.WideShapes Go.ChangeAt Go.RowKit Go.Joins

open Go.ChangeMaps (open_string)

set_option linter.unusedVariables false

set_option maxRecDepth 100000


theorem open_i64 {H : Type} {enc : TypeId × Value → H} {W : World} {base : Nat} {v : Value} {d : DataW H} {p : List MemPlace} (hv : Value.okWide Tryz.prog W .any base 2 v) (h : DataW.Trod enc Tryz.prog W 0 (fun _ => true) true 2 v d p) :
    ∃ a : Int, v = .int .i64 a ∧ (Lit.int .i64 a).wf = true := by
  obtain ⟨a, rfl, _, _, w⟩ := open_int Tryz.underlying2 hv h
  exact ⟨a, rfl, w⟩

theorem open_str {H : Type} {enc : TypeId × Value → H} {W : World} {base : Nat} {v : Value} {d : DataW H} {p : List MemPlace} (hv : Value.okWide Tryz.prog W .any base 9 v) (h : DataW.Trod enc Tryz.prog W 0 (fun _ => true) true 9 v d p) :
    ∃ s : ByteArray, v = .string s ∧ s.size ≤ maxLen := by
  obtain ⟨s, rfl, _, _, w⟩ := open_string Tryz.underlying9 hv h
  exact ⟨s, rfl, w⟩

/-- A row of integers, read out of whatever it lies in. -/
theorem row_i64 {H : Type} {enc : TypeId × Value → H} {W : World} {n : Nat} {v : Value} {y : DataW H × List MemPlace} (h : DataW.trod enc Tryz.prog W 0 (fun _ => true) true n 24 [v] = some y) :
    ∃ xs : List Int, Reads W.heap.size W v (xs.map (Value.int .i64)) ∧ ∀ x ∈ xs, (Lit.int .i64 x).wf = true := by
  rcases open_ints Tryz.underlying24 Tryz.underlying2 (by kernel_rfl) h with ⟨hcs, _⟩ | ⟨x, len, cap, zs, hcs, _, hl, hm, hz, _, hcell, hwz⟩
  · simp at hcs
    subst hcs
    exact ⟨[], ⟨none, 0, rfl, Nat.zero_le _, fun j u hj => absurd hj (by simp), Nat.le_refl _⟩, fun x hx => absurd hx (by simp)⟩
  · simp at hcs
    subst hcs
    have hzz : zs.length = cap := by simpa using hz
    refine ⟨zs.take len, ⟨some x, cap, by simp; omega, by simp; omega, fun j u hj => ?_, by simp; omega⟩, fun y hy => hwz y (List.mem_of_mem_take hy)⟩
    have hjl : j < len := by have := (List.getElem?_eq_some_iff.1 hj).1; simp at this; omega
    have hc := hcell j (by omega)
    obtain ⟨b, off, spot⟩ := x
    have hspot : spot = none := by simpa [Addr.add] using World.cell?_spot (hcell 0 (by omega))
    subst hspot
    have e : (⟨b, off, none⟩ : Addr).add j = ⟨b, off + j, none⟩ := by unfold Addr.add; split <;> simp_all
    rw [e] at hc
    have hb : b < W.heap.size := by
      rcases Nat.lt_or_ge b W.heap.size with q | q
      · exact q
      · simp [World.cell?, Array.getElem?_eq_none q] at hc
    refine ⟨b, off, rfl, hb, ?_⟩
    rw [hc, ← hj, List.getElem?_map, List.getElem?_take_of_lt hjl, List.getD_eq_getElem?_getD, List.getElem?_eq_getElem (by omega)]
    rfl
end Go.Proofs.YtaekdfknkgmfbaaGreatDoor

