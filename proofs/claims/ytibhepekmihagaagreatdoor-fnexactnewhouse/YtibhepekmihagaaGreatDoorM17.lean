/-
  Contracts and plain laws, one chapter behind the other.
-/
import Derived.Laws.MakeOwn
import Derived.Laws.StructEq
import Derived.BigQuiet
import Derived.Deep.DeepCutAuto
import Derived.Deep.RegionHeld3
import Derived.Test.YtibhepekmihagaaGreatDoorM02
import Derived.Test.YtibhepekmihagaaGreatDoorM03
import Derived.Test.YtibhepekmihagaaGreatDoorM04
import Derived.Test.YtibhepekmihagaaGreatDoorM05
import Derived.Test.YtibhepekmihagaaGreatDoorM07
import Derived.Test.YtibhepekmihagaaGreatDoorM09
import Derived.Test.YtibhepekmihagaaGreatDoorM11
import Derived.Test.YtibhepekmihagaaGreatDoorM12
import Derived.Test.YtibhepekmihagaaGreatDoorM14
import Derived.Test.YtibhepekmihagaaGreatDoorM16
namespace Go.Proofs.YtibhepekmihagaaGreatDoor
open Go.RowKit

set_option linter.unusedVariables false

set_option maxRecDepth 100000


/-- A reply's cells. -/
def repC (r : Int × Int) : List Value := [.int .i64 r.1, .int .i64 r.2]

theorem repC_len (r : Int × Int) : (repC r).length = 2 := rfl

theorem Tryz.infoRep : (Tryz.prog.info? 126).map (fun i => (i.zero, i.size, i.bytes)) = some (some (.agg #[.int .i64 0, .int .i64 0]), 2, 16) := by kernel_rfl

theorem two_cells {B : Nat} {w : World} {o : Option Addr} {rs : List (Int × Int)} (hc : ∀ i x, rs[i]? = some x → ∃ g off, o = some ⟨g, off, none⟩ ∧ g < B ∧ ∀ j u, (repC x)[j]? = some u → w.cell? ⟨g, off + i * 2 + j, none⟩ = some u) (i : Nat) (hi : i < rs.length) :
    ∃ g off, o = some ⟨g, off, none⟩ ∧ g < B ∧ w.cell? ⟨g, off + i * 2, none⟩ = some (.int .i64 rs[i].1) ∧ w.cell? ⟨g, off + i * 2 + 1, none⟩ = some (.int .i64 rs[i].2) := by
  obtain ⟨g, off, e, hg, hx⟩ := hc i rs[i] (List.getElem?_eq_getElem hi)
  exact ⟨g, off, e, hg, hx 0 _ rfl, hx 1 _ rfl⟩

theorem eqReply_any (f c f' c' : Int) (w : World) :
    Calls Tryz.prog 97 #[.agg #[.int .i64 f, .int .i64 c], .agg #[.int .i64 f', .int .i64 c']] w fun e w' => e = .returned (.bool (decide ((f, c) = (f', c')))) ∧ Below w.heap.size w w' := by
  by_cases e1 : f = f'
  · subst e1
    by_cases e2 : c = c'
    · subst e2
      go_enter Tryz.func97, Tryz.ntmps97
      go_wp2
      go_ret
      exact ⟨ret_bool (by simp), bw_alloc (bw_alloc (Below.refl _ _))⟩
    · have h1 : (c == c') = false := by simpa using e2
      have h2 : (c != c') = true := by simpa using e2
      go_enter Tryz.func97, Tryz.ntmps97
      go_wp2
      go_ret
      exact ⟨ret_bool (by simp [e2]), bw_alloc (bw_alloc (Below.refl _ _))⟩
  · have h1 : (f == f') = false := by simpa using e1
    have h2 : (f != f') = true := by simpa using e1
    go_enter Tryz.func97, Tryz.ntmps97
    go_wp2
    go_ret
    exact ⟨ret_bool (by simp [e1]), bw_alloc (bw_alloc (Below.refl _ _))⟩

set_option maxHeartbeats 800000 in
theorem eqReps_any (v1 v2 : Value) (xs ys : List (Int × Int)) (w : World) (h1 : ReadsR 2 repC w.heap.size w v1 xs) (h2 : ReadsR 2 repC w.heap.size w v2 ys) :
    Calls Tryz.prog 46 #[v1, v2] w fun e w' => e = .returned (.bool (decide (xs = ys))) ∧ Below w.heap.size w w' := by
  obtain ⟨o1, cap1, rfl, m1, c1, -⟩ := h1
  obtain ⟨o2, cap2, rfl, m2, c2, -⟩ := h2
  by_cases hlen : xs.length = ys.length
  · rw [← hlen]
    have C1 : Hid _ := two_cells c1
    have C2 : Hid _ := two_cells c2
    have HL : Hid (xs.length = ys.length) := hlen
    have hle : ys.length ≤ xs.length := by omega
    have hge : xs.length ≤ ys.length := by omega
    unfold maxLen at m1
    clear c1 c2 m2 hlen
    go_enter Tryz.func46, Tryz.ntmps46
    go_wp2
    go_loopw [5] (fun i wr => ∃ k : Nat, k ≤ xs.length ∧ i = .int .i64 k ∧ xs.take k = ys.take k ∧ Below w.heap.size w wr) (fun i _ => xs.length - (intOf i).toNat)
    case atStart => exact ⟨0, Nat.zero_le _, rfl, rfl, Below.refl _ _⟩
    case round =>
      obtain ⟨k, hk, rfl, htk, hb⟩ := hrel
      have HT : Hid (xs.take k = ys.take k) := htk
      clear htk
      by_cases hlt : k < xs.length
      · have hlt2 : k < ys.length := by omega
        obtain ⟨g1, of1, rfl, q1, a0, a1⟩ := C1.out k hlt
        obtain ⟨g2, of2, rfl, q2, b0, b1⟩ := C2.out k hlt2
        have HE : Hid (xs[k] = ys[k] → xs.take (k + 1) = ys.take (k + 1)) := fun e => take_more xs ys k hlt hlt2 HT.out e
        have HNE : Hid (xs[k] ≠ ys[k] → ¬ xs = ys) := fun e => ne_at xs ys k hlt hlt2 e
        generalize xs[k] = x at a0 a1 HE HNE
        generalize ys[k] = y at b0 b1 HE HNE
        obtain ⟨f, c⟩ := x
        obtain ⟨f', c'⟩ := y
        simp only at a0 a1 b0 b1
        have hne := BelowOf.any wr
        have l1 : g1 < wr.heap.size := Nat.lt_of_lt_of_le q1 hb.size
        have l2 : g2 < wr.heap.size := Nat.lt_of_lt_of_le q2 hb.size
        have d0 := BelowOf.cell ((hb.cell (p := ⟨g1, of1 + k * 2, none⟩) q1).trans a0) l1
        have d1 := BelowOf.cell ((hb.cell (p := ⟨g1, of1 + k * 2 + 1, none⟩) q1).trans a1) l1
        have f0 := BelowOf.cell ((hb.cell (p := ⟨g2, of2 + k * 2, none⟩) q2).trans b0) l2
        have f1 := BelowOf.cell ((hb.cell (p := ⟨g2, of2 + k * 2 + 1, none⟩) q2).trans b1) l2
        have g1' : (0 : Int) ≤ (k : Int) := by omega
        have g2' : (k : Int) < (xs.length : Int) := by omega
        clear a0 a1 b0 b1 C1 C2
        obtain ⟨dd, hdd⟩ : ∃ dd, decide ((f, c) = (f', c')) = dd := ⟨_, rfl⟩
        have HD : Hid _ := hdd
        have HEQ : ∀ q : BelowOf wr, Calls Tryz.prog 97 #[.agg #[.int .i64 f, .int .i64 c], .agg #[.int .i64 f', .int .i64 c']] q.w' fun e w' => e = .returned (.bool dd) ∧ Below q.w'.heap.size q.w' w' := fun q => by have h := eqReply_any f c f' c' q.w'; rwa [hdd] at h
        clear hdd
        go_wp2_with fail
        refine wp_region_of (by kernel_rfl) (by kernel_rfl) ?_
        repeat (go_big_quiet_step ((first | (go_at_call 97; exact calls_of (HEQ _)) | rfl)))
        refine wpQuiet_nil ?_
        intro w5 hw5
        obtain ⟨⟨wx, cx⟩, hwx⟩ := hw5
        have b5 : Below wr.heap.size wr w5 := by rw [hwx]; exact cx
        have hb5 := hb.trans (b5.mono hb.size)
        clear hwx cx wx hne d0 d1 f0 f1 HEQ
        cases dd
        · go_wp2_with fail
          go_ret
          exact ⟨ret_bool (decide_eq_false (HNE.out (of_decide_eq_false HD.out))).symm, hb5⟩
        · have HT2 : Hid _ := HE.out (of_decide_eq_true HD.out)
          go_wp2_with fail
          go_roundw
          case rel => exact ⟨k + 1, by omega, by go_num, HT2.out, hb5⟩
          case measure => simp [intOf]; omega
      · go_wp2
        go_ret
        exact ⟨ret_bool (by simp [all_taken xs ys k hlt HL.out HT.out]), hb⟩
  · have hn : ((xs.length : Int) != (ys.length : Int)) = true := by rw [bne_iff_ne]; omega
    have HX : Hid (decide (xs = ys) = false) := by rw [Hid, decide_eq_false_iff_not]; intro e; rw [e] at hlen; exact hlen rfl
    unfold maxLen at m1 m2
    clear hlen c1 c2
    go_enter Tryz.func46, Tryz.ntmps46
    go_wp2
    go_ret
    exact ⟨ret_bool HX.out.symm, Below.refl _ _⟩

/-- make([]impl.Reply, n): a row of zero runs, at the end of memory. -/
theorem made_reps (n : Nat) (hn : n ≤ 1048576) : ∃ M : Array Value, (∀ W : World, (Instr.makeSlice 29 (.int .i64 (n : Int)) (.int .i64 (n : Int))).run Tryz.prog W = .ok (.slice (some ⟨W.heap.size, 0, none⟩) n n) (W.alloc (.cells M 126))) ∧
    ∀ (W : World) (base : Nat), base ≤ W.heap.size → (W.alloc (.cells M 126)).ownsRow base 126 2 (.slice (some ⟨W.heap.size, 0, none⟩) n n) (List.replicate n ((0 : Int), (0 : Int))).length ((List.replicate n ((0 : Int), (0 : Int))).flatMap repC) := by
  obtain ⟨i0, hi, hz0, hz1, hz2⟩ := info_parts Tryz.infoRep
  have e := toList_made (cs := repC) repC_len (by omega) ((0 : Int), (0 : Int)) (Value.agg #[.int .i64 0, .int .i64 0]).cells rfl n
  refine ⟨madeCells (Value.agg #[.int .i64 0, .int .i64 0]).cells (n * 2), fun W => ?_, fun W base hb => ?_⟩
  · have h := run_make (P := Tryz.prog) W 29 126 i0 (.agg #[.int .i64 0, .int .i64 0]) Tryz.underlying29 hi hz0 .i64 .i64 (n : Int) (n : Int) (by omega) (by omega) (by rw [hz2]; omega) (by omega)
    rw [hz1, Int.toNat_natCast] at h
    simpa using h
  · have h := World.ownsRow_lit (base := base) (size := 2) (e := 126) W (madeCells (Value.agg #[.int .i64 0, .int .i64 0]).cells (n * 2)) n hb (by unfold maxLen; omega) (by rw [size_madeCells])
    rw [e] at h
    rwa [List.length_replicate]

/-- A whole reply is written. -/
theorem own_rep {w : World} {base g n cap : Nat} {xs : List (Int × Int)} (h : w.ownsRow base 126 2 (.slice (some ⟨g, 0, none⟩) n cap) xs.length (xs.flatMap repC)) (i : Nat) (hi : i < xs.length) (f c : Int) :
    ((w.setCell ⟨g, i * 2, none⟩ (.int .i64 f)).setCell ⟨g, i * 2 + 1, none⟩ (.int .i64 c)).ownsRow base 126 2 (.slice (some ⟨g, 0, none⟩) n cap) (xs.set i (f, c)).length ((xs.set i (f, c)).flatMap repC) := by
  have h1 := own_put repC_len h i 0 xs[i] (f, xs[i].2) (.int .i64 f) (List.getElem?_eq_getElem hi) (by omega) rfl
  have h2 := own_put repC_len h1 i 1 (f, xs[i].2) (f, c) (.int .i64 c) (by simp [hi]) (by omega) rfl
  rw [List.set_set] at h2
  exact h2

/-- A reply's two cells, in a row of one's own. -/
theorem own_two {w : World} {base g n cap : Nat} {xs : List (Int × Int)} (h : w.ownsRow base 126 2 (.slice (some ⟨g, 0, none⟩) n cap) xs.length (xs.flatMap repC)) (i : Nat) (hi : i < xs.length) :
    (w.cell? ⟨g, i * 2, none⟩ = some (.int .i64 xs[i].1) ∧ w.cell? ⟨g, i * 2 + 1, none⟩ = some (.int .i64 xs[i].2)) ∧ w.frozen? ⟨g, i * 2, none⟩ = false ∧ w.frozen? ⟨g, i * 2 + 1, none⟩ = false := by
  obtain ⟨a0, b0⟩ := own_cell repC_len h i 0 _ (List.getElem?_eq_getElem hi) (by omega)
  obtain ⟨a1, b1⟩ := own_cell repC_len h i 1 _ (List.getElem?_eq_getElem hi) (by omega)
  exact ⟨⟨a0, a1⟩, b0, b1⟩

def marksP (k : Int) (n : Nat) : List (Int × Int) := (List.range n).map fun i : Nat => (k + 2 * (i : Int), k + 2 * (i : Int) + 1)

theorem marksP_length (k : Int) (n : Nat) : (marksP k n).length = n := by simp [marksP]

theorem marksP_get (k : Int) (n j : Nat) (h : j < (marksP k n).length) : (marksP k n)[j] = (k + 2 * (j : Int), k + 2 * (j : Int) + 1) := by simp [marksP]

theorem marksP_set (k : Int) (xs : List (Int × Int)) (j : Nat) (h : j < xs.length) : (marksP k j ++ xs.drop j).set j (k + 2 * (j : Int), k + 2 * (j : Int) + 1) = marksP k (j + 1) ++ xs.drop (j + 1) := by
  have hl : (marksP k j).length = j := marksP_length k j
  have hs : marksP k (j + 1) = marksP k j ++ [(k + 2 * (j : Int), k + 2 * (j : Int) + 1)] := by simp [marksP, List.range_succ]
  rw [List.set_append_right _ _ (by omega), hl, Nat.sub_self, List.drop_eq_getElem_cons h, List.set_cons_zero, hs]
  exact (List.append_assoc _ [_] _).symm

set_option maxHeartbeats 1600000 in
theorem markedP_any (g cap n base : Nat) (k : Int) (xs : List (Int × Int)) (w : World) (hk : 0 ≤ k) (hk2 : k ≤ 1073741824) (hx : xs.length = n) (hn : n ≤ 1048576) (own : w.ownsRow base 126 2 (.slice (some ⟨g, 0, none⟩) n cap) xs.length (xs.flatMap repC)) :
    Calls Tryz.prog 52 #[.slice (some ⟨g, 0, none⟩) n cap, .int .i64 k] w fun e w' => e = .returned (.int .i64 (k + 2 * n)) ∧ w'.ownsRow base 126 2 (.slice (some ⟨g, 0, none⟩) n cap) (marksP k n).length ((marksP k n).flatMap repC) ∧ Upto g w w' := by
  have HX : Hid (xs.length = n) := hx
  have hx1 : n ≤ xs.length := by omega
  clear hx
  go_enter Tryz.func52, Tryz.ntmps52
  go_wp2
  go_loopw [1, 5] (fun q i wr => ∃ j : Nat, j ≤ n ∧ i = .int .i64 j ∧ q = .int .i64 (k + 2 * j) ∧ wr.ownsRow base 126 2 (.slice (some ⟨g, 0, none⟩) n cap) (marksP k j ++ xs.drop j).length ((marksP k j ++ xs.drop j).flatMap repC) ∧ Upto g w wr) (fun _ i _ => n - (intOf i).toNat)
  case atStart => exact ⟨0, Nat.zero_le _, rfl, by simp, by simpa [marksP] using own, Upto.refl _ _⟩
  case round =>
    obtain ⟨j, hj, rfl, rfl, ow, u⟩ := hrel
    clear own
    by_cases hlt : j < n
    · have hjl : j < (marksP k j ++ xs.drop j).length := by rw [List.length_append, marksP_length, List.length_drop]; omega
      obtain ⟨⟨t0, t1⟩, u0, u1⟩ := own_two ow j hjl
      have HST := own_rep ow j hjl (k + 2 * (j : Int)) (k + 2 * (j : Int) + 1)
      rw [marksP_set k xs j (by omega)] at HST
      have uf : Upto g w ((wr.setCell ⟨g, j * 2, none⟩ (.int .i64 (k + 2 * (j : Int)))).setCell ⟨g, j * 2 + 1, none⟩ (.int .i64 (k + 2 * (j : Int) + 1))) := (u.setCell _ (.inl rfl) _).setCell _ (.inl rfl) _
      have HO : Hid _ := And.intro HST uf
      generalize (marksP k j ++ xs.drop j)[j] = y at t0 t1
      clear HST uf ow u
      go_wp2_with fail
      go_roundw
      case rel => exact ⟨j + 1, by omega, by go_num, by go_num, HO.out.1, HO.out.2⟩
      case measure => simp [intOf]; omega
    · obtain rfl : j = n := by omega
      rw [List.drop_of_length_le (by have := HX.out; omega), List.append_nil] at ow
      go_wp2_with fail
      go_ret
      exact ⟨rfl, ow, u⟩

/-- A row of runs of one's own, marked; whatever lies in another block stays. -/
theorem markedPRow_any (v : Value) (base : Nat) (k : Int) (xs : List (Int × Int)) (w : World) (hk : 0 ≤ k) (hk2 : k ≤ 1073741824) (hn : xs.length ≤ 1048576) (hbase : base ≤ w.heap.size) (own : w.ownsRow base 126 2 v xs.length (xs.flatMap repC)) :
    Calls Tryz.prog 52 #[v, .int .i64 k] w fun e w' => e = .returned (.int .i64 (k + 2 * xs.length)) ∧ w'.ownsRow base 126 2 v (marksP k xs.length).length ((marksP k xs.length).flatMap repC) ∧ Below base w w' ∧ w.heap.size ≤ w'.heap.size ∧ ∀ i, i < w.heap.size → v.ownBlock ≠ some i → w'.heap[i]? = w.heap[i]? := by
  rcases own.2 with ⟨rfl, h0⟩ | ⟨g, cap, cur, rfl, hg, _⟩
  · have hx : xs = [] := List.length_eq_zero_iff.1 h0
    subst hx
    go_enter Tryz.func52, Tryz.ntmps52
    go_wp2
    refine wp_loop_rounds 1 ?_
    rw [rounds_succ]
    go_wp2
    go_ret
    exact ⟨ret_int (by simp), World.ownsRow_nil _ _ _ _, Below.refl _ _, Nat.le_refl _, fun _ _ _ => rfl⟩
  · refine (markedP_any g cap xs.length base k xs w hk hk2 rfl hn own).mono ?_
    rintro e w' ⟨he, ho, hu⟩
    exact ⟨he, ho, hu.toBelow hbase hg, hu.size, fun i hi hn => hu.block i hi (fun e => hn (by rw [e]; rfl))⟩

set_option maxHeartbeats 1600000 in
theorem heldP_any (v : Value) (n : Nat) (k : Int) (w : World) (hk : 0 ≤ k) (hk2 : k ≤ 1073741824) (hn : n ≤ 1048576) (hr : ReadsR 2 repC w.heap.size w v (marksP k n)) :
    Calls Tryz.prog 56 #[v, .int .i64 k] w fun e w' => e = .returned (.int .i64 (k + 2 * n)) ∧ Below w.heap.size w w' := by
  obtain ⟨o, cap, rfl, hm, hc, -⟩ := hr
  have HC : Hid _ := two_cells hc
  rw [marksP_length] at hm ⊢
  clear hc hm
  go_enter Tryz.func56, Tryz.ntmps56
  go_wp2
  go_loopw [1, 5] (fun q i wr => ∃ j : Nat, j ≤ n ∧ i = .int .i64 j ∧ q = .int .i64 (k + 2 * j) ∧ wr = w) (fun _ i _ => n - (intOf i).toNat)
  case atStart => exact ⟨0, Nat.zero_le _, rfl, by simp, rfl⟩
  case round =>
    obtain ⟨j, hj, rfl, rfl, rfl⟩ := hrel
    by_cases hlt : j < n
    · have hjl : j < (marksP k n).length := by rw [marksP_length]; exact hlt
      obtain ⟨g, off, rfl, hg, a0, a1⟩ := HC.out j hjl
      rw [marksP_get k n j hjl] at a0 a1
      simp only at a0 a1
      clear HC hjl
      go_wp2
      go_roundw
      case rel => exact ⟨j + 1, by omega, by go_num, by go_num, by trivial⟩
      case measure => simp [intOf]; omega
    · obtain rfl : j = n := by omega
      go_wp2_with fail
      go_ret
      exact ⟨rfl, Below.refl _ _⟩
end Go.Proofs.YtibhepekmihagaaGreatDoor

namespace Go.Proofs.YtibhepekmihagaaGreatDoor
open Go.RowKit

set_option linter.unusedVariables false

set_option maxRecDepth 100000


/-- A memo that is read: its rows. -/
structure RM (B : Nat) (w : World) (v1 v2 : Value) (ts : List Int) (rs : List (Int × Int)) : Prop where
  t : Reads B w v1 (ts.map (Value.int .i64))
  r : ReadsR 2 repC B w v2 rs

theorem RM.below {B : Nat} {w w' : World} {v1 v2 : Value} {ts : List Int} {rs : List (Int × Int)} (h : RM B w v1 v2 ts rs) (k : Below B w w') : RM B w' v1 v2 ts rs := ⟨h.t.below k, h.r.below k⟩

theorem RM.mono {B B' : Nat} {w : World} {v1 v2 : Value} {ts : List Int} {rs : List (Int × Int)} (h : RM B w v1 v2 ts rs) (k : B ≤ B') : RM B' w v1 v2 ts rs := ⟨h.t.mono k, h.r.mono k⟩

theorem RM.of {B : Nat} {W : World} {v1 v2 : Value} {ts : List Int} {rs : List (Int × Int)} (h : RM B W v1 v2 ts rs) (y : B ≤ W.heap.size) (p : BelowOf W) : RM p.w'.heap.size p.w' v1 v2 ts rs := ((h.mono y).below p.h).mono p.h.size

theorem RM.forms {B : Nat} {w : World} {v1 v2 : Value} {ts : List Int} {rs : List (Int × Int)} (h : RM B w v1 v2 ts rs) : ∃ o1 k1 o2 k2, v1 = .slice o1 ts.length k1 ∧ v2 = .slice o2 rs.length k2 := by
  obtain ⟨⟨o, k, e, -⟩, ⟨o', k', e', -⟩⟩ := h
  exact ⟨o, k, o', k', by rw [e, List.length_map], e'⟩

/-- A memo whose rows are the call's own (they lie apart: their types differ). -/
structure OwnM (base : Nat) (w : World) (v1 v2 : Value) (ts : List Int) (rs : List (Int × Int)) : Prop where
  t : w.ownsRow base 2 1 v1 ts.length (ts.map (Value.int .i64))
  r : w.ownsRow base 126 2 v2 rs.length (rs.flatMap repC)

theorem OwnM.below {base : Nat} {w w' : World} {v1 v2 : Value} {ts : List Int} {rs : List (Int × Int)} (h : OwnM base w v1 v2 ts rs) (b : Below w.heap.size w w') : OwnM base w' v1 v2 ts rs := ⟨owns_below h.t b, owns_below h.r b⟩

theorem OwnM.mono {base base' : Nat} {w : World} {v1 v2 : Value} {ts : List Int} {rs : List (Int × Int)} (h : OwnM base w v1 v2 ts rs) (b : base' ≤ base) : OwnM base' w v1 v2 ts rs := ⟨owns_mono h.t b, owns_mono h.r b⟩

theorem OwnM.upto {base c : Nat} {w w' : World} {v1 v2 : Value} {ts : List Int} {rs : List (Int × Int)} (h : OwnM base w v1 v2 ts rs) (u : Upto c w w') (hc : c < base) : OwnM base w' v1 v2 ts rs := ⟨ownsRow_upto h.t u hc, ownsRow_upto h.r u hc⟩

theorem OwnM.reads {base : Nat} {w : World} {v1 v2 : Value} {ts : List Int} {rs : List (Int × Int)} (h : OwnM base w v1 v2 ts rs) : RM w.heap.size w v1 v2 ts rs := ⟨Reads.of_own h.t, ReadsR.of_own repC_len h.r⟩

theorem OwnM.nil (base : Nat) (w : World) : OwnM base w (.slice none 0 0) (.slice none 0 0) [] [] := ⟨owns_nil _ _ _ _, owns_nil _ _ _ _⟩

theorem OwnM.rng {lo hi base : Nat} {w w' : World} {v1 v2 : Value} {ts : List Int} {rs : List (Int × Int)} (h : OwnM base w v1 v2 ts rs) (k : Rng lo hi w w') (hb : hi ≤ base) : OwnM base w' v1 v2 ts rs := ⟨own_rng h.t k hb, own_rng h.r k hb⟩

theorem OwnM.span {base : Nat} {w : World} {v1 v2 : Value} {ts : List Int} {rs : List (Int × Int)} (h : OwnM base w v1 v2 ts rs) : ∀ g, (v1.ownBlock = some g ∨ v2.ownBlock = some g) → base ≤ g ∧ g < w.heap.size := by
  rintro g (h1 | h1)
  · exact h.t.lt g h1
  · exact h.r.lt g h1

/-- Two rows of one's own, whose elements are of two types, lie in two blocks. -/
theorem rows_two {w : World} {b1 b2 k1 k2 n1 n2 : Nat} {e1 e2 : TypeId} {v1 v2 : Value} {x1 x2 : List Value} (h1 : w.ownsRow b1 e1 k1 v1 n1 x1) (h2 : w.ownsRow b2 e2 k2 v2 n2 x2) (he : e1 ≠ e2) : ∀ g, v1.ownBlock = some g → v2.ownBlock ≠ some g := by
  intro g hg
  rcases h1.2 with ⟨rfl, _⟩ | ⟨g1, cap1, cur1, rfl, _, hh, _⟩
  · cases hg
  · simp [Value.ownBlock] at hg
    subst hg
    intro h
    rcases h2.2 with ⟨rfl, _⟩ | ⟨g2, cap2, cur2, rfl, _, hh2, _⟩
    · cases h
    · simp [Value.ownBlock] at h
      subst h
      rw [hh] at hh2
      simp at hh2
      exact he hh2.2

theorem OwnM.apart {base : Nat} {w : World} {v1 v2 : Value} {ts : List Int} {rs : List (Int × Int)} (h : OwnM base w v1 v2 ts rs) : ∀ g, v1.ownBlock = some g → v2.ownBlock ≠ some g := rows_two h.t h.r (by decide)
end Go.Proofs.YtibhepekmihagaaGreatDoor

namespace Go.Proofs.YtibhepekmihagaaGreatDoor
open Go.RowKit

set_option linter.unusedVariables false

set_option maxRecDepth 100000


theorem new_endM {w W0 : World} {M1 M2 : Array Value} {x y : Value} (k0 : W0.heap[w.heap.size]? = some (.cells #[x, y] 31 (0, 0))) (d0 : Below w.heap.size w W0) (z0 : W0.heap.size = w.heap.size + 1)
    (hown1 : ∀ (W : World) (base : Nat), base ≤ W.heap.size → (W.alloc (.cells M1 2)).ownsRow base 2 1 (.slice (some ⟨W.heap.size, 0, none⟩) 4 4) 4 ([0, 0, 0, 0].map (Value.int .i64)))
    (hown2 : ∀ (W : World) (base : Nat), base ≤ W.heap.size → (W.alloc (.cells M2 126)).ownsRow base 126 2 (.slice (some ⟨W.heap.size, 0, none⟩) 4 4) 4 (([(0, 0), (0, 0), (0, 0), (0, 0)] : List (Int × Int)).flatMap repC))
    (a b : Nat) (oa ob : Obj) (hab : (a = w.heap.size + 1 ∧ b = w.heap.size + 1 + 1 ∧ oa = .cells M1 2 ∧ ob = .cells M2 126) ∨ (a = w.heap.size + 1 + 1 ∧ b = w.heap.size + 1 ∧ oa = .cells M2 126 ∧ ob = .cells M1 2)) :
    (((((W0.setCell ⟨w.heap.size, 0, none⟩ (.slice (some ⟨a, 0, none⟩) 4 4)).setCell ⟨w.heap.size, 1, none⟩ (.slice (some ⟨b, 0, none⟩) 4 4)).alloc oa).alloc ob).drew).heap[w.heap.size]? = some (.cells #[.slice (some ⟨a, 0, none⟩) 4 4, .slice (some ⟨b, 0, none⟩) 4 4] 31 (0, 0)) ∧
    OwnM w.heap.size (((((W0.setCell ⟨w.heap.size, 0, none⟩ (.slice (some ⟨a, 0, none⟩) 4 4)).setCell ⟨w.heap.size, 1, none⟩ (.slice (some ⟨b, 0, none⟩) 4 4)).alloc oa).alloc ob).drew) (.slice (some ⟨a, 0, none⟩) 4 4) (.slice (some ⟨b, 0, none⟩) 4 4) [0, 0, 0, 0] [(0, 0), (0, 0), (0, 0), (0, 0)] ∧
    Below w.heap.size w (((((W0.setCell ⟨w.heap.size, 0, none⟩ (.slice (some ⟨a, 0, none⟩) 4 4)).setCell ⟨w.heap.size, 1, none⟩ (.slice (some ⟨b, 0, none⟩) 4 4)).alloc oa).alloc ob).drew) := by
  obtain ⟨h1, h2⟩ := set_two k0 (.slice (some ⟨a, 0, none⟩) 4 4) (.slice (some ⟨b, 0, none⟩) 4 4)
  generalize hW : (W0.setCell ⟨w.heap.size, 0, none⟩ (.slice (some ⟨a, 0, none⟩) 4 4)).setCell ⟨w.heap.size, 1, none⟩ (.slice (some ⟨b, 0, none⟩) 4 4) = W1 at h1 h2 ⊢
  have s1 : W1.heap.size = w.heap.size + 1 := by rw [← hW, World.size_setCell, World.size_setCell, z0]
  clear hW
  have s2 : (W1.alloc oa).heap.size = w.heap.size + 1 + 1 := by simp [s1]
  have e1 := (Below.heap_alloc (W1.alloc oa) ob w.heap.size (by omega)).trans ((Below.heap_alloc W1 oa w.heap.size (by omega)).trans h1)
  refine ⟨e1, ?_, bw_drew (bw_alloc (bw_alloc (d0.trans (h2.toBelow (by omega) (Nat.le_refl _)))))⟩
  rcases hab with ⟨rfl, rfl, rfl, rfl⟩ | ⟨rfl, rfl, rfl, rfl⟩
  · have o1 := hown1 W1 w.heap.size (by omega)
    have o2 := hown2 (W1.alloc (.cells M1 2)) w.heap.size (by omega)
    rw [s1] at o1
    rw [s2] at o2
    exact ⟨o1.alloc _, o2⟩
  · have o1 := hown2 W1 w.heap.size (by omega)
    have o2 := hown1 (W1.alloc (.cells M2 126)) w.heap.size (by omega)
    rw [s1] at o1
    rw [s2] at o2
    exact ⟨o2, o1.alloc _⟩

theorem specNewMemo_any (w : World) :
    Calls Tryz.prog 93 #[] w fun e w' => ∃ u1 u2 : Value, e = .returned (.agg #[u1, u2]) ∧ OwnM w.heap.size w' u1 u2 [0, 0, 0, 0] [(0, 0), (0, 0), (0, 0), (0, 0)] ∧ Below w.heap.size w w' := by
  obtain ⟨W0, hW0, k0, d0, z0⟩ := box1 w #[.slice none 0 0, .slice none 0 0] 31
  have HW0 : Hid (W0 = _) := hW0
  have p0 := at_cell k0 0
  have p1 := at_cell k0 1
  have f0 := at_open k0 0
  have f1 := at_open k0 1
  obtain ⟨M1, -, hmk1, hown1⟩ := made_ints 4 (by omega)
  obtain ⟨M2, hmk2, hown2⟩ := made_reps 4 (by omega)
  have hmk1' : ∀ W : World, (Instr.makeSlice 23 (.int .i64 4) (.int .i64 4)).run Tryz.prog W = .ok (.slice (some ⟨W.heap.size, 0, none⟩) 4 4) (W.alloc (.cells M1 2)) := hmk1
  have hmk2' : ∀ W : World, (Instr.makeSlice 29 (.int .i64 4) (.int .i64 4)).run Tryz.prog W = .ok (.slice (some ⟨W.heap.size, 0, none⟩) 4 4) (W.alloc (.cells M2 126)) := hmk2
  clear hmk1 hmk2 hW0
  go_enter Tryz.func93, Tryz.ntmps93
  go_wp2_with fail
  rw [← HW0.out]
  go_region
  · have HS : Hid _ := new_endM k0 d0 z0 hown1 hown2 (w.heap.size + 1) (w.heap.size + 1 + 1) _ _ (.inl ⟨rfl, rfl, rfl, rfl⟩)
    clear k0 d0 hown1 hown2 hmk1' hmk2' HW0
    go_wp2_with fail
    exact bodyPost_ret (v := .agg #[.slice (some ⟨w.heap.size + 1, 0, none⟩) 4 4, .slice (some ⟨w.heap.size + 1 + 1, 0, none⟩) 4 4]) (by simp [results, Tryz.results93, go_sem, at_cell HS.out.1]) rfl ⟨_, _, rfl, HS.out.2⟩
  · have HS : Hid _ := new_endM k0 d0 z0 hown1 hown2 (w.heap.size + 1 + 1) (w.heap.size + 1) _ _ (.inr ⟨rfl, rfl, rfl, rfl⟩)
    clear k0 d0 hown1 hown2 hmk1' hmk2' HW0
    go_wp2_with fail
    exact bodyPost_ret (v := .agg #[.slice (some ⟨w.heap.size + 1 + 1, 0, none⟩) 4 4, .slice (some ⟨w.heap.size + 1, 0, none⟩) 4 4]) (by simp [results, Tryz.results93, go_sem, at_cell HS.out.1]) rfl ⟨_, _, rfl, HS.out.2⟩
end Go.Proofs.YtibhepekmihagaaGreatDoor

