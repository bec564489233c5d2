/-
  Contracts and plain laws, one chapter behind the other.
-/
import Derived.Laws.MakeOwn
import Derived.WalkKit
import Derived.Deep.RegionLaw
import Derived.Test.YtjhfeegilhmgkaaGreatDoorM01
namespace Go.Proofs.YtjhfeegilhmgkaaGreatDoor
open Go.RowKit

set_option linter.unusedVariables false

set_option maxRecDepth 100000


theorem text_eq (x y : ByteArray) : (x.toList == y.toList) = decide (x = y) := by
  rw [Bool.eq_iff_iff, beq_iff_eq, decide_eq_true_iff, ByteArray.toList_eq, ByteArray.toList_eq]
  constructor
  · intro h; apply ByteArray.ext; exact Array.toList_inj.1 h
  · intro h; rw [h]

theorem take_more {α : Type} (xs ys : List α) (k : Nat) (h1 : k < xs.length) (h2 : k < ys.length) (h : xs.take k = ys.take k) (e : xs[k] = ys[k]) : xs.take (k + 1) = ys.take (k + 1) := by
  rw [List.take_succ_eq_append_getElem h1, List.take_succ_eq_append_getElem h2, h, e]

theorem ne_at {α : Type} (xs ys : List α) (k : Nat) (h1 : k < xs.length) (h2 : k < ys.length) (e : xs[k] ≠ ys[k]) : ¬ xs = ys := by
  intro h; subst h; exact e rfl

theorem all_taken {α : Type} (xs ys : List α) (k : Nat) (h1 : ¬ k < xs.length) (h2 : xs.length = ys.length) (h : xs.take k = ys.take k) : xs = ys := by
  rw [List.take_of_length_le (by omega), List.take_of_length_le (by omega)] at h; exact h

def digs : Nat → Nat → ByteArray → ByteArray
  | 0, _, out => out
  | f + 1, k, out => if k = 0 then out else digs f (k / 10) (⟨#[48 + UInt8.ofNat (k % 10)]⟩ ++ out)

def markS (k : Int) : ByteArray := if k ≤ 0 then ⟨#[109, 48]⟩ else ⟨#[109]⟩ ++ digs (k.toNat + 1) k.toNat ⟨#[]⟩

theorem digs_step (f k : Nat) (out : ByteArray) (h : 0 < k) : digs (f + 1) k out = digs f (k / 10) (⟨#[48 + UInt8.ofNat (k % 10)]⟩ ++ out) := by
  simp only [digs]; rw [if_neg (by omega)]

theorem digs_end (f : Nat) (out : ByteArray) : digs (f + 1) 0 out = out := by simp [digs]

set_option maxHeartbeats 800000 in
theorem markText_any (k : Int) (w : World) (hk : -9223372036854775808 ≤ k ∧ k ≤ 1099511627776) :
    Calls Tryz.prog 99 #[.int .i64 k] w fun e w' => e = .returned (.string (markS k)) ∧ Below w.heap.size w w' := by
  by_cases h0 : k ≤ 0
  · have hv : markS k = ⟨#[109, 48]⟩ := by unfold markS; rw [if_pos h0]
    rw [hv]
    go_enter Tryz.func99, Tryz.ntmps99
    go_wp2
    go_ret
    exact ⟨rfl, Below.refl _ _⟩
  · have hv : markS k = ⟨#[109]⟩ ++ digs (k.toNat + 1) k.toNat ⟨#[]⟩ := by unfold markS; rw [if_neg h0]
    rw [hv]
    obtain ⟨K, rfl⟩ := Int.eq_ofNat_of_zero_le (show 0 ≤ k by omega)
    clear hv
    have hcv : ∀ (w : World) (a : Int), (convert 22 9 (.slice (some ⟨w.heap.size, 0, none⟩) 1 1)).run Tryz.prog (w.alloc (.cells #[.int .u8 a] 5)) = .ok (.string ⟨#[UInt8.ofNat a.toNat]⟩) (w.alloc (.cells #[.int .u8 a] 5)) := fun w a => conv_new w [a] [] 1
    rw [Int.toNat_natCast]
    go_enter Tryz.func99, Tryz.ntmps99
    go_wp2
    go_loopw [0, 3] (fun a o wr => ∃ (m f : Nat) (out : ByteArray), a = .int .i64 m ∧ o = .string out ∧ m ≤ f ∧ digs (K + 1) K ⟨#[]⟩ = digs (f + 1) m out ∧ out.size + m ≤ K ∧ Below w.heap.size w wr) (fun a _ _ => (intOf a).toNat)
    case atStart => exact ⟨K, K, ⟨#[]⟩, rfl, rfl, Nat.le_refl _, rfl, by show 0 + K ≤ K; omega, Below.refl _ _⟩
    case round =>
      obtain ⟨m, f, out, rfl, rfl, hf, hd, ho, hb⟩ := hrel
      have HD : Hid (digs (K + 1) K ⟨#[]⟩ = digs (f + 1) m out) := hd
      clear hd
      by_cases hpos : (0 : Int) < (m : Int)
      · obtain ⟨g, rfl⟩ : ∃ g, f = g + 1 := ⟨f - 1, by omega⟩
        have HN := digs_step (g + 1) m out (by omega)
        rw [← HD.out] at HN
        have HN' : Hid (digs (K + 1) K ⟨#[]⟩ = digs (g + 1) (m / 10) (⟨#[48 + UInt8.ofNat (m % 10)]⟩ ++ out)) := HN
        have hb2 := hb.alloc hb.size (.cells #[.int .u8 (48 + (m : Int) % 10)] 5)
        clear HN
        go_wp2
        go_roundw
        case rel => exact ⟨m / 10, g, _, by go_num, rfl, by omega, HN'.out, by rw [ByteArray.size_append]; show 1 + out.size + m / 10 ≤ K; omega, hb2⟩
        case measure => simp [intOf]; omega
      · obtain rfl : m = 0 := by omega
        have hsz : out.size ≤ 1099511627776 := by omega
        go_wp2
        go_ret
        rw [HD.out, digs_end]
        exact ⟨rfl, hb⟩
end Go.Proofs.YtjhfeegilhmgkaaGreatDoor

namespace Go.Proofs.YtjhfeegilhmgkaaGreatDoor
open Go.RowKit

set_option linter.unusedVariables false

set_option maxRecDepth 100000


/-- A run's cells. -/
def runC (r : Int × Int × Int) : List Value := [.int .i64 r.1, .int .i64 r.2.1, .int .i64 r.2.2]

theorem runC_len (r : Int × Int × Int) : (runC r).length = 3 := rfl

theorem three_cells {B : Nat} {w : World} {o : Option Addr} {rs : List (Int × Int × Int)} (hc : ∀ i x, rs[i]? = some x → ∃ g off, o = some ⟨g, off, none⟩ ∧ g < B ∧ ∀ j u, (runC x)[j]? = some u → w.cell? ⟨g, off + i * 3 + j, none⟩ = some u) (i : Nat) (hi : i < rs.length) :
    ∃ g off, o = some ⟨g, off, none⟩ ∧ g < B ∧ w.cell? ⟨g, off + i * 3, none⟩ = some (.int .i64 rs[i].1) ∧ w.cell? ⟨g, off + i * 3 + 1, none⟩ = some (.int .i64 rs[i].2.1) ∧ w.cell? ⟨g, off + i * 3 + 2, none⟩ = some (.int .i64 rs[i].2.2) := by
  obtain ⟨g, off, e, hg, hx⟩ := hc i rs[i] (List.getElem?_eq_getElem hi)
  exact ⟨g, off, e, hg, hx 0 _ rfl, hx 1 _ rfl, hx 2 _ rfl⟩

theorem eqRun_any (f c p f' c' p' : Int) (w : World) :
    Calls Tryz.prog 199 #[.agg #[.int .i64 f, .int .i64 c, .int .i64 p], .agg #[.int .i64 f', .int .i64 c', .int .i64 p']] w fun e w' => e = .returned (.bool (decide ((f, c, p) = (f', c', p')))) ∧ Below w.heap.size w w' := by
  by_cases e1 : f = f'
  · subst e1
    by_cases e2 : c = c'
    · subst e2
      by_cases e3 : p = p'
      · subst e3
        go_enter Tryz.func199, Tryz.ntmps199
        go_wp2
        go_ret
        exact ⟨ret_bool (by simp), bw_alloc (bw_alloc (Below.refl _ _))⟩
      · have h1 : (p == p') = false := by simpa using e3
        have h2 : (p != p') = true := by simpa using e3
        go_enter Tryz.func199, Tryz.ntmps199
        go_wp2
        go_ret
        exact ⟨ret_bool (by simp [e3]), bw_alloc (bw_alloc (Below.refl _ _))⟩
    · have h1 : (c == c') = false := by simpa using e2
      have h2 : (c != c') = true := by simpa using e2
      go_enter Tryz.func199, Tryz.ntmps199
      go_wp2
      go_ret
      exact ⟨ret_bool (by simp [e2]), bw_alloc (bw_alloc (Below.refl _ _))⟩
  · have h1 : (f == f') = false := by simpa using e1
    have h2 : (f != f') = true := by simpa using e1
    go_enter Tryz.func199, Tryz.ntmps199
    go_wp2
    go_ret
    exact ⟨ret_bool (by simp [e1]), bw_alloc (bw_alloc (Below.refl _ _))⟩

set_option maxHeartbeats 800000 in
theorem eqRuns_any (v1 v2 : Value) (xs ys : List (Int × Int × Int)) (w : World) (h1 : ReadsR 3 runC w.heap.size w v1 xs) (h2 : ReadsR 3 runC w.heap.size w v2 ys) :
    Calls Tryz.prog 180 #[v1, v2] w fun e w' => e = .returned (.bool (decide (xs = ys))) ∧ Below w.heap.size w w' := by
  obtain ⟨o1, cap1, rfl, m1, c1, -⟩ := h1
  obtain ⟨o2, cap2, rfl, m2, c2, -⟩ := h2
  by_cases hlen : xs.length = ys.length
  · rw [← hlen]
    have C1 : Hid _ := three_cells c1
    have C2 : Hid _ := three_cells c2
    have HL : Hid (xs.length = ys.length) := hlen
    have hle : ys.length ≤ xs.length := by omega
    have hge : xs.length ≤ ys.length := by omega
    unfold maxLen at m1
    clear c1 c2 m2 hlen
    go_enter Tryz.func180, Tryz.ntmps180
    go_wp2
    go_loopw [5] (fun i wr => ∃ k : Nat, k ≤ xs.length ∧ i = .int .i64 k ∧ xs.take k = ys.take k ∧ Below w.heap.size w wr) (fun i _ => xs.length - (intOf i).toNat)
    case atStart => exact ⟨0, Nat.zero_le _, rfl, rfl, Below.refl _ _⟩
    case round =>
      obtain ⟨k, hk, rfl, htk, hb⟩ := hrel
      have HT : Hid (xs.take k = ys.take k) := htk
      clear htk
      by_cases hlt : k < xs.length
      · have hlt2 : k < ys.length := by omega
        obtain ⟨g1, of1, rfl, q1, a0, a1, a2⟩ := C1.out k hlt
        obtain ⟨g2, of2, rfl, q2, b0, b1, b2⟩ := C2.out k hlt2
        have HE : Hid (xs[k] = ys[k] → xs.take (k + 1) = ys.take (k + 1)) := fun e => take_more xs ys k hlt hlt2 HT.out e
        have HNE : Hid (xs[k] ≠ ys[k] → ¬ xs = ys) := fun e => ne_at xs ys k hlt hlt2 e
        generalize xs[k] = x at a0 a1 a2 HE HNE
        generalize ys[k] = y at b0 b1 b2 HE HNE
        obtain ⟨f, c, p⟩ := x
        obtain ⟨f', c', p'⟩ := y
        simp only at a0 a1 a2 b0 b1 b2
        have hne := BelowOf.any wr
        have l1 : g1 < wr.heap.size := Nat.lt_of_lt_of_le q1 hb.size
        have l2 : g2 < wr.heap.size := Nat.lt_of_lt_of_le q2 hb.size
        have d0 := BelowOf.cell ((hb.cell (p := ⟨g1, of1 + k * 3, none⟩) q1).trans a0) l1
        have d1 := BelowOf.cell ((hb.cell (p := ⟨g1, of1 + k * 3 + 1, none⟩) q1).trans a1) l1
        have d2 := BelowOf.cell ((hb.cell (p := ⟨g1, of1 + k * 3 + 2, none⟩) q1).trans a2) l1
        have f0 := BelowOf.cell ((hb.cell (p := ⟨g2, of2 + k * 3, none⟩) q2).trans b0) l2
        have f1 := BelowOf.cell ((hb.cell (p := ⟨g2, of2 + k * 3 + 1, none⟩) q2).trans b1) l2
        have f2 := BelowOf.cell ((hb.cell (p := ⟨g2, of2 + k * 3 + 2, none⟩) q2).trans b2) l2
        have g1' : (0 : Int) ≤ (k : Int) := by omega
        have g2' : (k : Int) < (xs.length : Int) := by omega
        clear a0 a1 a2 b0 b1 b2 C1 C2
        obtain ⟨dd, hdd⟩ : ∃ dd, decide ((f, c, p) = (f', c', p')) = dd := ⟨_, rfl⟩
        have HD : Hid _ := hdd
        have HEQ : ∀ q : BelowOf wr, Calls Tryz.prog 199 #[.agg #[.int .i64 f, .int .i64 c, .int .i64 p], .agg #[.int .i64 f', .int .i64 c', .int .i64 p']] q.w' fun e w' => e = .returned (.bool dd) ∧ Below q.w'.heap.size q.w' w' := fun q => by have h := eqRun_any f c p f' c' p' q.w'; rwa [hdd] at h
        clear hdd
        go_wp2_with fail
        refine wp_region_of (by kernel_rfl) (by kernel_rfl) ?_
        repeat (go_big_quiet_step ((first | (go_at_call 199; exact calls_of (HEQ _)) | rfl)))
        refine wpQuiet_nil ?_
        intro w5 hw5
        obtain ⟨⟨wx, cx⟩, hwx⟩ := hw5
        have b5 : Below wr.heap.size wr w5 := by rw [hwx]; exact cx
        have hb5 := hb.trans (b5.mono hb.size)
        clear hwx cx wx hne d0 d1 d2 f0 f1 f2 HEQ
        cases dd
        · go_wp2_with fail
          go_ret
          exact ⟨ret_bool (decide_eq_false (HNE.out (of_decide_eq_false HD.out))).symm, hb5⟩
        · have HT2 : Hid _ := HE.out (of_decide_eq_true HD.out)
          go_wp2_with fail
          go_roundw
          case rel => exact ⟨k + 1, by omega, by go_num, HT2.out, hb5⟩
          case measure => simp [intOf]; omega
      · go_wp2
        go_ret
        exact ⟨ret_bool (by simp [all_taken xs ys k hlt HL.out HT.out]), hb⟩
  · have hn : ((xs.length : Int) != (ys.length : Int)) = true := by rw [bne_iff_ne]; omega
    have HX : Hid (decide (xs = ys) = false) := by rw [Hid, decide_eq_false_iff_not]; intro e; rw [e] at hlen; exact hlen rfl
    unfold maxLen at m1 m2
    clear hlen c1 c2
    go_enter Tryz.func180, Tryz.ntmps180
    go_wp2
    go_ret
    exact ⟨ret_bool HX.out.symm, Below.refl _ _⟩

/-- A whole run is written. -/
theorem own_run {w : World} {base g n cap : Nat} {xs : List (Int × Int × Int)} (h : w.ownsRow base 173 3 (.slice (some ⟨g, 0, none⟩) n cap) xs.length (xs.flatMap runC)) (i : Nat) (hi : i < xs.length) (f c p : Int) :
    (((w.setCell ⟨g, i * 3, none⟩ (.int .i64 f)).setCell ⟨g, i * 3 + 1, none⟩ (.int .i64 c)).setCell ⟨g, i * 3 + 2, none⟩ (.int .i64 p)).ownsRow base 173 3 (.slice (some ⟨g, 0, none⟩) n cap) (xs.set i (f, c, p)).length ((xs.set i (f, c, p)).flatMap runC) := by
  have h1 := own_put runC_len h i 0 xs[i] (f, xs[i].2.1, xs[i].2.2) (.int .i64 f) (List.getElem?_eq_getElem hi) (by omega) rfl
  have h2 := own_put runC_len h1 i 1 (f, xs[i].2.1, xs[i].2.2) (f, c, xs[i].2.2) (.int .i64 c) (by simp [hi]) (by omega) rfl
  have h3 := own_put runC_len h2 i 2 (f, c, xs[i].2.2) (f, c, p) (.int .i64 p) (by simp [hi]) (by omega) rfl
  rw [List.set_set, List.set_set] at h3
  exact h3

/-- A run's three cells, in a row of one's own. -/
theorem own_three {w : World} {base g n cap : Nat} {xs : List (Int × Int × Int)} (h : w.ownsRow base 173 3 (.slice (some ⟨g, 0, none⟩) n cap) xs.length (xs.flatMap runC)) (i : Nat) (hi : i < xs.length) :
    (w.cell? ⟨g, i * 3, none⟩ = some (.int .i64 xs[i].1) ∧ w.cell? ⟨g, i * 3 + 1, none⟩ = some (.int .i64 xs[i].2.1) ∧ w.cell? ⟨g, i * 3 + 2, none⟩ = some (.int .i64 xs[i].2.2)) ∧ w.frozen? ⟨g, i * 3, none⟩ = false ∧ w.frozen? ⟨g, i * 3 + 1, none⟩ = false ∧ w.frozen? ⟨g, i * 3 + 2, none⟩ = false := by
  obtain ⟨a0, b0⟩ := own_cell runC_len h i 0 _ (List.getElem?_eq_getElem hi) (by omega)
  obtain ⟨a1, b1⟩ := own_cell runC_len h i 1 _ (List.getElem?_eq_getElem hi) (by omega)
  obtain ⟨a2, b2⟩ := own_cell runC_len h i 2 _ (List.getElem?_eq_getElem hi) (by omega)
  exact ⟨⟨a0, a1, a2⟩, b0, b1, b2⟩

def marksR (k : Int) (n : Nat) : List (Int × Int × Int) := (List.range n).map fun i : Nat => (k + 3 * (i : Int), k + 3 * (i : Int) + 1, k + 3 * (i : Int) + 1 + 1)

theorem marksR_length (k : Int) (n : Nat) : (marksR k n).length = n := by simp [marksR]

theorem marksR_get (k : Int) (n j : Nat) (h : j < (marksR k n).length) : (marksR k n)[j] = (k + 3 * (j : Int), k + 3 * (j : Int) + 1, k + 3 * (j : Int) + 1 + 1) := by simp [marksR]

theorem marksR_set (k : Int) (xs : List (Int × Int × Int)) (j : Nat) (h : j < xs.length) : (marksR k j ++ xs.drop j).set j (k + 3 * (j : Int), k + 3 * (j : Int) + 1, k + 3 * (j : Int) + 1 + 1) = marksR k (j + 1) ++ xs.drop (j + 1) := by
  have hl : (marksR k j).length = j := marksR_length k j
  have hs : marksR k (j + 1) = marksR k j ++ [(k + 3 * (j : Int), k + 3 * (j : Int) + 1, k + 3 * (j : Int) + 1 + 1)] := by simp [marksR, List.range_succ]
  rw [List.set_append_right _ _ (by omega), hl, Nat.sub_self, List.drop_eq_getElem_cons h, List.set_cons_zero, hs]
  exact (List.append_assoc _ [_] _).symm

set_option maxHeartbeats 1600000 in
theorem markedR_any (g cap n base : Nat) (k : Int) (xs : List (Int × Int × Int)) (w : World) (hk : 0 ≤ k) (hk2 : k ≤ 1073741824) (hx : xs.length = n) (hn : n ≤ 1048576) (own : w.ownsRow base 173 3 (.slice (some ⟨g, 0, none⟩) n cap) xs.length (xs.flatMap runC)) :
    Calls Tryz.prog 155 #[.slice (some ⟨g, 0, none⟩) n cap, .int .i64 k] w fun e w' => e = .returned (.int .i64 (k + 3 * n)) ∧ w'.ownsRow base 173 3 (.slice (some ⟨g, 0, none⟩) n cap) (marksR k n).length ((marksR k n).flatMap runC) ∧ Upto g w w' := by
  have HX : Hid (xs.length = n) := hx
  have hx1 : n ≤ xs.length := by omega
  clear hx
  go_enter Tryz.func155, Tryz.ntmps155
  go_wp2
  go_loopw [1, 5] (fun q i wr => ∃ j : Nat, j ≤ n ∧ i = .int .i64 j ∧ q = .int .i64 (k + 3 * j) ∧ wr.ownsRow base 173 3 (.slice (some ⟨g, 0, none⟩) n cap) (marksR k j ++ xs.drop j).length ((marksR k j ++ xs.drop j).flatMap runC) ∧ Upto g w wr) (fun _ i _ => n - (intOf i).toNat)
  case atStart => exact ⟨0, Nat.zero_le _, rfl, by simp, by simpa [marksR] using own, Upto.refl _ _⟩
  case round =>
    obtain ⟨j, hj, rfl, rfl, ow, u⟩ := hrel
    clear own
    by_cases hlt : j < n
    · have hjl : j < (marksR k j ++ xs.drop j).length := by rw [List.length_append, marksR_length, List.length_drop]; omega
      obtain ⟨⟨t0, t1, t2⟩, u0, u1, u2⟩ := own_three ow j hjl
      have HST := own_run ow j hjl (k + 3 * (j : Int)) (k + 3 * (j : Int) + 1) (k + 3 * (j : Int) + 1 + 1)
      rw [marksR_set k xs j (by omega)] at HST
      have uf : Upto g w (((wr.setCell ⟨g, j * 3, none⟩ (.int .i64 (k + 3 * (j : Int)))).setCell ⟨g, j * 3 + 1, none⟩ (.int .i64 (k + 3 * (j : Int) + 1))).setCell ⟨g, j * 3 + 2, none⟩ (.int .i64 (k + 3 * (j : Int) + 1 + 1))) := ((u.setCell _ (.inl rfl) _).setCell _ (.inl rfl) _).setCell _ (.inl rfl) _
      have HO : Hid _ := And.intro HST uf
      generalize (marksR k j ++ xs.drop j)[j] = y at t0 t1 t2
      clear HST uf ow u
      go_wp2_with fail
      go_roundw
      case rel => exact ⟨j + 1, by omega, by go_num, by go_num, HO.out.1, HO.out.2⟩
      case measure => simp [intOf]; omega
    · obtain rfl : j = n := by omega
      rw [List.drop_of_length_le (by have := HX.out; omega), List.append_nil] at ow
      go_wp2_with fail
      go_ret
      exact ⟨rfl, ow, u⟩

/-- A row of runs of one's own, marked; whatever lies in another block stays. -/
theorem markedRRow_any (v : Value) (base : Nat) (k : Int) (xs : List (Int × Int × Int)) (w : World) (hk : 0 ≤ k) (hk2 : k ≤ 1073741824) (hn : xs.length ≤ 1048576) (hbase : base ≤ w.heap.size) (own : w.ownsRow base 173 3 v xs.length (xs.flatMap runC)) :
    Calls Tryz.prog 155 #[v, .int .i64 k] w fun e w' => e = .returned (.int .i64 (k + 3 * xs.length)) ∧ w'.ownsRow base 173 3 v (marksR k xs.length).length ((marksR k xs.length).flatMap runC) ∧ Below base w w' ∧ w.heap.size ≤ w'.heap.size ∧ ∀ i, i < w.heap.size → v.ownBlock ≠ some i → w'.heap[i]? = w.heap[i]? := by
  rcases own.2 with ⟨rfl, h0⟩ | ⟨g, cap, cur, rfl, hg, _⟩
  · have hx : xs = [] := List.length_eq_zero_iff.1 h0
    subst hx
    go_enter Tryz.func155, Tryz.ntmps155
    go_wp2
    refine wp_loop_rounds 1 ?_
    rw [rounds_succ]
    go_wp2
    go_ret
    exact ⟨ret_int (by simp), World.ownsRow_nil _ _ _ _, Below.refl _ _, Nat.le_refl _, fun _ _ _ => rfl⟩
  · refine (markedR_any g cap xs.length base k xs w hk hk2 rfl hn own).mono ?_
    rintro e w' ⟨he, ho, hu⟩
    exact ⟨he, ho, hu.toBelow hbase hg, hu.size, fun i hi hn => hu.block i hi (fun e => hn (by rw [e]; rfl))⟩

set_option maxHeartbeats 1600000 in
theorem heldR_any (v : Value) (n : Nat) (k : Int) (w : World) (hk : 0 ≤ k) (hk2 : k ≤ 1073741824) (hn : n ≤ 1048576) (hr : ReadsR 3 runC w.heap.size w v (marksR k n)) :
    Calls Tryz.prog 156 #[v, .int .i64 k] w fun e w' => e = .returned (.int .i64 (k + 3 * n)) ∧ Below w.heap.size w w' := by
  obtain ⟨o, cap, rfl, hm, hc, -⟩ := hr
  have HC : Hid _ := three_cells hc
  rw [marksR_length] at hm ⊢
  clear hc hm
  go_enter Tryz.func156, Tryz.ntmps156
  go_wp2
  go_loopw [1, 5] (fun q i wr => ∃ j : Nat, j ≤ n ∧ i = .int .i64 j ∧ q = .int .i64 (k + 3 * j) ∧ wr = w) (fun _ i _ => n - (intOf i).toNat)
  case atStart => exact ⟨0, Nat.zero_le _, rfl, by simp, rfl⟩
  case round =>
    obtain ⟨j, hj, rfl, rfl, rfl⟩ := hrel
    by_cases hlt : j < n
    · have hjl : j < (marksR k n).length := by rw [marksR_length]; exact hlt
      obtain ⟨g, off, rfl, hg, a0, a1, a2⟩ := HC.out j hjl
      rw [marksR_get k n j hjl] at a0 a1 a2
      simp only at a0 a1 a2
      clear HC hjl
      go_wp2
      go_roundw
      case rel => exact ⟨j + 1, by omega, by go_num, by go_num, by trivial⟩
      case measure => simp [intOf]; omega
    · obtain rfl : j = n := by omega
      go_wp2_with fail
      go_ret
      exact ⟨rfl, Below.refl _ _⟩
end Go.Proofs.YtjhfeegilhmgkaaGreatDoor

namespace Go.Proofs.YtjhfeegilhmgkaaGreatDoor
set_option linter.unusedVariables false

set_option maxRecDepth 100000


/-- A number of 64 bits; runs of such. -/
def I64 (x : Int) : Prop := -9223372036854775808 ≤ x ∧ x ≤ 9223372036854775807

def FitRuns (rs : List (Int × Int × Int)) : Prop := ∀ r ∈ rs, I64 r.1 ∧ I64 r.2.1 ∧ I64 r.2.2

/-- Is the run right, behind places that end at e, behind a run that is pv? -/
def runOk (e : Int) (pv : Option (Int × Int × Int)) (r : Int × Int × Int) : Bool :=
  decide (e ≤ r.1) && (decide (1 ≤ r.2.1) && decide (r.2.1 ≤ 16)) && decide (r.1 ≤ 16 - r.2.1) && (decide (0 ≤ r.2.2) && decide (r.2.2 ≤ 24 - r.2.1)) &&
    !(match pv with | none => false | some q => decide (r.1 = e) && decide (r.2.2 = q.2.2 + q.2.1))

def okFrom : Int → Option (Int × Int × Int) → List (Int × Int × Int) → Bool
  | _, _, [] => true
  | e, pv, r :: rs => runOk e pv r && okFrom (r.1 + r.2.1) (some r) rs

def mapOk (rs : List (Int × Int × Int)) : Bool := okFrom 0 none rs && decide (rs.length ≤ 16)

theorem runOk_iff (e : Int) (pv : Option (Int × Int × Int)) (f c p : Int) : runOk e pv (f, c, p) = true ↔ (e ≤ f ∧ 1 ≤ c ∧ c ≤ 16 ∧ f ≤ 16 - c ∧ 0 ≤ p ∧ p ≤ 24 - c ∧ ∀ q, pv = some q → ¬ (f = e ∧ p = q.2.2 + q.2.1)) := by
  cases pv with
  | none => simp [runOk]; omega
  | some q =>
    simp only [runOk, Bool.and_eq_true, decide_eq_true_eq, Bool.not_eq_true', Bool.and_eq_false_iff, decide_eq_false_iff_not, Option.some.injEq]
    constructor
    · rintro ⟨⟨⟨⟨h1, h2⟩, h3⟩, h4⟩, h5⟩
      refine ⟨h1, h2.1, h2.2, h3, h4.1, h4.2, ?_⟩
      rintro _ rfl ⟨h6, h7⟩
      rcases h5 with h5 | h5
      · exact h5 h6
      · exact h5 h7
    · rintro ⟨h1, h2, h3, h4, h5, h6, h7⟩
      refine ⟨⟨⟨⟨h1, h2, h3⟩, h4⟩, h5, h6⟩, ?_⟩
      by_cases h8 : f = e
      · exact .inr (fun h9 => h7 q rfl ⟨h8, h9⟩)
      · exact .inl h8

/-- n pages one behind the other are laid from place f on. -/
def lay (l : List Int) (f : Nat) (p : Int) : Nat → List Int
  | 0 => l
  | n + 1 => (lay l f p n).set (f + n) (p + n)

def layRun (l : List Int) (r : Int × Int × Int) : List Int := lay l r.1.toNat r.2.2 r.2.1.toNat

def none16 : List Int := List.replicate 16 (-1)

/-- For each place its page; -1: none. -/
def pages (rs : List (Int × Int × Int)) : List Int := rs.foldl layRun none16

theorem lay_length (l : List Int) (f : Nat) (p : Int) (n : Nat) : (lay l f p n).length = l.length := by
  induction n with
  | zero => rfl
  | succ n ih => rw [lay, List.length_set, ih]

theorem layRun_length (l : List Int) (r : Int × Int × Int) : (layRun l r).length = l.length := lay_length _ _ _ _

theorem foldl_length (rs : List (Int × Int × Int)) (l : List Int) : (rs.foldl layRun l).length = l.length := by
  induction rs generalizing l with
  | nil => rfl
  | cons r rs ih => rw [List.foldl_cons, ih, layRun_length]

theorem pages_length (rs : List (Int × Int × Int)) : (pages rs).length = 16 := by rw [pages, foldl_length]; rfl

theorem lay_get (l : List Int) (f : Nat) (p : Int) (n j : Nat) (h : f + n ≤ l.length) : (lay l f p n).getD j 0 = if f ≤ j ∧ j < f + n then p + ((j - f : Nat) : Int) else l.getD j 0 := by
  induction n with
  | zero => rw [lay, if_neg (by omega)]
  | succ n ih =>
    have hl := lay_length l f p n
    rw [lay, List.getD_eq_getElem?_getD, List.getElem?_set, hl]
    by_cases e : f + n = j
    · rw [if_pos e, if_pos (by omega), if_pos (by omega)]
      show p + (n : Int) = _
      rw [show j - f = n by omega]
    · rw [if_neg e, ← List.getD_eq_getElem?_getD, ih (by omega)]
      by_cases q : f ≤ j ∧ j < f + n
      · rw [if_pos q, if_pos (by omega)]
      · rw [if_neg q, if_neg (by omega)]

/-- One place more: it is skipped, it makes the last run longer, or it begins a run. -/
def grow (k : Nat) (v : Int) (acc : List (Int × Int × Int)) : List (Int × Int × Int) :=
  if v < 0 then acc else
  match acc.getLast? with
  | none => acc ++ [((k : Int), 1, v)]
  | some r => if r.1 + r.2.1 = k ∧ r.2.2 + r.2.1 = v then acc.dropLast ++ [(r.1, r.2.1 + 1, r.2.2)] else acc ++ [((k : Int), 1, v)]

/-- The map of the first n places of l. -/
def upto (l : List Int) : Nat → List (Int × Int × Int)
  | 0 => []
  | n + 1 => grow n (l.getD n 0) (upto l n)

def mapOf (l : List Int) : List (Int × Int × Int) := upto l l.length

/-- Right at its end: where it ends, and its last run. -/
theorem okFrom_append (e : Int) (pv : Option (Int × Int × Int)) (rs : List (Int × Int × Int)) (r : Int × Int × Int) :
    okFrom e pv (rs ++ [r]) = (okFrom e pv rs && runOk (match rs.getLast? with | none => e | some q => q.1 + q.2.1) (match rs.getLast? with | none => pv | some q => some q) r) := by
  induction rs generalizing e pv with
  | nil => simp [okFrom]
  | cons q rs ih =>
    rw [List.cons_append, okFrom, ih, okFrom, Bool.and_assoc]
    cases rs with
    | nil => simp
    | cons s t =>
      rw [List.getLast?_cons_cons]
      cases h : (s :: t).getLast? with
      | none => simp at h
      | some z => rfl

/-- What holds of the map of the first n places: it is right, ends at n at most, and shows them. -/
structure UptoOk (l : List Int) (n : Nat) (rs : List (Int × Int × Int)) : Prop where
  ok : okFrom 0 none rs = true
  endAt : ∀ r, rs.getLast? = some r → r.1 + r.2.1 ≤ n ∧ 0 ≤ r.1 ∧ 1 ≤ r.2.1 ∧ 0 ≤ r.2.2
  shows : ∀ j, (pages rs).getD j 0 = if j < n then l.getD j 0 else none16.getD j 0
  few : rs.length ≤ n

theorem pages_snoc (rs : List (Int × Int × Int)) (r : Int × Int × Int) : pages (rs ++ [r]) = layRun (pages rs) r := by rw [pages, List.foldl_append]; rfl

theorem getD_wr1 (l : List Int) (k : Nat) (v : Int) (j : Nat) (h : k < l.length) : (layRun l ((k : Int), 1, v)).getD j 0 = if j = k then v else l.getD j 0 := by
  show (lay l (k : Int).toNat v (1 : Int).toNat).getD j 0 = _
  rw [Int.toNat_natCast, show (1 : Int).toNat = 1 from rfl, lay_get l k v 1 j (by omega)]
  by_cases e : j = k
  · rw [if_pos (by omega), if_pos e, show j - k = 0 by omega]; simp
  · rw [if_neg (by omega), if_neg e]

theorem upto_ok (l : List Int) (hl : l.length = 16) (hv : ∀ j, j < 16 → -1 ≤ l.getD j 0 ∧ l.getD j 0 ≤ 23) (n : Nat) (hn : n ≤ 16) : UptoOk l n (upto l n) := by
  induction n with
  | zero => exact ⟨rfl, fun r h => by simp [upto] at h, fun j => by rw [if_neg (by omega)]; rfl, Nat.le_refl _⟩
  | succ n ih =>
    have h := ih (by omega)
    have hvn := hv n (by omega)
    rw [upto]
    generalize upto l n = rs at h
    have hpl := pages_length rs
    have hat : (pages rs).getD n 0 = -1 := by
      rw [h.shows n, if_neg (by omega)]
      have h16 : n = 0 ∨ n = 1 ∨ n = 2 ∨ n = 3 ∨ n = 4 ∨ n = 5 ∨ n = 6 ∨ n = 7 ∨ n = 8 ∨ n = 9 ∨ n = 10 ∨ n = 11 ∨ n = 12 ∨ n = 13 ∨ n = 14 ∨ n = 15 := by omega
      rcases h16 with rfl | rfl | rfl | rfl | rfl | rfl | rfl | rfl | rfl | rfl | rfl | rfl | rfl | rfl | rfl | rfl <;> rfl
    have shows' : ∀ rs' : List (Int × Int × Int), (∀ j, (pages rs').getD j 0 = if j = n then l.getD n 0 else (pages rs).getD j 0) → ∀ j, (pages rs').getD j 0 = if j < n + 1 then l.getD j 0 else none16.getD j 0 := fun rs' hj j => by
      rw [hj j, h.shows j]
      by_cases e : j = n
      · rw [if_pos e, if_pos (by omega), e]
      · rw [if_neg e]
        by_cases q : j < n
        · rw [if_pos q, if_pos (by omega)]
        · rw [if_neg q, if_neg (by omega)]
    unfold grow
    by_cases hneg : l.getD n 0 < 0
    · rw [if_pos hneg]
      refine ⟨h.ok, fun r hr => by have := h.endAt r hr; omega, shows' rs (fun j => ?_), by have := h.few; omega⟩
      by_cases e : j = n
      · rw [if_pos e, e, hat]; omega
      · rw [if_neg e]
    · rw [if_neg hneg]
      have new : (∀ r, rs.getLast? = some r → ¬ (r.1 + r.2.1 = (n : Int) ∧ r.2.2 + r.2.1 = l.getD n 0)) → UptoOk l (n + 1) (rs ++ [((n : Int), 1, l.getD n 0)]) := fun hno => by
        refine ⟨?_, fun r hr => ?_, shows' _ (fun j => ?_), by have := h.few; simp; omega⟩
        · rw [okFrom_append, h.ok, Bool.true_and, runOk_iff]
          cases hg : rs.getLast? with
          | none => exact ⟨by simp, by omega, by omega, by omega, by omega, by omega, fun q hq => by cases hq⟩
          | some r =>
            have he := h.endAt r hg
            refine ⟨by simp; omega, by omega, by omega, by omega, by omega, by omega, fun q hq hh => ?_⟩
            simp only [Option.some.injEq] at hq
            subst hq
            exact hno r hg ⟨hh.1.symm, hh.2.symm⟩
        · rw [List.getLast?_concat, Option.some.injEq] at hr
          subst hr
          simp only
          omega
        · rw [pages_snoc, getD_wr1 _ _ _ _ (by omega)]
      cases hg : rs.getLast? with
      | none => exact new (fun r hr => by rw [hg] at hr; cases hr)
      | some r =>
        simp only
        by_cases hc : r.1 + r.2.1 = (n : Int) ∧ r.2.2 + r.2.1 = l.getD n 0
        · rw [if_pos hc]
          have he := h.endAt r hg
          obtain ⟨pre, rfl⟩ : ∃ pre, rs = pre ++ [r] := ⟨rs.dropLast, by
            have hne : rs ≠ [] := fun e => by rw [e] at hg; cases hg
            rw [List.getLast?_eq_some_getLast hne] at hg
            have := List.dropLast_concat_getLast hne
            simp only [Option.some.injEq] at hg
            rw [hg] at this
            exact this.symm⟩
          rw [List.dropLast_concat]
          obtain ⟨f, c, p⟩ := r
          simp only at he hc ⊢
          have hok := h.ok
          rw [okFrom_append, Bool.and_eq_true, runOk_iff] at hok
          refine ⟨?_, fun s hs => ?_, shows' _ (fun j => ?_), by have := h.few; simp at this ⊢; omega⟩
          · rw [okFrom_append, Bool.and_eq_true, runOk_iff]
            exact ⟨hok.1, hok.2.1, by omega, by omega, by omega, by omega, by omega, hok.2.2.2.2.2.2.2⟩
          · rw [List.getLast?_concat, Option.some.injEq] at hs
            subst hs
            simp only
            omega
          · rw [pages_snoc, pages_snoc]
            have hc1 : (c + 1).toNat = c.toNat + 1 := by omega
            have hpl2 := pages_length pre
            show (lay (pages pre) f.toNat p (c + 1).toNat).getD j 0 = if j = n then _ else (lay (pages pre) f.toNat p c.toNat).getD j 0
            rw [hc1, lay_get _ _ _ _ _ (by omega), lay_get _ _ _ _ _ (by omega)]
            by_cases e : j = n
            · rw [if_pos e, if_pos (by omega)]
              omega
            · rw [if_neg e]
              by_cases q : f.toNat ≤ j ∧ j < f.toNat + c.toNat
              · rw [if_pos q, if_pos (by omega)]
              · rw [if_neg q, if_neg (by omega)]
        · rw [if_neg hc]
          exact new (fun s hs => by rw [hg] at hs; simp only [Option.some.injEq] at hs; subst hs; exact hc)

theorem ext16 (a b : List Int) (ha : a.length = 16) (hb : b.length = 16) (h : ∀ j, j < 16 → a.getD j 0 = b.getD j 0) : a = b := by
  apply List.ext_getElem (by omega)
  intro j h1 h2
  have := h j (by omega)
  rw [List.getD_eq_getElem?_getD, List.getD_eq_getElem?_getD, List.getElem?_eq_getElem h1, List.getElem?_eq_getElem h2] at this
  exact this

/-- The map of pages is right, and shows them. -/
theorem mapOf_ok (l : List Int) (hl : l.length = 16) (hv : ∀ j, j < 16 → -1 ≤ l.getD j 0 ∧ l.getD j 0 ≤ 23) : mapOk (mapOf l) = true ∧ pages (mapOf l) = l := by
  have h := upto_ok l hl hv 16 (Nat.le_refl _)
  rw [mapOf, hl]
  refine ⟨?_, ext16 _ _ (pages_length _) hl fun j hj => by rw [h.shows j, if_pos hj]⟩
  rw [mapOk, h.ok, Bool.true_and, decide_eq_true_iff]
  exact h.few

/-- Each page that a right map shows is one, or there is none. -/
theorem pages_fold_range (rs : List (Int × Int × Int)) (e : Int) (pv : Option (Int × Int × Int)) (h : okFrom e pv rs = true) (l : List Int) (hl : l.length = 16) (hv : ∀ j, j < 16 → -1 ≤ l.getD j 0 ∧ l.getD j 0 ≤ 23) (he : 0 ≤ e) : ∀ j, j < 16 → -1 ≤ (rs.foldl layRun l).getD j 0 ∧ (rs.foldl layRun l).getD j 0 ≤ 23 := by
  induction rs generalizing e pv l with
  | nil => exact hv
  | cons r rs ih =>
    obtain ⟨f, c, p⟩ := r
    rw [okFrom, Bool.and_eq_true, runOk_iff] at h
    rw [List.foldl_cons]
    refine ih _ _ h.2 _ (by rw [layRun_length]; exact hl) (fun j hj => ?_) (by simp only; omega)
    show -1 ≤ (lay l f.toNat p c.toNat).getD j 0 ∧ (lay l f.toNat p c.toNat).getD j 0 ≤ 23
    rw [lay_get _ _ _ _ _ (by omega)]
    by_cases q : f.toNat ≤ j ∧ j < f.toNat + c.toNat
    · rw [if_pos q]; omega
    · rw [if_neg q]; exact hv j hj

theorem none16_at (j : Nat) (hj : j < 16) : none16.getD j 0 = -1 := by
  have h16 : j = 0 ∨ j = 1 ∨ j = 2 ∨ j = 3 ∨ j = 4 ∨ j = 5 ∨ j = 6 ∨ j = 7 ∨ j = 8 ∨ j = 9 ∨ j = 10 ∨ j = 11 ∨ j = 12 ∨ j = 13 ∨ j = 14 ∨ j = 15 := by omega
  rcases h16 with rfl | rfl | rfl | rfl | rfl | rfl | rfl | rfl | rfl | rfl | rfl | rfl | rfl | rfl | rfl | rfl <;> rfl

theorem mapOk_from {rs : List (Int × Int × Int)} (h : mapOk rs = true) : okFrom 0 none rs = true := by rw [mapOk, Bool.and_eq_true] at h; exact h.1

theorem pages_range (rs : List (Int × Int × Int)) (h : mapOk rs = true) (j : Nat) (hj : j < 16) : -1 ≤ (pages rs).getD j 0 ∧ (pages rs).getD j 0 ≤ 23 :=
  pages_fold_range rs 0 none (mapOk_from h) none16 rfl (fun j hj => by rw [none16_at j hj]; omega) (by omega) j hj

/-- Places that have none are skipped. -/
theorem upto_skip (l : List Int) (k n : Nat) (h : ∀ j, k ≤ j → j < k + n → l.getD j 0 < 0) : upto l (k + n) = upto l k := by
  induction n with
  | zero => rfl
  | succ n ih =>
    rw [← Nat.add_assoc, upto, ih (fun j h1 h2 => h j h1 (by omega))]
    unfold grow
    rw [if_pos (h (k + n) (by omega) (by omega))]

/-- What a right map shows: in each run its pages, elsewhere none. -/
theorem fold_at (rs : List (Int × Int × Int)) (e : Int) (pv : Option (Int × Int × Int)) (h : okFrom e pv rs = true) (he : 0 ≤ e) (l : List Int) (hl : l.length = 16) :
    (∀ j : Nat, (∀ r ∈ rs, ¬ (r.1 ≤ (j : Int) ∧ (j : Int) < r.1 + r.2.1)) → (rs.foldl layRun l).getD j 0 = l.getD j 0) ∧ ∀ r ∈ rs, ∀ i : Nat, (i : Int) < r.2.1 → (rs.foldl layRun l).getD (r.1.toNat + i) 0 = r.2.2 + i := by
  induction rs generalizing e pv l with
  | nil => exact ⟨fun j _ => rfl, fun r hr => by cases hr⟩
  | cons r rs ih =>
    obtain ⟨f, c, p⟩ := r
    rw [okFrom, Bool.and_eq_true, runOk_iff] at h
    obtain ⟨⟨h1, h2, h3, h4, h5, h6, h7⟩, h8⟩ := h
    have hlater : ∀ (rs : List (Int × Int × Int)) (e : Int) (pv : Option (Int × Int × Int)), okFrom e pv rs = true → ∀ s ∈ rs, e ≤ s.1 := by
      intro rs
      induction rs with
      | nil => intro e pv _ s hs; cases hs
      | cons q qs ih2 =>
        intro e pv hq s hs
        obtain ⟨qf, qc, qp⟩ := q
        rw [okFrom, Bool.and_eq_true, runOk_iff] at hq
        rcases List.mem_cons.1 hs with rfl | hs
        · exact hq.1.1
        · have := ih2 _ _ hq.2 s hs
          simp only at this
          omega
    have hl2 := hlater rs _ _ h8
    simp only at hl2
    obtain ⟨i1, i2⟩ := ih _ _ h8 (by simp only; omega) (layRun l (f, c, p)) (by rw [layRun_length]; exact hl)
    rw [List.foldl_cons]
    have hw : ∀ j : Nat, (layRun l (f, c, p)).getD j 0 = if f.toNat ≤ j ∧ j < f.toNat + c.toNat then p + ((j - f.toNat : Nat) : Int) else l.getD j 0 := fun j => lay_get l f.toNat p c.toNat j (by omega)
    refine ⟨fun j hj => ?_, fun s hs i hi => ?_⟩
    · rw [i1 j (fun r hr => hj r (List.mem_cons_of_mem _ hr)), hw j, if_neg]
      have := hj (f, c, p) (List.mem_cons_self ..)
      simp only at this
      omega
    · rcases List.mem_cons.1 hs with rfl | hs
      · simp only at hi ⊢
        rw [i1 _ (fun r hr => by have := hl2 r hr; omega), hw, if_pos (by omega)]
        congr 1
        omega
      · exact i2 s hs i hi
end Go.Proofs.YtjhfeegilhmgkaaGreatDoor

namespace Go.Proofs.YtjhfeegilhmgkaaGreatDoor
open Go.RowKit

set_option linter.unusedVariables false

set_option maxRecDepth 100000


/-- The last run ends at the size or ahead of it. -/
def endsBy (rs : List (Int × Int × Int)) (sz : Int) : Bool := match rs.getLast? with
  | none => true
  | some r => decide (r.1 + r.2.1 ≤ sz)

def bookOk (nm : ByteArray) (sz : Int) (rs : List (Int × Int × Int)) (ep : Int) : Bool :=
  Nums.nameB nm.data.toList && (decide (1 ≤ sz) && decide (sz ≤ 16)) && (decide (0 ≤ ep) && decide (ep ≤ 1000)) && mapOk rs && endsBy rs sz
end Go.Proofs.YtjhfeegilhmgkaaGreatDoor

namespace Go.Proofs.YtjhfeegilhmgkaaGreatDoor
open Go.RowKit

set_option linter.unusedVariables false

set_option maxRecDepth 100000


/-- A book: its cells, and the runs that its map reads. -/
structure Bk where
  nm : ByteArray
  sz : Int
  m : Value
  rs : List (Int × Int × Int)
  fx : Bool
  ep : Int

def bookC (b : Bk) : List Value := [.string b.nm, .int .i64 b.sz, b.m, .bool b.fx, .int .i64 b.ep]

theorem bookC_len (b : Bk) : (bookC b).length = 5 := rfl

/-- A row of books that is read, the maps too. -/
structure ReadsB (B : Nat) (w : World) (v : Value) (bs : List Bk) : Prop where
  row : ReadsR 5 bookC B w v bs
  maps : ∀ b ∈ bs, ReadsR 3 runC B w b.m b.rs

theorem ReadsB.below {B : Nat} {w w' : World} {v : Value} {bs : List Bk} (h : ReadsB B w v bs) (k : Below B w w') : ReadsB B w' v bs := ⟨h.row.below k, fun b hb => (h.maps b hb).below k⟩

theorem ReadsB.mono {B B' : Nat} {w : World} {v : Value} {bs : List Bk} (h : ReadsB B w v bs) (k : B ≤ B') : ReadsB B' w v bs := ⟨h.row.mono k, fun b hb => (h.maps b hb).mono k⟩

def findFrom (n : ByteArray) : List ByteArray → Nat → Int
  | [], _ => -1
  | x :: t, k => if x = n then (k : Int) else findFrom n t (k + 1)

theorem find_range (n : ByteArray) (l : List ByteArray) (k : Nat) : findFrom n l k = -1 ∨ ((k : Int) ≤ findFrom n l k ∧ findFrom n l k < k + l.length ∧ l[(findFrom n l k).toNat - k]? = some n) := by
  induction l generalizing k with
  | nil => exact .inl rfl
  | cons x t ih =>
    rw [findFrom]
    split
    · rename_i h
      right
      subst h
      simp
      omega
    · rcases ih (k + 1) with h | ⟨h1, h2, h3⟩
      · exact .inl h
      · right
        refine ⟨by omega, by simp; omega, ?_⟩
        rw [show (findFrom n t (k + 1)).toNat - k = (findFrom n t (k + 1)).toNat - (k + 1) + 1 by omega, List.getElem?_cons_succ]
        exact h3

theorem find_first (n : ByteArray) (l : List ByteArray) (k j : Nat) (h : l[j]? = some n) : (k : Int) ≤ findFrom n l k ∧ findFrom n l k ≤ k + j := by
  induction l generalizing k j with
  | nil => simp at h
  | cons x t ih =>
    rw [findFrom]
    split
    · omega
    · rename_i hx
      match j, h with
      | 0, h => simp at h; exact absurd h hx
      | j + 1, h =>
        have := ih (k + 1) j (by simpa using h)
        omega
end Go.Proofs.YtjhfeegilhmgkaaGreatDoor

namespace Go.Proofs.YtjhfeegilhmgkaaGreatDoor
open Nums

set_option linter.unusedVariables false

set_option maxRecDepth 100000


structure Oq where
  k : Int
  nm : ByteArray
  ot : ByteArray
  at_ : Int
  va : Int
  ep : Int

def Oq.zero : Oq := ⟨0, ByteArray.empty, ByteArray.empty, 0, 0, 0⟩

def kOther (k : Int) : Bool := decide (k = 4) || decide (k = 5)

def kAt (k : Int) : Bool := decide (k = 2) || decide (k = 3) || decide (k = 9)

def kSize (k : Int) : Bool := decide (k = 1) || decide (k = 7)

def kEpoch (k : Int) : Bool := decide (k = 2) || decide (k = 3) || decide (k = 6) || decide (k = 7)

def inB (x lo hi : Int) : Bool := decide (lo ≤ x) && decide (x ≤ hi)

def valOk (k va : Int) : Bool := if kSize k = true then inB va 1 16 else if k = 2 then inB va 0 999 else decide (va = 0)

def opOk (o : Oq) : Bool :=
  nameB o.nm.data.toList && inB o.k 1 9 && (kOther o.k == decide (o.ot.size ≠ 0)) && (!kOther o.k || nameB o.ot.data.toList) && (kAt o.k || decide (o.at_ = 0)) && inB o.at_ 0 255 && (kEpoch o.k || decide (o.ep = 0)) && inB o.ep 0 1000 && valOk o.k o.va

theorem inB_iff (x lo hi : Int) : inB x lo hi = true ↔ lo ≤ x ∧ x ≤ hi := by simp [inB]

theorem nameB_size (s : ByteArray) (h : nameB s.data.toList = true) : 1 ≤ s.size ∧ s.size ≤ 4 := by
  simp only [nameB, Bool.and_eq_true, decide_eq_true_eq] at h
  have e : s.data.toList.length = s.size := by simp
  omega

theorem ext_list {a b : ByteArray} (h : a.data.toList = b.data.toList) : a = b := by
  cases a; cases b
  simp at h
  rw [h]
end Go.Proofs.YtjhfeegilhmgkaaGreatDoor

namespace Go.Proofs.YtjhfeegilhmgkaaGreatDoor

def cellOk (c p : Int) : Bool := (decide (0 ≤ c) && decide (c ≤ 400)) && (decide (0 ≤ p) && decide (p ≤ 999)) && !(decide (c = 0) && !decide (p = 0))

theorem cellOk_iff (c p : Int) : cellOk c p = true ↔ 0 ≤ c ∧ c ≤ 400 ∧ 0 ≤ p ∧ p ≤ 999 ∧ (c = 0 → p = 0) := by
  simp only [cellOk, Bool.and_eq_true, decide_eq_true_eq, Bool.not_eq_true', Bool.and_eq_false_iff, decide_eq_false_iff_not, Bool.not_eq_false']
  constructor
  · rintro ⟨⟨⟨h1, h2⟩, h3, h4⟩, h5⟩
    refine ⟨h1, h2, h3, h4, fun h => ?_⟩
    rcases h5 with h5 | h5
    · exact absurd h h5
    · exact h5
  · rintro ⟨h1, h2, h3, h4, h5⟩
    refine ⟨⟨⟨h1, h2⟩, h3, h4⟩, ?_⟩
    by_cases h : c = 0
    · exact .inr (h5 h)
    · exact .inl h

def poolOk (cs ps : List Int) : Bool := decide (1 ≤ cs.length ∧ cs.length ≤ 24 ∧ ps.length = cs.length ∧ ∀ j, j < cs.length → cellOk (cs.getD j 0) (ps.getD j 0) = true)

theorem poolOk_iff (cs ps : List Int) : poolOk cs ps = true ↔ (1 ≤ cs.length ∧ cs.length ≤ 24 ∧ ps.length = cs.length ∧ ∀ j, j < cs.length → cellOk (cs.getD j 0) (ps.getD j 0) = true) := by
  rw [poolOk, decide_eq_true_iff]

/-- The first place that is free; the length where none is. -/
def firstFree (cs : List Int) : Nat := cs.findIdx fun c => decide (c = 0)

theorem firstFree_at (cs : List Int) (h : firstFree cs < cs.length) : cs.getD (firstFree cs) 0 = 0 := by
  have := List.findIdx_getElem (p := fun c => decide (c = (0 : Int))) (xs := cs) (w := h)
  rw [List.getD_eq_getElem?_getD, List.getElem?_eq_getElem h]
  exact of_decide_eq_true this

/-- What l4Take leaves of the two rows, and what it tells. -/
def tookC (cs : List Int) : List Int := if firstFree cs < cs.length then cs.set (firstFree cs) 1 else cs

def tookP (cs ps : List Int) (v : Int) : List Int := if firstFree cs < cs.length then ps.set (firstFree cs) v else ps

def tookAt (cs : List Int) : Int := if firstFree cs < cs.length then (firstFree cs : Int) else -1

def newPool (n : Int) : (List Int × List Int) × Bool :=
  if 1 ≤ n ∧ n ≤ 24 then ((List.replicate n.toNat 0, List.replicate n.toNat 0), true) else (([], []), false)

/-- The count at a place; 0 where there is none. -/
def countAt (cs : List Int) (at_ : Int) : Int := if 0 ≤ at_ ∧ at_ < cs.length then cs.getD at_.toNat 0 else 0

def shared (cs ps : List Int) (at_ : Int) : (List Int × List Int) × Bool :=
  if poolOk cs ps = true then (if 1 ≤ countAt cs at_ ∧ countAt cs at_ < 400 then ((cs.set at_.toNat (countAt cs at_ + 1), ps), true) else ((cs, ps), false)) else (([], []), false)

def dropped (cs ps : List Int) (at_ : Int) : (List Int × List Int) × Bool :=
  if poolOk cs ps = true then (if 1 ≤ countAt cs at_ then ((cs.set at_.toNat (countAt cs at_ - 1), if countAt cs at_ = 1 then ps.set at_.toNat 0 else ps), true) else ((cs, ps), false)) else (([], []), false)

theorem getD_of (cs : List Int) (k : Nat) (h : k < cs.length) : cs.getD k 0 = cs[k] := by
  rw [List.getD_eq_getElem?_getD, List.getElem?_eq_getElem h]; rfl

theorem getD_set (cs : List Int) (k j : Nat) (x : Int) (h : k < cs.length) : (cs.set k x).getD j 0 = if k = j then x else cs.getD j 0 := by
  rw [List.getD_eq_getElem?_getD, List.getElem?_set, List.getD_eq_getElem?_getD]
  by_cases e : k = j
  · subst e; simp [h]
  · simp [e]

theorem countAt_of (cs : List Int) (k : Nat) (h : k < cs.length) : countAt cs k = cs.getD k 0 := by
  unfold countAt
  rw [if_pos (by omega), Int.toNat_natCast]

theorem newPool_len (n : Int) : (newPool n).1.1.length ≤ 24 ∧ (newPool n).1.2.length ≤ 24 := by
  unfold newPool
  split
  · next h => simp; omega
  · simp
end Go.Proofs.YtjhfeegilhmgkaaGreatDoor

namespace Go.Proofs.YtjhfeegilhmgkaaGreatDoor
open Go.RowKit

set_option linter.unusedVariables false

set_option maxRecDepth 100000

def cutAt (l : List Int) (n : Int) : List Int := (List.range 16).map fun k : Nat => if (k : Int) < n then l.getD k 0 else -1

def pagesOf (rs : List (Int × Int × Int)) : List Int := if mapOk rs = true then (pages rs).filter (fun p => decide (0 ≤ p)) else []

theorem getD_set16 (l : List Int) (k j : Nat) (x : Int) (h : k < l.length) : (l.set k x).getD j 0 = if k = j then x else l.getD j 0 := by
  rw [List.getD_eq_getElem?_getD, List.getElem?_set, List.getD_eq_getElem?_getD]
  by_cases e : k = j
  · subst e; simp [h]
  · simp [e]

theorem set_range (rs : List (Int × Int × Int)) (h : mapOk rs = true) (k : Nat) (hk : k < 16) (page : Int) (hp : -1 ≤ page ∧ page ≤ 23) : ∀ j, j < 16 → -1 ≤ ((pages rs).set k page).getD j 0 ∧ ((pages rs).set k page).getD j 0 ≤ 23 := fun j hj => by
  rw [getD_set16 _ _ _ _ (by rw [pages_length]; exact hk)]
  by_cases e : k = j
  · rw [if_pos e]; exact hp
  · rw [if_neg e]; exact pages_range rs h j hj
end Go.Proofs.YtjhfeegilhmgkaaGreatDoor

