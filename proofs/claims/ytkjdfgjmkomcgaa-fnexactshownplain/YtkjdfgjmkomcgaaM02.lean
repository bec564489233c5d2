/-
  Contracts and plain laws, one chapter behind the other.
-/
import Derived.Laws.MakeOwn
import Derived.WalkKit
import Derived.Test.YtkjdfgjmkomcgaaChecked
import Derived.Deep.Slices
import Derived.Deep.Strs
import Derived.Deep.RegionLaw
import Derived.Test.YtkjdfgjmkomcgaaM01
namespace Go.Proofs.Ytkjdfgjmkomcgaa
open Go.RowKit

set_option linter.unusedVariables false

set_option maxRecDepth 100000


/-- A run's cells. -/
def runC (r : Int × Int × Int) : List Value := [.int .i64 r.1, .int .i64 r.2.1, .int .i64 r.2.2]

theorem runC_len (r : Int × Int × Int) : (runC r).length = 3 := rfl

theorem Try.infoRun : (Try.prog.info? 106).map (fun i => (i.zero, i.size, i.bytes)) = some (some (.agg #[.int .i64 0, .int .i64 0, .int .i64 0]), 3, 24) := by kernel_rfl

theorem three_cells {B : Nat} {w : World} {o : Option Addr} {rs : List (Int × Int × Int)} (hc : ∀ i x, rs[i]? = some x → ∃ g off, o = some ⟨g, off, none⟩ ∧ g < B ∧ ∀ j u, (runC x)[j]? = some u → w.cell? ⟨g, off + i * 3 + j, none⟩ = some u) (i : Nat) (hi : i < rs.length) :
    ∃ g off, o = some ⟨g, off, none⟩ ∧ g < B ∧ w.cell? ⟨g, off + i * 3, none⟩ = some (.int .i64 rs[i].1) ∧ w.cell? ⟨g, off + i * 3 + 1, none⟩ = some (.int .i64 rs[i].2.1) ∧ w.cell? ⟨g, off + i * 3 + 2, none⟩ = some (.int .i64 rs[i].2.2) := by
  obtain ⟨g, off, e, hg, hx⟩ := hc i rs[i] (List.getElem?_eq_getElem hi)
  exact ⟨g, off, e, hg, hx 0 _ rfl, hx 1 _ rfl, hx 2 _ rfl⟩

theorem szRuns_any (o : Option Addr) (n cap : Nat) (left : Int) (w : World) (h0 : 0 ≤ left) (hl : left ≤ 1048576) (hm : n ≤ maxLen) :
    Calls Try.prog 115 #[.slice o n cap, .int .i64 left] w fun e w' => e = .returned (.int .i64 (if left < n then -1 else left - n)) ∧ w' = w := by
  unfold maxLen at hm
  by_cases hbig : left < (n : Int)
  · rw [if_pos hbig]
    have h1 : left - (n : Int) < 0 := by omega
    go_enter Try.func115, Try.ntmps115
    go_wp2_with fail
    go_ret
    exact ⟨rfl, rfl⟩
  · rw [if_neg hbig]
    have h1 : 0 ≤ left - (n : Int) := by omega
    go_enter Try.func115, Try.ntmps115
    go_wp2_with fail
    go_ret
    exact ⟨rfl, rfl⟩

theorem toRun_any (f c p : Int) (w : World) :
    Calls Try.prog 124 #[.agg #[.int .i64 f, .int .i64 c, .int .i64 p]] w fun e w' => e = .returned (.agg #[.int .i64 f, .int .i64 c, .int .i64 p]) ∧ Below w.heap.size w w' := by
  go_enter Try.func124, Try.ntmps124
  go_wp2
  exact bodyPost_ret (v := .agg #[.int .i64 f, .int .i64 c, .int .i64 p]) (by simp [results, Try.results124, go_sem]) rfl ⟨rfl, by go_grown⟩

theorem eqRun_any (f c p f' c' p' : Int) (w : World) :
    Calls Try.prog 125 #[.agg #[.int .i64 f, .int .i64 c, .int .i64 p], .agg #[.int .i64 f', .int .i64 c', .int .i64 p']] w fun e w' => e = .returned (.bool (decide ((f, c, p) = (f', c', p')))) ∧ Below w.heap.size w w' := by
  by_cases e1 : f = f'
  · subst e1
    by_cases e2 : c = c'
    · subst e2
      by_cases e3 : p = p'
      · subst e3
        go_enter Try.func125, Try.ntmps125
        go_wp2
        go_ret
        exact ⟨ret_bool (by simp), bw_alloc (bw_alloc (Below.refl _ _))⟩
      · have h1 : (p == p') = false := by simpa using e3
        have h2 : (p != p') = true := by simpa using e3
        go_enter Try.func125, Try.ntmps125
        go_wp2
        go_ret
        exact ⟨ret_bool (by simp [e3]), bw_alloc (bw_alloc (Below.refl _ _))⟩
    · have h1 : (c == c') = false := by simpa using e2
      have h2 : (c != c') = true := by simpa using e2
      go_enter Try.func125, Try.ntmps125
      go_wp2
      go_ret
      exact ⟨ret_bool (by simp [e2]), bw_alloc (bw_alloc (Below.refl _ _))⟩
  · have h1 : (f == f') = false := by simpa using e1
    have h2 : (f != f') = true := by simpa using e1
    go_enter Try.func125, Try.ntmps125
    go_wp2
    go_ret
    exact ⟨ret_bool (by simp [e1]), bw_alloc (bw_alloc (Below.refl _ _))⟩

set_option maxHeartbeats 800000 in
theorem eqRuns_any (v1 v2 : Value) (xs ys : List (Int × Int × Int)) (w : World) (h1 : ReadsR 3 runC w.heap.size w v1 xs) (h2 : ReadsR 3 runC w.heap.size w v2 ys) :
    Calls Try.prog 117 #[v1, v2] w fun e w' => e = .returned (.bool (decide (xs = ys))) ∧ Below w.heap.size w w' := by
  obtain ⟨o1, cap1, rfl, m1, c1, -⟩ := h1
  obtain ⟨o2, cap2, rfl, m2, c2, -⟩ := h2
  by_cases hlen : xs.length = ys.length
  · rw [← hlen]
    have C1 : Hid _ := three_cells c1
    have C2 : Hid _ := three_cells c2
    have HL : Hid (xs.length = ys.length) := hlen
    have hle : ys.length ≤ xs.length := by omega
    have hge : xs.length ≤ ys.length := by omega
    unfold maxLen at m1
    clear c1 c2 m2 hlen
    go_enter Try.func117, Try.ntmps117
    go_wp2
    go_loopw [5] (fun i wr => ∃ k : Nat, k ≤ xs.length ∧ i = .int .i64 k ∧ xs.take k = ys.take k ∧ Below w.heap.size w wr) (fun i _ => xs.length - (intOf i).toNat)
    case atStart => exact ⟨0, Nat.zero_le _, rfl, rfl, Below.refl _ _⟩
    case round =>
      obtain ⟨k, hk, rfl, htk, hb⟩ := hrel
      have HT : Hid (xs.take k = ys.take k) := htk
      clear htk
      by_cases hlt : k < xs.length
      · have hlt2 : k < ys.length := by omega
        obtain ⟨g1, of1, rfl, q1, a0, a1, a2⟩ := C1.out k hlt
        obtain ⟨g2, of2, rfl, q2, b0, b1, b2⟩ := C2.out k hlt2
        have HE : Hid (xs[k] = ys[k] → xs.take (k + 1) = ys.take (k + 1)) := fun e => take_more xs ys k hlt hlt2 HT.out e
        have HNE : Hid (xs[k] ≠ ys[k] → ¬ xs = ys) := fun e => ne_at xs ys k hlt hlt2 e
        generalize xs[k] = x at a0 a1 a2 HE HNE
        generalize ys[k] = y at b0 b1 b2 HE HNE
        obtain ⟨f, c, p⟩ := x
        obtain ⟨f', c', p'⟩ := y
        simp only at a0 a1 a2 b0 b1 b2
        have hne := BelowOf.any wr
        have l1 : g1 < wr.heap.size := Nat.lt_of_lt_of_le q1 hb.size
        have l2 : g2 < wr.heap.size := Nat.lt_of_lt_of_le q2 hb.size
        have d0 := BelowOf.cell ((hb.cell (p := ⟨g1, of1 + k * 3, none⟩) q1).trans a0) l1
        have d1 := BelowOf.cell ((hb.cell (p := ⟨g1, of1 + k * 3 + 1, none⟩) q1).trans a1) l1
        have d2 := BelowOf.cell ((hb.cell (p := ⟨g1, of1 + k * 3 + 2, none⟩) q1).trans a2) l1
        have f0 := BelowOf.cell ((hb.cell (p := ⟨g2, of2 + k * 3, none⟩) q2).trans b0) l2
        have f1 := BelowOf.cell ((hb.cell (p := ⟨g2, of2 + k * 3 + 1, none⟩) q2).trans b1) l2
        have f2 := BelowOf.cell ((hb.cell (p := ⟨g2, of2 + k * 3 + 2, none⟩) q2).trans b2) l2
        have g1' : (0 : Int) ≤ (k : Int) := by omega
        have g2' : (k : Int) < (xs.length : Int) := by omega
        clear a0 a1 a2 b0 b1 b2 C1 C2
        obtain ⟨dd, hdd⟩ : ∃ dd, decide ((f, c, p) = (f', c', p')) = dd := ⟨_, rfl⟩
        have HD : Hid _ := hdd
        have HEQ : ∀ q : BelowOf wr, Calls Try.prog 125 #[.agg #[.int .i64 f, .int .i64 c, .int .i64 p], .agg #[.int .i64 f', .int .i64 c', .int .i64 p']] q.w' fun e w' => e = .returned (.bool dd) ∧ Below q.w'.heap.size q.w' w' := fun q => by have h := eqRun_any f c p f' c' p' q.w'; rwa [hdd] at h
        clear hdd
        go_wp2_with fail
        refine wp_region_of (by kernel_rfl) (by kernel_rfl) ?_
        repeat (go_big_quiet_step ((first | (go_at_call 125; exact calls_of (HEQ _)) | rfl)))
        refine wpQuiet_nil ?_
        intro w5 hw5
        obtain ⟨⟨wx, cx⟩, hwx⟩ := hw5
        have b5 : Below wr.heap.size wr w5 := by rw [hwx]; exact cx
        have hb5 := hb.trans (b5.mono hb.size)
        clear hwx cx wx hne d0 d1 d2 f0 f1 f2 HEQ
        cases dd
        · go_wp2_with fail
          go_ret
          exact ⟨ret_bool (decide_eq_false (HNE.out (of_decide_eq_false HD.out))).symm, hb5⟩
        · have HT2 : Hid _ := HE.out (of_decide_eq_true HD.out)
          go_wp2_with fail
          go_roundw
          case rel => exact ⟨k + 1, by omega, by go_num, HT2.out, hb5⟩
          case measure => simp [intOf]; omega
      · go_wp2
        go_ret
        exact ⟨ret_bool (by simp [all_taken xs ys k hlt HL.out HT.out]), hb⟩
  · have hn : ((xs.length : Int) != (ys.length : Int)) = true := by rw [bne_iff_ne]; omega
    have HX : Hid (decide (xs = ys) = false) := by rw [Hid, decide_eq_false_iff_not]; intro e; rw [e] at hlen; exact hlen rfl
    unfold maxLen at m1 m2
    clear hlen c1 c2
    go_enter Try.func117, Try.ntmps117
    go_wp2
    go_ret
    exact ⟨ret_bool HX.out.symm, Below.refl _ _⟩

/-- make([]impl.Run, n): a row of zero runs, at the end of memory. -/
theorem made_runs (n : Nat) (hn : n ≤ 1048576) : ∃ M : Array Value, (∀ W : World, (Instr.makeSlice 37 (.int .i64 (n : Int)) (.int .i64 (n : Int))).run Try.prog W = .ok (.slice (some ⟨W.heap.size, 0, none⟩) n n) (W.alloc (.cells M 106))) ∧
    ∀ (W : World) (base : Nat), base ≤ W.heap.size → (W.alloc (.cells M 106)).ownsRow base 106 3 (.slice (some ⟨W.heap.size, 0, none⟩) n n) (List.replicate n ((0 : Int), (0 : Int), (0 : Int))).length ((List.replicate n ((0 : Int), (0 : Int), (0 : Int))).flatMap runC) := by
  obtain ⟨i0, hi, hz0, hz1, hz2⟩ := info_parts Try.infoRun
  have e := toList_made (cs := runC) runC_len (by omega) ((0 : Int), (0 : Int), (0 : Int)) (Value.agg #[.int .i64 0, .int .i64 0, .int .i64 0]).cells rfl n
  refine ⟨madeCells (Value.agg #[.int .i64 0, .int .i64 0, .int .i64 0]).cells (n * 3), fun W => ?_, fun W base hb => ?_⟩
  · have h := run_make (P := Try.prog) W 37 106 i0 (.agg #[.int .i64 0, .int .i64 0, .int .i64 0]) Try.underlying37 hi hz0 .i64 .i64 (n : Int) (n : Int) (by omega) (by omega) (by rw [hz2]; omega) (by omega)
    rw [hz1, Int.toNat_natCast] at h
    simpa using h
  · have h := World.ownsRow_lit (base := base) (size := 3) (e := 106) W (madeCells (Value.agg #[.int .i64 0, .int .i64 0, .int .i64 0]).cells (n * 3)) n hb (by unfold maxLen; omega) (by rw [size_madeCells])
    rw [e] at h
    rwa [List.length_replicate]

/-- A whole run is written. -/
theorem own_run {w : World} {base g n cap : Nat} {xs : List (Int × Int × Int)} (h : w.ownsRow base 106 3 (.slice (some ⟨g, 0, none⟩) n cap) xs.length (xs.flatMap runC)) (i : Nat) (hi : i < xs.length) (f c p : Int) :
    (((w.setCell ⟨g, i * 3, none⟩ (.int .i64 f)).setCell ⟨g, i * 3 + 1, none⟩ (.int .i64 c)).setCell ⟨g, i * 3 + 2, none⟩ (.int .i64 p)).ownsRow base 106 3 (.slice (some ⟨g, 0, none⟩) n cap) (xs.set i (f, c, p)).length ((xs.set i (f, c, p)).flatMap runC) := by
  have h1 := own_put runC_len h i 0 xs[i] (f, xs[i].2.1, xs[i].2.2) (.int .i64 f) (List.getElem?_eq_getElem hi) (by omega) rfl
  have h2 := own_put runC_len h1 i 1 (f, xs[i].2.1, xs[i].2.2) (f, c, xs[i].2.2) (.int .i64 c) (by simp [hi]) (by omega) rfl
  have h3 := own_put runC_len h2 i 2 (f, c, xs[i].2.2) (f, c, p) (.int .i64 p) (by simp [hi]) (by omega) rfl
  rw [List.set_set, List.set_set] at h3
  exact h3

/-- A run's three cells, in a row of one's own. -/
theorem own_three {w : World} {base g n cap : Nat} {xs : List (Int × Int × Int)} (h : w.ownsRow base 106 3 (.slice (some ⟨g, 0, none⟩) n cap) xs.length (xs.flatMap runC)) (i : Nat) (hi : i < xs.length) :
    (w.cell? ⟨g, i * 3, none⟩ = some (.int .i64 xs[i].1) ∧ w.cell? ⟨g, i * 3 + 1, none⟩ = some (.int .i64 xs[i].2.1) ∧ w.cell? ⟨g, i * 3 + 2, none⟩ = some (.int .i64 xs[i].2.2)) ∧ w.frozen? ⟨g, i * 3, none⟩ = false ∧ w.frozen? ⟨g, i * 3 + 1, none⟩ = false ∧ w.frozen? ⟨g, i * 3 + 2, none⟩ = false := by
  obtain ⟨a0, b0⟩ := own_cell runC_len h i 0 _ (List.getElem?_eq_getElem hi) (by omega)
  obtain ⟨a1, b1⟩ := own_cell runC_len h i 1 _ (List.getElem?_eq_getElem hi) (by omega)
  obtain ⟨a2, b2⟩ := own_cell runC_len h i 2 _ (List.getElem?_eq_getElem hi) (by omega)
  exact ⟨⟨a0, a1, a2⟩, b0, b1, b2⟩

theorem set_step {α : Type} (ps zs : List α) (j : Nat) (hj : j < ps.length) (hz : zs.length = ps.length) : (ps.take j ++ zs.drop j).set j ps[j] = ps.take (j + 1) ++ zs.drop (j + 1) := by
  have hl : (ps.take j).length = j := by simp; omega
  rw [List.set_append_right _ _ (by omega), hl, Nat.sub_self, List.drop_eq_getElem_cons (show j < zs.length by omega), List.set_cons_zero, List.take_succ_eq_append_getElem hj, List.append_assoc]
  rfl

set_option maxHeartbeats 1600000 in
theorem toRuns_any (v : Value) (ps : List (Int × Int × Int)) (w : World) (hn : ps.length ≤ 1048576) (hp : ReadsR 3 runC w.heap.size w v ps) :
    Calls Try.prog 116 #[v] w fun e w' => e = .returned (.slice (some ⟨w.heap.size, 0, none⟩) ps.length ps.length) ∧ w'.ownsRow w.heap.size 106 3 (.slice (some ⟨w.heap.size, 0, none⟩) ps.length ps.length) ps.length (ps.flatMap runC) ∧ Below w.heap.size w w' := by
  obtain ⟨o, cap, rfl, hm, hcells, -⟩ := hp
  have HC : Hid _ := three_cells hcells
  obtain ⟨M, hmk, hown⟩ := made_runs ps.length hn
  have own0 := hown w w.heap.size (Nat.le_refl _)
  have bd0 : Below w.heap.size w (w.alloc (.cells M 106)) := bw_alloc (Below.refl _ _)
  clear hown hcells hm
  go_enter Try.func116, Try.ntmps116
  go_wp2_with fail
  generalize w.alloc (.cells M 106) = W0 at own0 bd0 ⊢
  generalize hzs : List.replicate ps.length ((0 : Int), (0 : Int), (0 : Int)) = zs at own0
  have hzl : zs.length = ps.length := by rw [← hzs]; simp
  clear hmk hzs
  go_loopw [4] (fun i wr => ∃ j : Nat, j ≤ ps.length ∧ i = .int .i64 j ∧ wr.ownsRow w.heap.size 106 3 (.slice (some ⟨w.heap.size, 0, none⟩) ps.length ps.length) (ps.take j ++ zs.drop j).length ((ps.take j ++ zs.drop j).flatMap runC) ∧ Below w.heap.size w wr ∧ w.heap.size < wr.heap.size) (fun i _ => ps.length - (intOf i).toNat)
  case atStart => exact ⟨0, Nat.zero_le _, rfl, by simpa using own0, bd0, (own0.lt _ rfl).2⟩
  case round =>
    obtain ⟨j, hj, rfl, own, hb, hsz⟩ := hrel
    by_cases hlt : j < ps.length
    · obtain ⟨g, off, rfl, hg, a0, a1, a2⟩ := HC.out j hlt
      replace a0 := (hb.cell (p := ⟨g, off + j * 3, none⟩) hg).trans a0
      replace a1 := (hb.cell (p := ⟨g, off + j * 3 + 1, none⟩) hg).trans a1
      replace a2 := (hb.cell (p := ⟨g, off + j * 3 + 2, none⟩) hg).trans a2
      have hl2 : (ps.take j ++ zs.drop j).length = ps.length := by simp; omega
      have hjl : j < (ps.take j ++ zs.drop j).length := by omega
      have HST := fun (W : World) (hW : W.ownsRow w.heap.size 106 3 (.slice (some ⟨w.heap.size, 0, none⟩) ps.length ps.length) (ps.take j ++ zs.drop j).length ((ps.take j ++ zs.drop j).flatMap runC)) => own_run hW j hjl ps[j].1 ps[j].2.1 ps[j].2.2
      have hss := set_step ps zs j hlt hzl
      rw [show (ps[j].1, ps[j].2.1, ps[j].2.2) = ps[j] from rfl, hss] at HST
      have HST2 : Hid _ := HST
      have hcc := fun (W : World) (hW : W.ownsRow w.heap.size 106 3 (.slice (some ⟨w.heap.size, 0, none⟩) ps.length ps.length) (ps.take j ++ zs.drop j).length ((ps.take j ++ zs.drop j).flatMap runC)) => own_three hW j hjl
      have HCC : Hid _ := hcc
      clear HST hss hcc hl2
      generalize ps[j] = x at a0 a1 a2 HST2
      obtain ⟨f, c, p⟩ := x
      simp only at a0 a1 a2
      go_wp2_with fail
      refine (toRun_any f c p _).mono ?_
      rintro e w5 ⟨rfl, b5⟩
      have own5 := owns_below own b5
      have HO5 : Hid _ := HST2.out w5 own5
      obtain ⟨⟨t0, t1, t2⟩, u0, u1, u2⟩ := HCC.out w5 own5
      have hb5 := hb.trans (b5.mono hb.size)
      have hbf : Below w.heap.size w (((w5.setCell ⟨w.heap.size, j * 3, none⟩ (.int .i64 f)).setCell ⟨w.heap.size, j * 3 + 1, none⟩ (.int .i64 c)).setCell ⟨w.heap.size, j * 3 + 2, none⟩ (.int .i64 p)) := bw_set (bw_set (bw_set hb5 (Nat.le_refl _) _) (Nat.le_refl _) _) (Nat.le_refl _) _
      have hs5 : w.heap.size < w5.heap.size := Nat.lt_of_lt_of_le hsz b5.size
      have HBF : Hid _ := And.intro hbf hs5
      clear hbf own own5 b5 hb hb5 HCC HST2
      generalize (ps.take j ++ zs.drop j)[j] = y at t0 t1 t2
      go_wp2_with fail
      go_roundw
      case rel => exact ⟨j + 1, by omega, by go_num, HO5.out, HBF.out.1, by simpa [World.size_setCell] using HBF.out.2⟩
      case measure => simp [intOf]; omega
    · obtain rfl : j = ps.length := by omega
      rw [List.take_length, List.drop_of_length_le (by omega), List.append_nil] at own
      go_wp2_with fail
      go_ret
      exact ⟨rfl, own, hb⟩

def marksR (k : Int) (n : Nat) : List (Int × Int × Int) := (List.range n).map fun i : Nat => (k + 3 * (i : Int), k + 3 * (i : Int) + 1, k + 3 * (i : Int) + 1 + 1)

theorem marksR_length (k : Int) (n : Nat) : (marksR k n).length = n := by simp [marksR]

theorem marksR_set (k : Int) (xs : List (Int × Int × Int)) (j : Nat) (h : j < xs.length) : (marksR k j ++ xs.drop j).set j (k + 3 * (j : Int), k + 3 * (j : Int) + 1, k + 3 * (j : Int) + 1 + 1) = marksR k (j + 1) ++ xs.drop (j + 1) := by
  have hl : (marksR k j).length = j := marksR_length k j
  have hs : marksR k (j + 1) = marksR k j ++ [(k + 3 * (j : Int), k + 3 * (j : Int) + 1, k + 3 * (j : Int) + 1 + 1)] := by simp [marksR, List.range_succ]
  rw [List.set_append_right _ _ (by omega), hl, Nat.sub_self, List.drop_eq_getElem_cons h, List.set_cons_zero, hs]
  exact (List.append_assoc _ [_] _).symm

set_option maxHeartbeats 1600000 in
theorem markedR_any (g cap n base : Nat) (k : Int) (xs : List (Int × Int × Int)) (w : World) (hk : 0 ≤ k) (hk2 : k ≤ 1073741824) (hx : xs.length = n) (hn : n ≤ 1048576) (own : w.ownsRow base 106 3 (.slice (some ⟨g, 0, none⟩) n cap) xs.length (xs.flatMap runC)) :
    Calls Try.prog 93 #[.slice (some ⟨g, 0, none⟩) n cap, .int .i64 k] w fun e w' => e = .returned (.int .i64 (k + 3 * n)) ∧ w'.ownsRow base 106 3 (.slice (some ⟨g, 0, none⟩) n cap) (marksR k n).length ((marksR k n).flatMap runC) ∧ Upto g w w' := by
  have HX : Hid (xs.length = n) := hx
  have hx1 : n ≤ xs.length := by omega
  clear hx
  go_enter Try.func93, Try.ntmps93
  go_wp2
  go_loopw [1, 5] (fun q i wr => ∃ j : Nat, j ≤ n ∧ i = .int .i64 j ∧ q = .int .i64 (k + 3 * j) ∧ wr.ownsRow base 106 3 (.slice (some ⟨g, 0, none⟩) n cap) (marksR k j ++ xs.drop j).length ((marksR k j ++ xs.drop j).flatMap runC) ∧ Upto g w wr) (fun _ i _ => n - (intOf i).toNat)
  case atStart => exact ⟨0, Nat.zero_le _, rfl, by simp, by simpa [marksR] using own, Upto.refl _ _⟩
  case round =>
    obtain ⟨j, hj, rfl, rfl, ow, u⟩ := hrel
    clear own
    by_cases hlt : j < n
    · have hjl : j < (marksR k j ++ xs.drop j).length := by rw [List.length_append, marksR_length, List.length_drop]; omega
      obtain ⟨⟨t0, t1, t2⟩, u0, u1, u2⟩ := own_three ow j hjl
      have HST := own_run ow j hjl (k + 3 * (j : Int)) (k + 3 * (j : Int) + 1) (k + 3 * (j : Int) + 1 + 1)
      rw [marksR_set k xs j (by omega)] at HST
      have uf : Upto g w (((wr.setCell ⟨g, j * 3, none⟩ (.int .i64 (k + 3 * (j : Int)))).setCell ⟨g, j * 3 + 1, none⟩ (.int .i64 (k + 3 * (j : Int) + 1))).setCell ⟨g, j * 3 + 2, none⟩ (.int .i64 (k + 3 * (j : Int) + 1 + 1))) := ((u.setCell _ (.inl rfl) _).setCell _ (.inl rfl) _).setCell _ (.inl rfl) _
      have HO : Hid _ := And.intro HST uf
      generalize (marksR k j ++ xs.drop j)[j] = y at t0 t1 t2
      clear HST uf ow u
      go_wp2_with fail
      go_roundw
      case rel => exact ⟨j + 1, by omega, by go_num, by go_num, HO.out.1, HO.out.2⟩
      case measure => simp [intOf]; omega
    · obtain rfl : j = n := by omega
      rw [List.drop_of_length_le (by have := HX.out; omega), List.append_nil] at ow
      go_wp2_with fail
      go_ret
      exact ⟨rfl, ow, u⟩

/-- A row of runs of one's own, marked; whatever lies in another block stays. -/
theorem markedRRow_any (v : Value) (base : Nat) (k : Int) (xs : List (Int × Int × Int)) (w : World) (hk : 0 ≤ k) (hk2 : k ≤ 1073741824) (hn : xs.length ≤ 1048576) (hbase : base ≤ w.heap.size) (own : w.ownsRow base 106 3 v xs.length (xs.flatMap runC)) :
    Calls Try.prog 93 #[v, .int .i64 k] w fun e w' => e = .returned (.int .i64 (k + 3 * xs.length)) ∧ w'.ownsRow base 106 3 v (marksR k xs.length).length ((marksR k xs.length).flatMap runC) ∧ Below base w w' ∧ w.heap.size ≤ w'.heap.size ∧ ∀ i, i < w.heap.size → v.ownBlock ≠ some i → w'.heap[i]? = w.heap[i]? := by
  rcases own.2 with ⟨rfl, h0⟩ | ⟨g, cap, cur, rfl, hg, _⟩
  · have hx : xs = [] := List.length_eq_zero_iff.1 h0
    subst hx
    go_enter Try.func93, Try.ntmps93
    go_wp2
    refine wp_loop_rounds 1 ?_
    rw [rounds_succ]
    go_wp2
    go_ret
    exact ⟨ret_int (by simp), World.ownsRow_nil _ _ _ _, Below.refl _ _, Nat.le_refl _, fun _ _ _ => rfl⟩
  · refine (markedR_any g cap xs.length base k xs w hk hk2 rfl hn own).mono ?_
    rintro e w' ⟨he, ho, hu⟩
    exact ⟨he, ho, hu.toBelow hbase hg, hu.size, fun i hi hn => hu.block i hi (fun e => hn (by rw [e]; rfl))⟩
end Go.Proofs.Ytkjdfgjmkomcgaa

namespace Go.Proofs.Ytkjdfgjmkomcgaa
set_option linter.unusedVariables false

set_option maxRecDepth 100000


/-- A number of 64 bits; runs of such. -/
def I64 (x : Int) : Prop := -9223372036854775808 ≤ x ∧ x ≤ 9223372036854775807

def FitRuns (rs : List (Int × Int × Int)) : Prop := ∀ r ∈ rs, I64 r.1 ∧ I64 r.2.1 ∧ I64 r.2.2

/-- Is the run right, behind places that end at e, behind a run that is pv? -/
def runOk (e : Int) (pv : Option (Int × Int × Int)) (r : Int × Int × Int) : Bool :=
  decide (e ≤ r.1) && (decide (1 ≤ r.2.1) && decide (r.2.1 ≤ 16)) && decide (r.1 ≤ 16 - r.2.1) && (decide (0 ≤ r.2.2) && decide (r.2.2 ≤ 24 - r.2.1)) &&
    !(match pv with | none => false | some q => decide (r.1 = e) && decide (r.2.2 = q.2.2 + q.2.1))

def okFrom : Int → Option (Int × Int × Int) → List (Int × Int × Int) → Bool
  | _, _, [] => true
  | e, pv, r :: rs => runOk e pv r && okFrom (r.1 + r.2.1) (some r) rs

def mapOk (rs : List (Int × Int × Int)) : Bool := okFrom 0 none rs && decide (rs.length ≤ 16)

theorem runOk_iff (e : Int) (pv : Option (Int × Int × Int)) (f c p : Int) : runOk e pv (f, c, p) = true ↔ (e ≤ f ∧ 1 ≤ c ∧ c ≤ 16 ∧ f ≤ 16 - c ∧ 0 ≤ p ∧ p ≤ 24 - c ∧ ∀ q, pv = some q → ¬ (f = e ∧ p = q.2.2 + q.2.1)) := by
  cases pv with
  | none => simp [runOk]; omega
  | some q =>
    simp only [runOk, Bool.and_eq_true, decide_eq_true_eq, Bool.not_eq_true', Bool.and_eq_false_iff, decide_eq_false_iff_not, Option.some.injEq]
    constructor
    · rintro ⟨⟨⟨⟨h1, h2⟩, h3⟩, h4⟩, h5⟩
      refine ⟨h1, h2.1, h2.2, h3, h4.1, h4.2, ?_⟩
      rintro _ rfl ⟨h6, h7⟩
      rcases h5 with h5 | h5
      · exact h5 h6
      · exact h5 h7
    · rintro ⟨h1, h2, h3, h4, h5, h6, h7⟩
      refine ⟨⟨⟨⟨h1, h2, h3⟩, h4⟩, h5, h6⟩, ?_⟩
      by_cases h8 : f = e
      · exact .inr (fun h9 => h7 q rfl ⟨h8, h9⟩)
      · exact .inl h8

/-- n pages one behind the other are laid from place f on. -/
def lay (l : List Int) (f : Nat) (p : Int) : Nat → List Int
  | 0 => l
  | n + 1 => (lay l f p n).set (f + n) (p + n)

def layRun (l : List Int) (r : Int × Int × Int) : List Int := lay l r.1.toNat r.2.2 r.2.1.toNat

def none16 : List Int := List.replicate 16 (-1)

/-- For each place its page; -1: none. -/
def pages (rs : List (Int × Int × Int)) : List Int := rs.foldl layRun none16

theorem lay_length (l : List Int) (f : Nat) (p : Int) (n : Nat) : (lay l f p n).length = l.length := by
  induction n with
  | zero => rfl
  | succ n ih => rw [lay, List.length_set, ih]

theorem layRun_length (l : List Int) (r : Int × Int × Int) : (layRun l r).length = l.length := lay_length _ _ _ _

theorem foldl_length (rs : List (Int × Int × Int)) (l : List Int) : (rs.foldl layRun l).length = l.length := by
  induction rs generalizing l with
  | nil => rfl
  | cons r rs ih => rw [List.foldl_cons, ih, layRun_length]

theorem pages_length (rs : List (Int × Int × Int)) : (pages rs).length = 16 := by rw [pages, foldl_length]; rfl

theorem lay_get (l : List Int) (f : Nat) (p : Int) (n j : Nat) (h : f + n ≤ l.length) : (lay l f p n).getD j 0 = if f ≤ j ∧ j < f + n then p + ((j - f : Nat) : Int) else l.getD j 0 := by
  induction n with
  | zero => rw [lay, if_neg (by omega)]
  | succ n ih =>
    have hl := lay_length l f p n
    rw [lay, List.getD_eq_getElem?_getD, List.getElem?_set, hl]
    by_cases e : f + n = j
    · rw [if_pos e, if_pos (by omega), if_pos (by omega)]
      show p + (n : Int) = _
      rw [show j - f = n by omega]
    · rw [if_neg e, ← List.getD_eq_getElem?_getD, ih (by omega)]
      by_cases q : f ≤ j ∧ j < f + n
      · rw [if_pos q, if_pos (by omega)]
      · rw [if_neg q, if_neg (by omega)]

/-- One place more: it is skipped, it makes the last run longer, or it begins a run. -/
def grow (k : Nat) (v : Int) (acc : List (Int × Int × Int)) : List (Int × Int × Int) :=
  if v < 0 then acc else
  match acc.getLast? with
  | none => acc ++ [((k : Int), 1, v)]
  | some r => if r.1 + r.2.1 = k ∧ r.2.2 + r.2.1 = v then acc.dropLast ++ [(r.1, r.2.1 + 1, r.2.2)] else acc ++ [((k : Int), 1, v)]

/-- The map of the first n places of l. -/
def upto (l : List Int) : Nat → List (Int × Int × Int)
  | 0 => []
  | n + 1 => grow n (l.getD n 0) (upto l n)

/-- Each page that a right map shows is one, or there is none. -/
theorem pages_fold_range (rs : List (Int × Int × Int)) (e : Int) (pv : Option (Int × Int × Int)) (h : okFrom e pv rs = true) (l : List Int) (hl : l.length = 16) (hv : ∀ j, j < 16 → -1 ≤ l.getD j 0 ∧ l.getD j 0 ≤ 23) (he : 0 ≤ e) : ∀ j, j < 16 → -1 ≤ (rs.foldl layRun l).getD j 0 ∧ (rs.foldl layRun l).getD j 0 ≤ 23 := by
  induction rs generalizing e pv l with
  | nil => exact hv
  | cons r rs ih =>
    obtain ⟨f, c, p⟩ := r
    rw [okFrom, Bool.and_eq_true, runOk_iff] at h
    rw [List.foldl_cons]
    refine ih _ _ h.2 _ (by rw [layRun_length]; exact hl) (fun j hj => ?_) (by simp only; omega)
    show -1 ≤ (lay l f.toNat p c.toNat).getD j 0 ∧ (lay l f.toNat p c.toNat).getD j 0 ≤ 23
    rw [lay_get _ _ _ _ _ (by omega)]
    by_cases q : f.toNat ≤ j ∧ j < f.toNat + c.toNat
    · rw [if_pos q]; omega
    · rw [if_neg q]; exact hv j hj

theorem none16_at (j : Nat) (hj : j < 16) : none16.getD j 0 = -1 := by
  have h16 : j = 0 ∨ j = 1 ∨ j = 2 ∨ j = 3 ∨ j = 4 ∨ j = 5 ∨ j = 6 ∨ j = 7 ∨ j = 8 ∨ j = 9 ∨ j = 10 ∨ j = 11 ∨ j = 12 ∨ j = 13 ∨ j = 14 ∨ j = 15 := by omega
  rcases h16 with rfl | rfl | rfl | rfl | rfl | rfl | rfl | rfl | rfl | rfl | rfl | rfl | rfl | rfl | rfl | rfl <;> rfl

theorem mapOk_from {rs : List (Int × Int × Int)} (h : mapOk rs = true) : okFrom 0 none rs = true := by rw [mapOk, Bool.and_eq_true] at h; exact h.1

theorem pages_range (rs : List (Int × Int × Int)) (h : mapOk rs = true) (j : Nat) (hj : j < 16) : -1 ≤ (pages rs).getD j 0 ∧ (pages rs).getD j 0 ≤ 23 :=
  pages_fold_range rs 0 none (mapOk_from h) none16 rfl (fun j hj => by rw [none16_at j hj]; omega) (by omega) j hj
end Go.Proofs.Ytkjdfgjmkomcgaa

namespace Go.Proofs.Ytkjdfgjmkomcgaa
open Go.ChangeShapes Go.WideShapes Go.ChangeAt Go.RowKit Go.Deep

set_option linter.unusedVariables false

set_option maxRecDepth 100000


theorem lit_i64 {a : Int} (h : (Lit.int .i64 a).wf = true) : -9223372036854775808 ≤ a ∧ a ≤ 9223372036854775807 := by simpa [Lit.wf, IntKind.min, IntKind.max, IntKind.signed, IntKind.bits] using h

/-- A row of runs, read out of whatever it lies in. -/
theorem row_runs {H : Type} {enc : TypeId × Value → H} {W : World} {n : Nat} {v : Value} {y : DataW H × List MemPlace} (h : DataW.trod enc Try.prog W 0 (fun _ => true) true n 125 [v] = some y) :
    ∃ xs : List (Int × Int × Int), ReadsR 3 runC W.heap.size W v xs ∧ FitRuns xs := by
  rcases open_slice Try.underlying125 h with ⟨hcs, _⟩ | ⟨a, len, cap, m, k, D, Pl, hcs, _, hl, hm, hmm, _, hx⟩
  · simp at hcs
    subst hcs
    exact ⟨[], ReadsR.nil _ _ _ _, fun r hr => by cases hr⟩
  · simp at hcs
    subst hcs
    have hlm : len ≤ m := by rw [hmm]; split <;> omega
    have ce : Try.prog.cellsOf 158 = 3 := by kernel_rfl
    have c1 : Try.prog.cellsOf 2 = 1 := by kernel_rfl
    have each : ∀ i, i < len → ∃ r : Int × Int × Int, (∀ j u, (runC r)[j]? = some u → W.cell? (a.add (i * 3 + j)) = some u) ∧ I64 r.1 ∧ I64 r.2.1 ∧ I64 r.2.2 := by
      intro i hi
      obtain ⟨cs', h1, h2⟩ := hx i (by omega)
      rw [ce] at h1
      obtain ⟨_, hlen, hcell⟩ := World.cells?_some h1
      obtain ⟨y0, y1, y2, n', _, _, t0, t1, t2⟩ := trod_struct3 Try.underlying158 h2
      match cs', hlen with
      | [v0, v1, v2], _ =>
        simp [c1] at t0 t1 t2
        obtain ⟨f, e0, _, z0⟩ := DataW.trod_int Try.underlying2 t0
        obtain ⟨c, e1, _, z1⟩ := DataW.trod_int Try.underlying2 t1
        obtain ⟨p, e2, _, z2⟩ := DataW.trod_int Try.underlying2 t2
        simp at e0 e1 e2
        subst e0 e1 e2
        refine ⟨(f, c, p), fun j u hj => ?_, lit_i64 z0, lit_i64 z1, lit_i64 z2⟩
        have hj3 : j < 3 := by have := (List.getElem?_eq_some_iff.1 hj).1; rwa [runC_len] at this
        have q := hcell j hj3
        rw [add_add] at q
        rw [q]
        exact hj
    obtain ⟨r, hr⟩ := choose_lt each
    have hfit : FitRuns ((List.range len).map r) := fun x hx => by
      obtain ⟨i, hi, rfl⟩ := List.mem_map.1 hx
      exact (hr i (List.mem_range.1 hi)).2
    refine ⟨(List.range len).map r, ⟨some a, cap, by simp, by simp; omega, fun i x hi => ?_, by simp; omega⟩, hfit⟩
    have hil : i < len := by have := (List.getElem?_eq_some_iff.1 hi).1; simpa using this
    have ex : r i = x := by
      rw [List.getElem?_map, List.getElem?_range hil] at hi
      simpa using hi
    have h0 := (hr i hil).1
    rw [ex] at h0
    obtain ⟨b, off, spot⟩ := a
    have hspot : spot = none := by simpa [Addr.add] using World.cell?_spot ((hr 0 (by omega)).1 0 _ rfl)
    subst hspot
    have e : ∀ z, (⟨b, off, none⟩ : Addr).add z = ⟨b, off + z, none⟩ := fun z => by unfold Addr.add; split <;> simp_all
    have hb : b < W.heap.size := by
      have q := h0 0 _ rfl
      rw [e] at q
      rcases Nat.lt_or_ge b W.heap.size with g | g
      · exact g
      · simp [World.cell?, Array.getElem?_eq_none g] at q
    refine ⟨b, off, rfl, hb, fun j u hj => ?_⟩
    have q := h0 j u hj
    rw [e] at q
    rw [Nat.add_assoc]
    exact q
end Go.Proofs.Ytkjdfgjmkomcgaa

namespace Go.Proofs.Ytkjdfgjmkomcgaa
open Go.RowKit

set_option linter.unusedVariables false

set_option maxRecDepth 100000


/-- The run ahead of place k. -/
def prevOf (rs : List (Int × Int × Int)) (k : Nat) : Option (Int × Int × Int) := if k = 0 then none else rs[k - 1]?

theorem okFrom_step (rs : List (Int × Int × Int)) (e : Int) (k : Nat) (h : k < rs.length) : okFrom e (prevOf rs k) (rs.drop k) = (runOk e (prevOf rs k) rs[k] && okFrom (rs[k].1 + rs[k].2.1) (prevOf rs (k + 1)) (rs.drop (k + 1))) := by
  rw [List.drop_eq_getElem_cons h, okFrom, prevOf, prevOf, if_neg (by omega : ¬ k + 1 = 0), Nat.add_sub_cancel, List.getElem?_eq_getElem h]

theorem runOk_false (e : Int) (pv : Option (Int × Int × Int)) (f c p : Int) (h : ¬ (e ≤ f ∧ 1 ≤ c ∧ c ≤ 16 ∧ f ≤ 16 - c ∧ 0 ≤ p ∧ p ≤ 24 - c ∧ ∀ q, pv = some q → ¬ (f = e ∧ p = q.2.2 + q.2.1))) : runOk e pv (f, c, p) = false := by
  rw [Bool.eq_false_iff]
  exact fun q => h ((runOk_iff e pv f c p).1 q)

set_option maxHeartbeats 3200000 in
theorem specMapOk_any (v : Value) (rs : List (Int × Int × Int)) (w : World) (r : ReadsR 3 runC w.heap.size w v rs) :
    Calls Try.prog 69 #[v] w fun e w' => e = .returned (.bool (mapOk rs)) ∧ Below w.heap.size w w' := by
  obtain ⟨o, cap, rfl, hm, hc, -⟩ := r
  have HC : Hid _ := three_cells hc
  unfold maxLen at hm
  clear hc
  go_enter Try.func69, Try.ntmps69
  go_wp2_with fail
  go_loopw [3, 4] (fun q i wr => ∃ (k : Nat) (e : Int), k ≤ rs.length ∧ i = .int .i64 k ∧ q = .int .i64 e ∧ (0 ≤ e ∧ e ≤ 16) ∧ okFrom 0 none rs = okFrom e (prevOf rs k) (rs.drop k) ∧ (∀ q, prevOf rs k = some q → 0 ≤ q.2.2 ∧ q.2.2 ≤ 24 ∧ 1 ≤ q.2.1 ∧ q.2.1 ≤ 16) ∧ Below w.heap.size w wr) (fun _ i _ => rs.length - (intOf i).toNat)
  case atStart => exact ⟨0, 0, Nat.zero_le _, rfl, rfl, by omega, rfl, fun q hq => by simp [prevOf] at hq, Below.refl _ _⟩
  case round =>
    obtain ⟨k, e, hk, rfl, rfl, he, hok, hpv, hb⟩ := hrel
    by_cases hlt : k < rs.length
    · obtain ⟨g, off, rfl, hg, a0, a1, a2⟩ := HC.out k hlt
      have hst := okFrom_step rs e k hlt
      rw [← hok] at hst
      have HNO : Hid (runOk e (prevOf rs k) rs[k] = false → mapOk rs = false) := fun h => by rw [mapOk, hst, h]; rfl
      have HYES : Hid (runOk e (prevOf rs k) rs[k] = true → okFrom 0 none rs = okFrom (rs[k].1 + rs[k].2.1) (prevOf rs (k + 1)) (rs.drop (k + 1))) := fun h => by rw [hst, h, Bool.true_and]
      have HPV1 : Hid (prevOf rs (k + 1) = some rs[k]) := by rw [Hid, prevOf, if_neg (by omega), Nat.add_sub_cancel, List.getElem?_eq_getElem hlt]
      have hprev : ∀ k', k = k' + 1 → ∃ q, prevOf rs k = some q ∧ w.cell? ⟨g, off + k' * 3 + 1, none⟩ = some (.int .i64 q.2.1) ∧ w.cell? ⟨g, off + k' * 3 + 2, none⟩ = some (.int .i64 q.2.2) := fun k' hk' => by
        obtain ⟨g', off', e', -, -, b1, b2⟩ := HC.out k' (by omega)
        cases e'
        refine ⟨rs[k'], ?_, b1, b2⟩
        rw [prevOf, if_neg (by omega), show k - 1 = k' by omega, List.getElem?_eq_getElem (by omega)]
      have HPREV : Hid _ := hprev
      have HPVB : Hid _ := hpv
      replace a0 := (hb.cell (p := ⟨g, off + k * 3, none⟩) hg).trans a0
      replace a1 := (hb.cell (p := ⟨g, off + k * 3 + 1, none⟩) hg).trans a1
      replace a2 := (hb.cell (p := ⟨g, off + k * 3 + 2, none⟩) hg).trans a2
      clear hst hok hprev hpv HC
      obtain ⟨x, hx⟩ : ∃ x, rs[k] = x := ⟨_, rfl⟩
      rw [hx] at a0 a1 a2 HNO HYES HPV1
      clear hx
      obtain ⟨f, c, p⟩ := x
      simp only at a0 a1 a2 HNO HYES
      have hbA : Below w.heap.size w (wr.alloc (.cells #[.int .i64 f, .int .i64 c, .int .i64 p] 106)) := bw_alloc hb
      have kB := heap_alloc_new wr (.cells #[.int .i64 f, .int .i64 c, .int .i64 p] 106)
      have sB : wr.heap.size < (wr.alloc (.cells #[.int .i64 f, .int .i64 c, .int .i64 p] 106)).heap.size := by simp
      by_cases h1 : f < e
      · have HV : Hid _ := HNO.out (runOk_false e _ f c p (fun q => by omega))
        go_wp2_with fail
        go_ret
        exact ⟨ret_bool HV.out.symm, hbA⟩
      go_wp2_with fail
      generalize wr.alloc (.cells #[.int .i64 f, .int .i64 c, .int .i64 p] 106) = W5 at *
      generalize wr.heap.size = nB at *
      have p0 := at_cell kB 0
      have p1 := at_cell kB 1
      have p2 := at_cell kB 2
      refine (l1In_any c 1 16 _).mono ?_
      rintro e' w' ⟨rfl, rfl⟩
      cases h2 : (decide ((1 : Int) ≤ c) && decide (c ≤ 16))
      · have HH := h2
        have HV : Hid _ := HNO.out (runOk_false e _ f c p (fun q => by simp at HH; omega))
        go_wp2_with fail
        go_ret
        exact ⟨ret_bool HV.out.symm, hbA⟩
      have h2' : 1 ≤ c ∧ c ≤ 16 := by simpa using h2
      by_cases h3 : 16 - c < f
      · have HH : True := trivial
        have HV : Hid _ := HNO.out (runOk_false e _ f c p (fun q => by omega))
        go_wp2_with fail
        go_ret
        exact ⟨ret_bool HV.out.symm, hbA⟩
      go_wp2_with fail
      refine (l1In_any p 0 (24 - c) _).mono ?_
      rintro e' w' ⟨rfl, rfl⟩
      cases h4 : (decide ((0 : Int) ≤ p) && decide (p ≤ 24 - c))
      · have HH := h4
        have HV : Hid _ := HNO.out (runOk_false e _ f c p (fun q => by simp at HH; omega))
        go_wp2_with fail
        go_ret
        exact ⟨ret_bool HV.out.symm, hbA⟩
      have h4' : 0 ≤ p ∧ p ≤ 24 - c := by simpa using h4
      clear h2 h4
      rcases Nat.eq_zero_or_pos k with hk0 | hkp
      · subst hk0
        have HQ : ∀ q, prevOf rs 0 = some q → ¬ (f = e ∧ p = q.2.2 + q.2.1) := fun q hq => by simp [prevOf] at hq
        have HV : Hid _ := HYES.out ((runOk_iff e _ f c p).2 ⟨by omega, by omega, by omega, by omega, by omega, by omega, HQ⟩)
        have HPB : Hid (∀ q, prevOf rs (0 + 1) = some q → 0 ≤ q.2.2 ∧ q.2.2 ≤ 24 ∧ 1 ≤ q.2.1 ∧ q.2.1 ≤ 16) := fun q hq => by rw [HPV1.out] at hq; cases hq; simp only; omega
        clear HQ HYES HNO HPVB HPREV
        go_wp2_with fail
        go_quiet (fail)
        go_wp2_with fail
        go_roundw
        case rel => exact ⟨0 + 1, f + c, by omega, by go_num, by first | rfl | rw [e1], by omega, HV.out, HPB.out, ⟨hbA.os, hbA.tape, hbA.output, hbA.size, hbA.block⟩⟩
        case measure => simp [intOf]; omega
      · obtain ⟨k', rfl⟩ : ∃ k', k = k' + 1 := ⟨k - 1, by omega⟩
        obtain ⟨q, hpq, b1, b2⟩ := HPREV.out k' rfl
        obtain ⟨hq1, hq2, hq3, hq4⟩ := HPVB.out q hpq
        replace b1 := (hbA.cell (p := ⟨g, off + k' * 3 + 1, none⟩) hg).trans b1
        replace b2 := (hbA.cell (p := ⟨g, off + k' * 3 + 2, none⟩) hg).trans b2
        have hw1 : IntKind.i64.wrap ((k' : Int) + 1 - 1) = k' := by rw [IntKind.wrap_i64]; omega
        have hw2 : (k' : Int) + 1 - 1 = k' := by omega
        have hw3 : IntKind.i64.wrap (k' : Int) = k' := by rw [IntKind.wrap_i64]; omega
        have hw4 : IntKind.i64.wrap (q.2.2 + q.2.1) = q.2.2 + q.2.1 := by rw [IntKind.wrap_i64]; omega
        have hi0 : (0 : Int) ≤ (k' : Int) := by omega
        have hi1 : (k' : Int) < (rs.length : Int) := by omega
        by_cases e1 : f = e
        · by_cases e2 : p = q.2.2 + q.2.1
          · have e1b : (f == e) = true := by simpa using e1
            have e2b : (p == q.2.2 + q.2.1) = true := by simpa using e2
            have HV : Hid _ := HNO.out (runOk_false e _ f c p (fun h => h.2.2.2.2.2.2 q hpq ⟨e1, e2⟩))
            clear HYES HNO HPVB HPREV
            go_wp2_with fail
            go_quiet (fail)
            go_wp2_with fail
            go_ret
            exact ⟨ret_bool HV.out.symm, ⟨hbA.os, hbA.tape, hbA.output, hbA.size, hbA.block⟩⟩
          · have e1b : (f == e) = true := by simpa using e1
            have e2b : (p == q.2.2 + q.2.1) = false := by simpa using e2
            have HQ : ∀ q', prevOf rs (k' + 1) = some q' → ¬ (f = e ∧ p = q'.2.2 + q'.2.1) := fun q' hq' h => by rw [hpq] at hq'; cases hq'; exact e2 h.2
            have HV : Hid _ := HYES.out ((runOk_iff e _ f c p).2 ⟨by omega, by omega, by omega, by omega, by omega, by omega, HQ⟩)
            have HPB : Hid (∀ q, prevOf rs ((k' + 1) + 1) = some q → 0 ≤ q.2.2 ∧ q.2.2 ≤ 24 ∧ 1 ≤ q.2.1 ∧ q.2.1 ≤ 16) := fun q hq => by rw [HPV1.out] at hq; cases hq; simp only; omega
            clear HQ hpq HYES HNO HPVB HPREV
            go_wp2_with fail
            go_quiet (fail)
            go_wp2_with fail
            go_roundw
            case rel => exact ⟨k' + 1 + 1, f + c, by omega, by go_num, by first | rfl | rw [e1], by omega, HV.out, HPB.out, ⟨hbA.os, hbA.tape, hbA.output, hbA.size, hbA.block⟩⟩
            case measure => simp [intOf]; omega
        · have e1b : (f == e) = false := by simpa using e1
          have HQ : ∀ q', prevOf rs (k' + 1) = some q' → ¬ (f = e ∧ p = q'.2.2 + q'.2.1) := fun q' hq' h => e1 h.1
          have HV : Hid _ := HYES.out ((runOk_iff e _ f c p).2 ⟨by omega, by omega, by omega, by omega, by omega, by omega, HQ⟩)
          have HPB : Hid (∀ q, prevOf rs ((k' + 1) + 1) = some q → 0 ≤ q.2.2 ∧ q.2.2 ≤ 24 ∧ 1 ≤ q.2.1 ∧ q.2.1 ≤ 16) := fun q hq => by rw [HPV1.out] at hq; cases hq; simp only; omega
          clear HQ hpq HYES HNO HPVB HPREV
          go_wp2_with fail
          go_quiet (fail)
          go_wp2_with fail
          go_roundw
          case rel => exact ⟨k' + 1 + 1, f + c, by omega, by go_num, by first | rfl | rw [e1], by omega, HV.out, HPB.out, ⟨hbA.os, hbA.tape, hbA.output, hbA.size, hbA.block⟩⟩
          case measure => simp [intOf]; omega
    · have hl : rs.drop k = [] := List.drop_of_length_le (by omega)
      have hv : mapOk rs = decide (rs.length ≤ 16) := by rw [mapOk, hok, hl]; simp [okFrom]
      have HV : Hid _ := hv
      clear hl hv hok
      go_wp2_with fail
      go_ret
      exact ⟨ret_bool (by rw [HV.out, decide_eq_decide]; omega), hb⟩
end Go.Proofs.Ytkjdfgjmkomcgaa

namespace Go.Proofs.Ytkjdfgjmkomcgaa
open Go.RowKit

set_option linter.unusedVariables false


/-- Each run of a right map lies in its bounds. -/
theorem okFrom_mem (rs : List (Int × Int × Int)) (e : Int) (pv : Option (Int × Int × Int)) (h : okFrom e pv rs = true) (he : 0 ≤ e) : ∀ r ∈ rs, 0 ≤ r.1 ∧ 1 ≤ r.2.1 ∧ r.1 + r.2.1 ≤ 16 ∧ 0 ≤ r.2.2 ∧ r.2.2 + r.2.1 ≤ 24 := by
  induction rs generalizing e pv with
  | nil => intro r hr; cases hr
  | cons q qs ih =>
    obtain ⟨f, c, p⟩ := q
    rw [okFrom, Bool.and_eq_true, runOk_iff] at h
    intro r hr
    rcases List.mem_cons.1 hr with rfl | hr
    · simp only; omega
    · exact ih _ _ h.2 (by simp only; omega) r hr

theorem take_fold (rs : List (Int × Int × Int)) (i : Nat) (h : i < rs.length) : (rs.take (i + 1)).foldl layRun none16 = layRun ((rs.take i).foldl layRun none16) rs[i] := by
  rw [List.take_succ_eq_append_getElem h, List.foldl_append]; rfl

set_option maxHeartbeats 3200000 in
theorem l5Pages_any (v : Value) (rs : List (Int × Int × Int)) (w : World) (hok : mapOk rs = true) (r : ReadsR 3 runC w.heap.size w v rs) :
    Calls Try.prog 70 #[v] w fun e w' => ∃ g cap : Nat, e = .returned (.slice (some ⟨g, 0, none⟩) 16 cap) ∧ w'.ownsRow w.heap.size 2 1 (.slice (some ⟨g, 0, none⟩) 16 cap) 16 ((pages rs).map (Value.int .i64)) ∧ Below w.heap.size w w' := by
  obtain ⟨i0, hi, hz0, hz1, hz2⟩ := info_parts Try.infoI64
  obtain ⟨o, cap, rfl, hm, hc, -⟩ := r
  have HC : Hid _ := three_cells hc
  have HM : Hid _ := okFrom_mem rs 0 none (mapOk_from hok) (by omega)
  unfold maxLen at hm
  have own0 : (w.alloc (.cells #[] 2)).ownsRow w.heap.size 2 1 (.slice (some ⟨w.heap.size, 0, none⟩) 0 0) 0 [] := World.ownsRow_lit w #[] 0 (Nat.le_refl _) (Nat.zero_le _) rfl
  have d0 : Below w.heap.size w (w.alloc (.cells #[] 2)) := bw_alloc (Below.refl _ _)
  clear hc hok
  go_enter Try.func70, Try.ntmps70
  go_wp2_with fail
  go_loopw [3, 4] (fun q i wr => ∃ (k g cp : Nat), k ≤ 16 ∧ i = .int .i64 k ∧ q = .slice (some ⟨g, 0, none⟩) k cp ∧ wr.ownsRow w.heap.size 2 1 (.slice (some ⟨g, 0, none⟩) k cp) k ((List.replicate k (-1 : Int)).map (Value.int .i64)) ∧ Below w.heap.size w wr) (fun _ i _ => 16 - (intOf i).toNat)
  case atStart => exact ⟨0, _, _, Nat.zero_le _, rfl, rfl, own0, d0⟩
  case round =>
    clear own0 d0
    obtain ⟨k, g, cp, hk, rfl, rfl, own, hb⟩ := hrel
    by_cases hlt : k < 16
    · have hk1 : (k : Int) < 16 := by omega
      go_wp2_with (at_builtin; refine wpList_append_own _ rfl _ _ 24 rfl w.heap.size 2 i0 (.int .i64 0) 1 8 Try.underlying24 hi hz0 hz1 hz2 rfl (by decide) _ _ _ rfl (own.alloc _) ⟨wr.heap.size, 0, none⟩ 1 1 [.int .i64 (-1)] rfl rfl ?c1 ?c2 ?c3 ?c4 ?c5 ?_)
      case c1 => exact new_one _ _ _
      case c2 => intro u hu; simp at hu; subst hu; rfl
      case c3 => unfold maxLen; omega
      case c4 => omega
      case c5 => have := hb.size; simp; omega
      intro v' w3 hown' hgrow hnil
      have hb3 : Below w.heap.size w w3 := (bw_alloc hb).grown hgrow (by have := hb.size; simp; omega) (fun q hq => (own.lt q hq).1)
      have e1 : (List.replicate k (-1 : Int)).map (Value.int .i64) ++ [.int .i64 (-1)] = (List.replicate (k + 1) (-1 : Int)).map (Value.int .i64) := by simp [List.replicate_succ']
      have own3 : w3.ownsRow w.heap.size 2 1 v' (k + 1) ((List.replicate (k + 1) (-1 : Int)).map (Value.int .i64)) := by rw [← e1]; simpa using hown'
      obtain ⟨g', cp', hv'⟩ := owns_form own3
      subst hv'
      have HO : Hid _ := own3
      clear hown' hgrow hnil own own3 e1
      go_wp2_with fail
      go_roundw
      case rel => exact ⟨k + 1, g', cp', by omega, by go_num, rfl, HO.out, hb3⟩
      case measure => simp [intOf]; omega
    · obtain rfl : k = 16 := by omega
      have e16 : List.replicate 16 (-1 : Int) = none16 := rfl
      rw [e16] at own
      have hg0 := own.lt g rfl
      go_wp2_with fail
      go_loopw [5] (fun i wr2 => ∃ (q : Nat), q ≤ rs.length ∧ i = .int .i64 q ∧ wr2.ownsRow w.heap.size 2 1 (.slice (some ⟨g, 0, none⟩) 16 cp) 16 (((rs.take q).foldl layRun none16).map (Value.int .i64)) ∧ Below w.heap.size w wr2) (fun i _ => rs.length - (intOf i).toNat)
      case atStart => exact ⟨0, Nat.zero_le _, rfl, own, hb⟩
      case round =>
        clear own hb
        obtain ⟨q, hq, rfl, own, hb⟩ := hrel
        by_cases hlt2 : q < rs.length
        · obtain ⟨g1, off, rfl, hg1, a0, a1, a2⟩ := HC.out q hlt2
          have hr := HM.out rs[q] (List.getElem_mem hlt2)
          have HTF : Hid _ := take_fold rs q hlt2
          have hl16 : ((rs.take q).foldl layRun none16).length = 16 := by rw [foldl_length]; rfl
          generalize (rs.take q).foldl layRun none16 = L at own HTF hl16
          generalize rs[q] = x at a0 a1 a2 hr HTF
          obtain ⟨f, c, p⟩ := x
          simp only at a0 a1 a2 hr
          obtain ⟨F, rfl⟩ := Int.eq_ofNat_of_zero_le hr.1
          obtain ⟨C, rfl⟩ := Int.eq_ofNat_of_zero_le (show 0 ≤ c by omega)
          have HL : Hid (L.length = 16) := hl16
          clear hl16
          go_wp2_with fail
          go_loopw [6] (fun i wr3 => ∃ (k : Nat), k ≤ C ∧ i = .int .i64 k ∧ wr3.ownsRow w.heap.size 2 1 (.slice (some ⟨g, 0, none⟩) 16 cp) 16 ((lay L F p k).map (Value.int .i64)) ∧ Below w.heap.size w wr3) (fun i _ => C - (intOf i).toNat)
          case atStart => exact ⟨0, Nat.zero_le _, rfl, own, hb⟩
          case round =>
            clear own hb
            obtain ⟨k, hk2, rfl, own, hb⟩ := hrel
            replace a0 := (hb.cell (p := ⟨g1, off + q * 3, none⟩) hg1).trans a0
            replace a1 := (hb.cell (p := ⟨g1, off + q * 3 + 1, none⟩) hg1).trans a1
            replace a2 := (hb.cell (p := ⟨g1, off + q * 3 + 2, none⟩) hg1).trans a2
            have hne : ¬ g = g1 := by have := (own.lt g rfl).1; omega
            have hne' : ¬ g1 = g := fun e => hne e.symm
            by_cases hlt3 : k < C
            · have hll : (lay L F p k).length = 16 := by rw [lay_length]; exact HL.out
              have t0 := own.cellAt (F + k) (by omega)
              have t1 := own.frozenAt (F + k)
              rw [List.getElem?_map, List.getElem?_eq_getElem (show F + k < (lay L F p k).length by omega)] at t0
              simp only [Option.map_some] at t0
              have hst := (own.stored (F + k) (.int .i64 (p + k))).1
              rw [← List.map_set] at hst
              have hbf : Below w.heap.size w (wr.setCell ⟨g, F + k, none⟩ (.int .i64 (p + k))) := bw_set (p := ⟨g, F + k, none⟩) hb (own.lt g rfl).1 _
              have HO : Hid _ := And.intro hst hbf
              generalize (lay L F p k)[F + k] = y at t0
              clear hst hbf own hll
              have hi0 : (0 : Int) ≤ (F : Int) + (k : Int) := by omega
              have hi1 : (F : Int) + (k : Int) < 16 := by omega
              have hw1 : IntKind.i64.wrap ((F : Int) + (k : Int)) = (F : Int) + (k : Int) := by rw [IntKind.wrap_i64]; omega
              have hw2 : IntKind.i64.wrap (p + (k : Int)) = p + (k : Int) := by rw [IntKind.wrap_i64]; omega
              have hw3 : ((F : Int) + (k : Int)).toNat = F + k := by omega
              have hj0 : (0 : Int) ≤ (q : Int) := by omega
              have hj1 : (q : Int) < (rs.length : Int) := by omega
              go_wp2_with fail
              go_region
              go_wp2_with fail
              go_roundw
              case rel => exact ⟨k + 1, by omega, by go_num, HO.out.1, bw_drew HO.out.2⟩
              case measure => simp [intOf]; omega
            · obtain rfl : k = C := by omega
              have e2 : ((rs.take (q + 1)).foldl layRun none16) = lay L F p k := by rw [HTF.out]; rfl
              rw [← e2] at own
              have HO : Hid _ := own
              clear own e2
              go_wp2_with fail
              go_roundw
              case rel => exact ⟨q + 1, by omega, by go_num, HO.out, hb⟩
              case measure => simp [intOf]; omega
        · have hfin : rs.take q = rs := List.take_of_length_le (by omega)
          rw [hfin] at own
          have HO : Hid _ := own
          clear own hfin
          go_wp2_with fail
          go_ret
          exact ⟨g, cp, rfl, HO.out, hb⟩
end Go.Proofs.Ytkjdfgjmkomcgaa

namespace Go.Proofs.Ytkjdfgjmkomcgaa
open Go.RowKit

set_option linter.unusedVariables false

set_option maxRecDepth 100000


/-- The last run ends at the size or ahead of it. -/
def endsBy (rs : List (Int × Int × Int)) (sz : Int) : Bool := match rs.getLast? with
  | none => true
  | some r => decide (r.1 + r.2.1 ≤ sz)

def bookOk (nm : ByteArray) (sz : Int) (rs : List (Int × Int × Int)) (ep : Int) : Bool :=
  Nums.nameB nm.data.toList && (decide (1 ≤ sz) && decide (sz ≤ 16)) && (decide (0 ≤ ep) && decide (ep ≤ 1000)) && mapOk rs && endsBy rs sz

theorem endsBy_at (rs : List (Int × Int × Int)) (sz : Int) (k : Nat) (h : rs.length = k + 1) : endsBy rs sz = decide ((rs[k]'(by omega)).1 + (rs[k]'(by omega)).2.1 ≤ sz) := by
  have : rs.getLast? = some (rs[k]'(by omega)) := by rw [List.getLast?_eq_getElem?, show rs.length - 1 = k by omega, List.getElem?_eq_getElem]
  rw [endsBy, this]

theorem map_in (rs : List (Int × Int × Int)) (h : mapOk rs = true) (k : Nat) (hk : k < rs.length) : 0 ≤ rs[k].1 ∧ 1 ≤ rs[k].2.1 ∧ rs[k].1 + rs[k].2.1 ≤ 16 := by
  have := okFrom_mem rs 0 none (mapOk_from h) (Int.le_refl _) rs[k] (List.getElem_mem hk)
  omega

set_option maxHeartbeats 1600000 in
theorem specBookOk_any (nm : ByteArray) (sz : Int) (m : Value) (rs : List (Int × Int × Int)) (fx : Bool) (ep : Int) (w : World) (hn : nm.size ≤ maxLen) (r : ReadsR 3 runC w.heap.size w m rs) :
    Calls Try.prog 32 #[.agg #[.string nm, .int .i64 sz, m, .bool fx, .int .i64 ep]] w fun e w' => e = .returned (.bool (bookOk nm sz rs ep)) ∧ Below w.heap.size w w' := by
  obtain ⟨o, cap, rfl⟩ := r.form
  obtain ⟨W0, hW0, k0, d0, z0⟩ := box1 w #[.string nm, .int .i64 sz, .slice o rs.length cap, .bool fx, .int .i64 ep] 39
  have r0 := (r.below d0).mono d0.size
  have HW0 : Hid (W0 = _) := hW0
  have p0 := at_cell k0 0
  have p1 := at_cell k0 1
  have p2 := at_cell k0 2
  have p4 := at_cell k0 4
  clear hW0 r
  go_enter Try.func32, Try.ntmps32
  go_wp2_with fail
  rw [← HW0.out]
  clear HW0
  refine (specName_any nm _ hn).mono ?_
  rintro e w' ⟨rfl, rfl⟩
  cases h1 : Nums.nameB nm.data.toList
  · have HV : Hid (bookOk nm sz rs ep = false) := by simp [Hid, bookOk, h1]
    clear h1 k0
    go_wp2_with fail
    go_ret
    exact ⟨ret_bool HV.out.symm, d0⟩
  have H1 : Hid _ := h1
  clear h1
  go_wp2_with fail
  refine (l1In_any sz 1 16 _).mono ?_
  rintro e w' ⟨rfl, rfl⟩
  cases h2 : (decide (1 ≤ sz) && decide (sz ≤ 16))
  · have HV : Hid (bookOk nm sz rs ep = false) := by simp [Hid, bookOk, h2]
    clear h2 k0
    go_wp2_with fail
    go_ret
    exact ⟨ret_bool HV.out.symm, d0⟩
  have H2 : Hid _ := h2
  clear h2
  go_wp2_with fail
  refine (l1In_any ep 0 1000 _).mono ?_
  rintro e w' ⟨rfl, rfl⟩
  cases h3 : (decide (0 ≤ ep) && decide (ep ≤ 1000))
  · have HV : Hid (bookOk nm sz rs ep = false) := by simp [Hid, bookOk, h3]
    clear h3 k0
    go_wp2_with fail
    go_ret
    exact ⟨ret_bool HV.out.symm, d0⟩
  have H3 : Hid _ := h3
  clear h3
  go_wp2_with fail
  refine (specMapOk_any _ rs _ r0).mono ?_
  rintro e w1 ⟨rfl, b1⟩
  replace k0 := (b1.block _ (by omega)).trans k0
  replace d0 := bw_call d0 b1
  replace r0 := (r0.below b1).mono b1.size
  clear p0 p1 p2 p4
  cases h4 : mapOk rs
  · have HV : Hid (bookOk nm sz rs ep = false) := by simp [Hid, bookOk, h4]
    clear h4 k0 r0
    go_wp2_with fail
    go_ret
    exact ⟨ret_bool HV.out.symm, d0⟩
  have p1 := at_cell k0 1
  have p2 := at_cell k0 2
  have HV : Hid (bookOk nm sz rs ep = endsBy rs sz) := by rw [Hid, bookOk, H1.out, H2.out, H3.out, h4]; rfl
  obtain ⟨o', cap', e', hm, hc, -⟩ := r0
  cases e'
  rcases Nat.eq_zero_or_pos rs.length with h0 | hpos
  · have HE : Hid (endsBy rs sz = true) := by rw [Hid, List.length_eq_zero_iff.1 h0]; rfl
    rw [h0] at p2 ⊢
    clear h4 k0 hc h0
    go_wp2_with fail
    go_quiet (fail)
    go_wp2_with fail
    go_ret
    exact ⟨ret_bool (by rw [HV.out, HE.out]), ⟨d0.os, d0.tape, d0.output, d0.size, d0.block⟩⟩
  · obtain ⟨k, hk⟩ : ∃ k, rs.length = k + 1 := ⟨rs.length - 1, by omega⟩
    have hlt : k < rs.length := by omega
    obtain ⟨g, off, rfl, hg, a0, a1, -⟩ := three_cells hc k hlt
    have HE : Hid _ := endsBy_at rs sz k hk
    have hin := map_in rs h4 k hlt
    generalize rs[k] = x at a0 a1 HE hin
    obtain ⟨f, c, p⟩ := x
    simp only at a0 a1 HE hin
    have hw1 : IntKind.i64.wrap ((k : Int) + 1 - 1) = k := by unfold maxLen at hm; rw [IntKind.wrap_i64]; omega
    have hw2 : (k : Int) + 1 - 1 = k := by omega
    have hw4 : IntKind.i64.wrap (k : Int) = k := by unfold maxLen at hm; rw [IntKind.wrap_i64]; omega
    have hw3 : IntKind.i64.wrap (f + c) = f + c := by rw [IntKind.wrap_i64]; omega
    have hi0 : (0 : Int) ≤ (k : Int) := by omega
    have hi1 : (k : Int) < (k : Int) + 1 := by omega
    have hz : ((k : Int) + 1 == 0) = false := by rw [beq_eq_false_iff_ne]; omega
    rw [hk] at p2
    clear h4 k0 hc hpos hin
    rw [hk]
    clear hk
    go_wp2_with fail
    go_quiet (fail)
    go_wp2_with fail
    go_ret
    exact ⟨ret_bool (by rw [HV.out, HE.out]), ⟨d0.os, d0.tape, d0.output, d0.size, d0.block⟩⟩
end Go.Proofs.Ytkjdfgjmkomcgaa

namespace Go.Proofs.Ytkjdfgjmkomcgaa
open Go.RowKit

set_option linter.unusedVariables false

set_option maxRecDepth 100000


/-- A book: its cells, and the runs that its map reads. -/
structure Bk where
  nm : ByteArray
  sz : Int
  m : Value
  rs : List (Int × Int × Int)
  fx : Bool
  ep : Int

def bookC (b : Bk) : List Value := [.string b.nm, .int .i64 b.sz, b.m, .bool b.fx, .int .i64 b.ep]

theorem bookC_len (b : Bk) : (bookC b).length = 5 := rfl

/-- A row of books that is read, the maps too. -/
structure ReadsB (B : Nat) (w : World) (v : Value) (bs : List Bk) : Prop where
  row : ReadsR 5 bookC B w v bs
  maps : ∀ b ∈ bs, ReadsR 3 runC B w b.m b.rs

theorem ReadsB.below {B : Nat} {w w' : World} {v : Value} {bs : List Bk} (h : ReadsB B w v bs) (k : Below B w w') : ReadsB B w' v bs := ⟨h.row.below k, fun b hb => (h.maps b hb).below k⟩

theorem ReadsB.mono {B B' : Nat} {w : World} {v : Value} {bs : List Bk} (h : ReadsB B w v bs) (k : B ≤ B') : ReadsB B' w v bs := ⟨h.row.mono k, fun b hb => (h.maps b hb).mono k⟩
end Go.Proofs.Ytkjdfgjmkomcgaa

namespace Go.Proofs.Ytkjdfgjmkomcgaa
open Go.ChangeShapes Go.WideShapes Go.ChangeAt Go.RowKit Go.Deep Go.Joins

set_option linter.unusedVariables false

set_option maxRecDepth 100000


theorem list5 {α : Type} {cs : List α} (h : cs.length = 5) : ∃ c0 c1 c2 c3 c4, cs = [c0, c1, c2, c3, c4] := by
  match cs, h with
  | [c0, c1, c2, c3, c4], _ => exact ⟨c0, c1, c2, c3, c4, rfl⟩

/-- A book's five cells, read out of whatever they lie in. -/
theorem book_cells {H : Type} {enc : TypeId × Value → H} {W : World} {n : Nat} {cs : List Value} {y : DataW H × List MemPlace} (h : DataW.trod enc Try.prog W 0 (fun _ => true) true n 127 cs = some y) :
    ∃ b : Bk, cs = bookC b ∧ ReadsR 3 runC W.heap.size W b.m b.rs ∧ FitRuns b.rs ∧ b.nm.size ≤ maxLen ∧ I64 b.sz ∧ I64 b.ep := by
  have ce : Try.prog.cellsOf 127 = 5 := by kernel_rfl
  have c1 : Try.prog.cellsOf 2 = 1 := by kernel_rfl
  have c2 : Try.prog.cellsOf 9 = 1 := by kernel_rfl
  have c3 : Try.prog.cellsOf 4 = 1 := by kernel_rfl
  have c4 : Try.prog.cellsOf 125 = 1 := by kernel_rfl
  obtain ⟨xs, m, _, -, hl, hlen, hf⟩ := DataW.trod_struct Try.underlying127 h
  obtain ⟨v0, v1, v2, v3, v4, rfl⟩ := list5 (hl.trans ce)
  obtain ⟨y0, y1, y2, y3, y4, rfl⟩ := list5 (show xs.length = 5 from hlen)
  have t0 := hf 0 _ rfl
  have t1 := hf 1 _ rfl
  have t2 := hf 2 _ rfl
  have t3 := hf 3 _ rfl
  have t4 := hf 4 _ rfl
  simp [c1, c2, c3, c4] at t0 t1 t2 t3 t4
  obtain ⟨nm, e0, _, z0⟩ := DataW.trod_string Try.underlying9 t0
  obtain ⟨sz, e1, _, z1⟩ := DataW.trod_int Try.underlying2 t1
  obtain ⟨rs, r2, f2⟩ := row_runs t2
  obtain ⟨fx, e3, _⟩ := DataW.trod_bool Try.underlying4 t3
  obtain ⟨ep, e4, _, z4⟩ := DataW.trod_int Try.underlying2 t4
  simp at e0 e1 e3 e4
  subst e0 e1 e3 e4
  exact ⟨⟨nm, sz, v2, rs, fx, ep⟩, rfl, r2, f2, z0, lit_i64 z1, lit_i64 z4⟩
end Go.Proofs.Ytkjdfgjmkomcgaa

namespace Go.Proofs.Ytkjdfgjmkomcgaa
open Go.RowKit

set_option linter.unusedVariables false

set_option maxRecDepth 100000


/-- A cell of a block is written. -/
theorem set_at {W : World} {b : Nat} {cs : Array Value} {t : TypeId} (h : W.heap[b]? = some (.cells cs t (0, 0))) (i : Nat) (x : Value) : (W.setCell ⟨b, i, none⟩ x).heap[b]? = some (.cells (cs.setIfInBounds i x) t (0, 0)) := by
  obtain ⟨hlt, hk⟩ := Array.getElem?_eq_some_iff.1 h
  show (W.heap.modify b _)[b]? = _
  rw [Array.getElem?_eq_getElem (by rw [Array.size_modify]; exact hlt), Array.getElem_modify_self, hk]
  rfl
end Go.Proofs.Ytkjdfgjmkomcgaa

namespace Go.Proofs.Ytkjdfgjmkomcgaa
open Go.RowKit

set_option linter.unusedVariables false

set_option maxRecDepth 100000


/-- A book's five cells, written. -/
theorem set_five {W : World} {b : Nat} {x0 x1 x2 x3 x4 : Value} {t : TypeId} (h : W.heap[b]? = some (.cells #[x0, x1, x2, x3, x4] t (0, 0))) (y0 y1 y2 y3 y4 : Value) :
    (((((W.setCell ⟨b, 0, none⟩ y0).setCell ⟨b, 1, none⟩ y1).setCell ⟨b, 2, none⟩ y2).setCell ⟨b, 3, none⟩ y3).setCell ⟨b, 4, none⟩ y4).heap[b]? = some (.cells #[y0, y1, y2, y3, y4] t (0, 0)) :=
  set_at (set_at (set_at (set_at (set_at h 0 y0) 1 y1) 2 y2) 3 y3) 4 y4

theorem bw_five {w W : World} {b : Nat} (h : Below w.heap.size w W) (hb : w.heap.size ≤ b) (y0 y1 y2 y3 y4 : Value) :
    Below w.heap.size w (((((W.setCell ⟨b, 0, none⟩ y0).setCell ⟨b, 1, none⟩ y1).setCell ⟨b, 2, none⟩ y2).setCell ⟨b, 3, none⟩ y3).setCell ⟨b, 4, none⟩ y4) :=
  bw_set (bw_set (bw_set (bw_set (bw_set h hb _) hb _) hb _) hb _) hb _
end Go.Proofs.Ytkjdfgjmkomcgaa

