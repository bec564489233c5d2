/-
  The laws' helpers on runs and rows of runs: copied, alike, marked, held.
-/
import Derived.Test.YtehjahegokeofakRows4
import Derived.Test.YtehjahegokeofakTexts
import Derived.Test.YtehjahegokeofakBytes
import Derived.Laws.MakeOwn
namespace Go.Proofs.Ytehjahegokeofak
open Go.RowKit
set_option linter.unusedVariables false

/-- A run's cells. -/
def runC (r : Int × Int × Int) : List Value := [.int .i64 r.1, .int .i64 r.2.1, .int .i64 r.2.2]
theorem runC_len (r : Int × Int × Int) : (runC r).length = 3 := rfl

theorem Try.infoRun : (Try.prog.info? 78).map (fun i => (i.zero, i.size, i.bytes)) = some (some (.agg #[.int .i64 0, .int .i64 0, .int .i64 0]), 3, 24) := by kernel_rfl

theorem three_cells {B : Nat} {w : World} {o : Option Addr} {rs : List (Int × Int × Int)} (hc : ∀ i x, rs[i]? = some x → ∃ g off, o = some ⟨g, off, none⟩ ∧ g < B ∧ ∀ j u, (runC x)[j]? = some u → w.cell? ⟨g, off + i * 3 + j, none⟩ = some u) (i : Nat) (hi : i < rs.length) :
    ∃ g off, o = some ⟨g, off, none⟩ ∧ g < B ∧ w.cell? ⟨g, off + i * 3, none⟩ = some (.int .i64 rs[i].1) ∧ w.cell? ⟨g, off + i * 3 + 1, none⟩ = some (.int .i64 rs[i].2.1) ∧ w.cell? ⟨g, off + i * 3 + 2, none⟩ = some (.int .i64 rs[i].2.2) := by
  obtain ⟨g, off, e, hg, hx⟩ := hc i rs[i] (List.getElem?_eq_getElem hi)
  exact ⟨g, off, e, hg, hx 0 _ rfl, hx 1 _ rfl, hx 2 _ rfl⟩

theorem szRuns_any (o : Option Addr) (n cap : Nat) (left : Int) (w : World) (h0 : 0 ≤ left) (hl : left ≤ 1048576) (hm : n ≤ maxLen) :
    Calls Try.prog 33 #[.slice o n cap, .int .i64 left] w fun e w' => e = .returned (.int .i64 (if left < n then -1 else left - n)) ∧ w' = w := by
  unfold maxLen at hm
  by_cases hbig : left < (n : Int)
  · rw [if_pos hbig]
    have h1 : left - (n : Int) < 0 := by omega
    go_enter Try.func33, Try.ntmps33
    go_wp2_with fail
    go_ret
    exact ⟨rfl, rfl⟩
  · rw [if_neg hbig]
    have h1 : 0 ≤ left - (n : Int) := by omega
    go_enter Try.func33, Try.ntmps33
    go_wp2_with fail
    go_ret
    exact ⟨rfl, rfl⟩

theorem toRun_any (f c p : Int) (w : World) :
    Calls Try.prog 44 #[.agg #[.int .i64 f, .int .i64 c, .int .i64 p]] w fun e w' => e = .returned (.agg #[.int .i64 f, .int .i64 c, .int .i64 p]) ∧ Below w.heap.size w w' := by
  go_enter Try.func44, Try.ntmps44
  go_wp2
  exact bodyPost_ret (v := .agg #[.int .i64 f, .int .i64 c, .int .i64 p]) (by simp [results, Try.results44, go_sem]) rfl ⟨rfl, by go_grown⟩

theorem eqRun_any (f c p f' c' p' : Int) (w : World) :
    Calls Try.prog 45 #[.agg #[.int .i64 f, .int .i64 c, .int .i64 p], .agg #[.int .i64 f', .int .i64 c', .int .i64 p']] w fun e w' => e = .returned (.bool (decide ((f, c, p) = (f', c', p')))) ∧ Below w.heap.size w w' := by
  by_cases e1 : f = f'
  · subst e1
    by_cases e2 : c = c'
    · subst e2
      by_cases e3 : p = p'
      · subst e3
        go_enter Try.func45, Try.ntmps45
        go_wp2
        go_ret
        exact ⟨ret_bool (by simp), bw_alloc (bw_alloc (Below.refl _ _))⟩
      · have h1 : (p == p') = false := by simpa using e3
        have h2 : (p != p') = true := by simpa using e3
        go_enter Try.func45, Try.ntmps45
        go_wp2
        go_ret
        exact ⟨ret_bool (by simp [e3]), bw_alloc (bw_alloc (Below.refl _ _))⟩
    · have h1 : (c == c') = false := by simpa using e2
      have h2 : (c != c') = true := by simpa using e2
      go_enter Try.func45, Try.ntmps45
      go_wp2
      go_ret
      exact ⟨ret_bool (by simp [e2]), bw_alloc (bw_alloc (Below.refl _ _))⟩
  · have h1 : (f == f') = false := by simpa using e1
    have h2 : (f != f') = true := by simpa using e1
    go_enter Try.func45, Try.ntmps45
    go_wp2
    go_ret
    exact ⟨ret_bool (by simp [e1]), bw_alloc (bw_alloc (Below.refl _ _))⟩

set_option maxHeartbeats 800000 in
theorem eqRuns_any (v1 v2 : Value) (xs ys : List (Int × Int × Int)) (w : World) (h1 : ReadsR 3 runC w.heap.size w v1 xs) (h2 : ReadsR 3 runC w.heap.size w v2 ys) :
    Calls Try.prog 36 #[v1, v2] w fun e w' => e = .returned (.bool (decide (xs = ys))) ∧ Below w.heap.size w w' := by
  obtain ⟨o1, cap1, rfl, m1, c1, -⟩ := h1
  obtain ⟨o2, cap2, rfl, m2, c2, -⟩ := h2
  by_cases hlen : xs.length = ys.length
  · rw [← hlen]
    have C1 : Hid _ := three_cells c1
    have C2 : Hid _ := three_cells c2
    have HL : Hid (xs.length = ys.length) := hlen
    have hle : ys.length ≤ xs.length := by omega
    have hge : xs.length ≤ ys.length := by omega
    unfold maxLen at m1
    clear c1 c2 m2 hlen
    go_enter Try.func36, Try.ntmps36
    go_wp2
    go_loopw [5] (fun i wr => ∃ k : Nat, k ≤ xs.length ∧ i = .int .i64 k ∧ xs.take k = ys.take k ∧ Below w.heap.size w wr) (fun i _ => xs.length - (intOf i).toNat)
    case atStart => exact ⟨0, Nat.zero_le _, rfl, rfl, Below.refl _ _⟩
    case round =>
      obtain ⟨k, hk, rfl, htk, hb⟩ := hrel
      have HT : Hid (xs.take k = ys.take k) := htk
      clear htk
      by_cases hlt : k < xs.length
      · have hlt2 : k < ys.length := by omega
        obtain ⟨g1, of1, rfl, q1, a0, a1, a2⟩ := C1.out k hlt
        obtain ⟨g2, of2, rfl, q2, b0, b1, b2⟩ := C2.out k hlt2
        have HE : Hid (xs[k] = ys[k] → xs.take (k + 1) = ys.take (k + 1)) := fun e => take_more xs ys k hlt hlt2 HT.out e
        have HNE : Hid (xs[k] ≠ ys[k] → ¬ xs = ys) := fun e => ne_at xs ys k hlt hlt2 e
        generalize xs[k] = x at a0 a1 a2 HE HNE
        generalize ys[k] = y at b0 b1 b2 HE HNE
        obtain ⟨f, c, p⟩ := x
        obtain ⟨f', c', p'⟩ := y
        simp only at a0 a1 a2 b0 b1 b2
        have hne := BelowOf.any wr
        have l1 : g1 < wr.heap.size := Nat.lt_of_lt_of_le q1 hb.size
        have l2 : g2 < wr.heap.size := Nat.lt_of_lt_of_le q2 hb.size
        have d0 := BelowOf.cell ((hb.cell (p := ⟨g1, of1 + k * 3, none⟩) q1).trans a0) l1
        have d1 := BelowOf.cell ((hb.cell (p := ⟨g1, of1 + k * 3 + 1, none⟩) q1).trans a1) l1
        have d2 := BelowOf.cell ((hb.cell (p := ⟨g1, of1 + k * 3 + 2, none⟩) q1).trans a2) l1
        have f0 := BelowOf.cell ((hb.cell (p := ⟨g2, of2 + k * 3, none⟩) q2).trans b0) l2
        have f1 := BelowOf.cell ((hb.cell (p := ⟨g2, of2 + k * 3 + 1, none⟩) q2).trans b1) l2
        have f2 := BelowOf.cell ((hb.cell (p := ⟨g2, of2 + k * 3 + 2, none⟩) q2).trans b2) l2
        have g1' : (0 : Int) ≤ (k : Int) := by omega
        have g2' : (k : Int) < (xs.length : Int) := by omega
        clear a0 a1 a2 b0 b1 b2 C1 C2
        obtain ⟨dd, hdd⟩ : ∃ dd, decide ((f, c, p) = (f', c', p')) = dd := ⟨_, rfl⟩
        have HD : Hid _ := hdd
        have HEQ : ∀ q : BelowOf wr, Calls Try.prog 45 #[.agg #[.int .i64 f, .int .i64 c, .int .i64 p], .agg #[.int .i64 f', .int .i64 c', .int .i64 p']] q.w' fun e w' => e = .returned (.bool dd) ∧ Below q.w'.heap.size q.w' w' := fun q => by have h := eqRun_any f c p f' c' p' q.w'; rwa [hdd] at h
        clear hdd
        go_wp2_with fail
        refine wp_region_of (by kernel_rfl) (by kernel_rfl) ?_
        repeat (go_big_quiet_step ((first | (go_at_call 45; exact calls_of (HEQ _)) | rfl)))
        refine wpQuiet_nil ?_
        intro w5 hw5
        obtain ⟨⟨wx, cx⟩, hwx⟩ := hw5
        have b5 : Below wr.heap.size wr w5 := by rw [hwx]; exact cx
        have hb5 := hb.trans (b5.mono hb.size)
        clear hwx cx wx hne d0 d1 d2 f0 f1 f2 HEQ
        cases dd
        · go_wp2_with fail
          go_ret
          exact ⟨ret_bool (decide_eq_false (HNE.out (of_decide_eq_false HD.out))).symm, hb5⟩
        · have HT2 : Hid _ := HE.out (of_decide_eq_true HD.out)
          go_wp2_with fail
          go_roundw
          case rel => exact ⟨k + 1, by omega, by go_num, HT2.out, hb5⟩
          case measure => simp [intOf]; omega
      · go_wp2
        go_ret
        exact ⟨ret_bool (by simp [all_taken xs ys k hlt HL.out HT.out]), hb⟩
  · have hn : ((xs.length : Int) != (ys.length : Int)) = true := by rw [bne_iff_ne]; omega
    have HX : Hid (decide (xs = ys) = false) := by rw [Hid, decide_eq_false_iff_not]; intro e; rw [e] at hlen; exact hlen rfl
    unfold maxLen at m1 m2
    clear hlen c1 c2
    go_enter Try.func36, Try.ntmps36
    go_wp2
    go_ret
    exact ⟨ret_bool HX.out.symm, Below.refl _ _⟩

/-- make([]impl.Run, n): a row of zero runs, at the end of memory. -/
theorem made_runs (n : Nat) (hn : n ≤ 1048576) : ∃ M : Array Value, (∀ W : World, (Instr.makeSlice 52 (.int .i64 (n : Int)) (.int .i64 (n : Int))).run Try.prog W = .ok (.slice (some ⟨W.heap.size, 0, none⟩) n n) (W.alloc (.cells M 78))) ∧
    ∀ (W : World) (base : Nat), base ≤ W.heap.size → (W.alloc (.cells M 78)).ownsRow base 78 3 (.slice (some ⟨W.heap.size, 0, none⟩) n n) (List.replicate n ((0 : Int), (0 : Int), (0 : Int))).length ((List.replicate n ((0 : Int), (0 : Int), (0 : Int))).flatMap runC) := by
  obtain ⟨i0, hi, hz0, hz1, hz2⟩ := info_parts Try.infoRun
  have e := toList_made (cs := runC) runC_len (by omega) ((0 : Int), (0 : Int), (0 : Int)) (Value.agg #[.int .i64 0, .int .i64 0, .int .i64 0]).cells rfl n
  refine ⟨madeCells (Value.agg #[.int .i64 0, .int .i64 0, .int .i64 0]).cells (n * 3), fun W => ?_, fun W base hb => ?_⟩
  · have h := run_make (P := Try.prog) W 52 78 i0 (.agg #[.int .i64 0, .int .i64 0, .int .i64 0]) Try.underlying52 hi hz0 .i64 .i64 (n : Int) (n : Int) (by omega) (by omega) (by rw [hz2]; omega) (by omega)
    rw [hz1, Int.toNat_natCast] at h
    simpa using h
  · have h := World.ownsRow_lit (base := base) (size := 3) (e := 78) W (madeCells (Value.agg #[.int .i64 0, .int .i64 0, .int .i64 0]).cells (n * 3)) n hb (by unfold maxLen; omega) (by rw [size_madeCells])
    rw [e] at h
    rwa [List.length_replicate]

/-- A whole run is written. -/
theorem own_run {w : World} {base g n cap : Nat} {xs : List (Int × Int × Int)} (h : w.ownsRow base 78 3 (.slice (some ⟨g, 0, none⟩) n cap) xs.length (xs.flatMap runC)) (i : Nat) (hi : i < xs.length) (f c p : Int) :
    (((w.setCell ⟨g, i * 3, none⟩ (.int .i64 f)).setCell ⟨g, i * 3 + 1, none⟩ (.int .i64 c)).setCell ⟨g, i * 3 + 2, none⟩ (.int .i64 p)).ownsRow base 78 3 (.slice (some ⟨g, 0, none⟩) n cap) (xs.set i (f, c, p)).length ((xs.set i (f, c, p)).flatMap runC) := by
  have h1 := own_put runC_len h i 0 xs[i] (f, xs[i].2.1, xs[i].2.2) (.int .i64 f) (List.getElem?_eq_getElem hi) (by omega) rfl
  have h2 := own_put runC_len h1 i 1 (f, xs[i].2.1, xs[i].2.2) (f, c, xs[i].2.2) (.int .i64 c) (by simp [hi]) (by omega) rfl
  have h3 := own_put runC_len h2 i 2 (f, c, xs[i].2.2) (f, c, p) (.int .i64 p) (by simp [hi]) (by omega) rfl
  rw [List.set_set, List.set_set] at h3
  exact h3
/-- A run's three cells, in a row of one's own. -/
theorem own_three {w : World} {base g n cap : Nat} {xs : List (Int × Int × Int)} (h : w.ownsRow base 78 3 (.slice (some ⟨g, 0, none⟩) n cap) xs.length (xs.flatMap runC)) (i : Nat) (hi : i < xs.length) :
    (w.cell? ⟨g, i * 3, none⟩ = some (.int .i64 xs[i].1) ∧ w.cell? ⟨g, i * 3 + 1, none⟩ = some (.int .i64 xs[i].2.1) ∧ w.cell? ⟨g, i * 3 + 2, none⟩ = some (.int .i64 xs[i].2.2)) ∧ w.frozen? ⟨g, i * 3, none⟩ = false ∧ w.frozen? ⟨g, i * 3 + 1, none⟩ = false ∧ w.frozen? ⟨g, i * 3 + 2, none⟩ = false := by
  obtain ⟨a0, b0⟩ := own_cell runC_len h i 0 _ (List.getElem?_eq_getElem hi) (by omega)
  obtain ⟨a1, b1⟩ := own_cell runC_len h i 1 _ (List.getElem?_eq_getElem hi) (by omega)
  obtain ⟨a2, b2⟩ := own_cell runC_len h i 2 _ (List.getElem?_eq_getElem hi) (by omega)
  exact ⟨⟨a0, a1, a2⟩, b0, b1, b2⟩
theorem set_step {α : Type} (ps zs : List α) (j : Nat) (hj : j < ps.length) (hz : zs.length = ps.length) : (ps.take j ++ zs.drop j).set j ps[j] = ps.take (j + 1) ++ zs.drop (j + 1) := by
  have hl : (ps.take j).length = j := by simp; omega
  rw [List.set_append_right _ _ (by omega), hl, Nat.sub_self, List.drop_eq_getElem_cons (show j < zs.length by omega), List.set_cons_zero, List.take_succ_eq_append_getElem hj, List.append_assoc]
  rfl

set_option maxHeartbeats 1600000 in
theorem toRuns_any (v : Value) (ps : List (Int × Int × Int)) (w : World) (hn : ps.length ≤ 1048576) (hp : ReadsR 3 runC w.heap.size w v ps) :
    Calls Try.prog 34 #[v] w fun e w' => e = .returned (.slice (some ⟨w.heap.size, 0, none⟩) ps.length ps.length) ∧ w'.ownsRow w.heap.size 78 3 (.slice (some ⟨w.heap.size, 0, none⟩) ps.length ps.length) ps.length (ps.flatMap runC) ∧ Below w.heap.size w w' := by
  obtain ⟨o, cap, rfl, hm, hcells, -⟩ := hp
  have HC : Hid _ := three_cells hcells
  obtain ⟨M, hmk, hown⟩ := made_runs ps.length hn
  have own0 := hown w w.heap.size (Nat.le_refl _)
  have bd0 : Below w.heap.size w (w.alloc (.cells M 78)) := bw_alloc (Below.refl _ _)
  clear hown hcells hm
  go_enter Try.func34, Try.ntmps34
  go_wp2_with fail
  generalize w.alloc (.cells M 78) = W0 at own0 bd0 ⊢
  generalize hzs : List.replicate ps.length ((0 : Int), (0 : Int), (0 : Int)) = zs at own0
  have hzl : zs.length = ps.length := by rw [← hzs]; simp
  clear hmk hzs
  go_loopw [4] (fun i wr => ∃ j : Nat, j ≤ ps.length ∧ i = .int .i64 j ∧ wr.ownsRow w.heap.size 78 3 (.slice (some ⟨w.heap.size, 0, none⟩) ps.length ps.length) (ps.take j ++ zs.drop j).length ((ps.take j ++ zs.drop j).flatMap runC) ∧ Below w.heap.size w wr ∧ w.heap.size < wr.heap.size) (fun i _ => ps.length - (intOf i).toNat)
  case atStart => exact ⟨0, Nat.zero_le _, rfl, by simpa using own0, bd0, (own0.lt _ rfl).2⟩
  case round =>
    obtain ⟨j, hj, rfl, own, hb, hsz⟩ := hrel
    by_cases hlt : j < ps.length
    · obtain ⟨g, off, rfl, hg, a0, a1, a2⟩ := HC.out j hlt
      replace a0 := (hb.cell (p := ⟨g, off + j * 3, none⟩) hg).trans a0
      replace a1 := (hb.cell (p := ⟨g, off + j * 3 + 1, none⟩) hg).trans a1
      replace a2 := (hb.cell (p := ⟨g, off + j * 3 + 2, none⟩) hg).trans a2
      have hl2 : (ps.take j ++ zs.drop j).length = ps.length := by simp; omega
      have hjl : j < (ps.take j ++ zs.drop j).length := by omega
      have HST := fun (W : World) (hW : W.ownsRow w.heap.size 78 3 (.slice (some ⟨w.heap.size, 0, none⟩) ps.length ps.length) (ps.take j ++ zs.drop j).length ((ps.take j ++ zs.drop j).flatMap runC)) => own_run hW j hjl ps[j].1 ps[j].2.1 ps[j].2.2
      have hss := set_step ps zs j hlt hzl
      rw [show (ps[j].1, ps[j].2.1, ps[j].2.2) = ps[j] from rfl, hss] at HST
      have HST2 : Hid _ := HST
      have hcc := fun (W : World) (hW : W.ownsRow w.heap.size 78 3 (.slice (some ⟨w.heap.size, 0, none⟩) ps.length ps.length) (ps.take j ++ zs.drop j).length ((ps.take j ++ zs.drop j).flatMap runC)) => own_three hW j hjl
      have HCC : Hid _ := hcc
      clear HST hss hcc hl2
      generalize ps[j] = x at a0 a1 a2 HST2
      obtain ⟨f, c, p⟩ := x
      simp only at a0 a1 a2
      go_wp2_with fail
      refine (toRun_any f c p _).mono ?_
      rintro e w5 ⟨rfl, b5⟩
      have own5 := owns_below own b5
      have HO5 : Hid _ := HST2.out w5 own5
      obtain ⟨⟨t0, t1, t2⟩, u0, u1, u2⟩ := HCC.out w5 own5
      have hb5 := hb.trans (b5.mono hb.size)
      have hbf : Below w.heap.size w (((w5.setCell ⟨w.heap.size, j * 3, none⟩ (.int .i64 f)).setCell ⟨w.heap.size, j * 3 + 1, none⟩ (.int .i64 c)).setCell ⟨w.heap.size, j * 3 + 2, none⟩ (.int .i64 p)) := bw_set (bw_set (bw_set hb5 (Nat.le_refl _) _) (Nat.le_refl _) _) (Nat.le_refl _) _
      have hs5 : w.heap.size < w5.heap.size := Nat.lt_of_lt_of_le hsz b5.size
      have HBF : Hid _ := And.intro hbf hs5
      clear hbf own own5 b5 hb hb5 HCC HST2
      generalize (ps.take j ++ zs.drop j)[j] = y at t0 t1 t2
      go_wp2_with fail
      go_roundw
      case rel => exact ⟨j + 1, by omega, by go_num, HO5.out, HBF.out.1, by simpa [World.size_setCell] using HBF.out.2⟩
      case measure => simp [intOf]; omega
    · obtain rfl : j = ps.length := by omega
      rw [List.take_length, List.drop_of_length_le (by omega), List.append_nil] at own
      go_wp2_with fail
      go_ret
      exact ⟨rfl, own, hb⟩

def marksR (k : Int) (n : Nat) : List (Int × Int × Int) := (List.range n).map fun i : Nat => (k + 3 * (i : Int), k + 3 * (i : Int) + 1, k + 3 * (i : Int) + 1 + 1)
theorem marksR_length (k : Int) (n : Nat) : (marksR k n).length = n := by simp [marksR]
theorem marksR_get (k : Int) (n j : Nat) (h : j < (marksR k n).length) : (marksR k n)[j] = (k + 3 * (j : Int), k + 3 * (j : Int) + 1, k + 3 * (j : Int) + 1 + 1) := by simp [marksR]
theorem marksR_set (k : Int) (xs : List (Int × Int × Int)) (j : Nat) (h : j < xs.length) : (marksR k j ++ xs.drop j).set j (k + 3 * (j : Int), k + 3 * (j : Int) + 1, k + 3 * (j : Int) + 1 + 1) = marksR k (j + 1) ++ xs.drop (j + 1) := by
  have hl : (marksR k j).length = j := marksR_length k j
  have hs : marksR k (j + 1) = marksR k j ++ [(k + 3 * (j : Int), k + 3 * (j : Int) + 1, k + 3 * (j : Int) + 1 + 1)] := by simp [marksR, List.range_succ]
  rw [List.set_append_right _ _ (by omega), hl, Nat.sub_self, List.drop_eq_getElem_cons h, List.set_cons_zero, hs]
  exact (List.append_assoc _ [_] _).symm

end Go.Proofs.Ytehjahegokeofak
