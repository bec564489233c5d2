/-
  Contracts and plain laws, one chapter behind the other.
-/
import Derived.Test.YtpmoefagpglddaaChecked
import Derived.WalkKit
import Derived.WalkSpells
import Derived.Laws.Bits128
import Derived.IntWalk
import Derived.Handy
import Derived.Laws.IdiomStrings
import Derived.Deep.RegionHeld3
import Derived.Laws.MakeOwn
import Derived.Test.YtpmoefagpglddaaM01
namespace Go.Proofs.Ytpmoefagpglddaa
open Go.RowKit

set_option linter.unusedVariables false

set_option maxRecDepth 100000


theorem ret_bool {a b : Bool} (h : a = b) : Ending.returned (.bool a) = .returned (.bool b) := by rw [h]

theorem ret_int {k : IntKind} {a b : Int} (h : a = b) : Ending.returned (.int k a) = .returned (.int k b) := by rw [h]

theorem l1In_any (x lo hi : Int) (w : World) :
    Calls Try.prog 39 #[.int .i64 x, .int .i64 lo, .int .i64 hi] w fun e w' => e = .returned (.bool (decide (lo ≤ x) && decide (x ≤ hi))) ∧ w' = w := by
  by_cases h : lo ≤ x
  · by_cases h2 : x ≤ hi
    all_goals
      go_enter Try.func39, Try.ntmps39
      go_wp2
      go_ret
      exact ⟨by simp [h, h2], rfl⟩
  · go_enter Try.func39, Try.ntmps39
    go_wp2
    go_ret
    exact ⟨ret_bool (by simp; omega), rfl⟩
end Go.Proofs.Ytpmoefagpglddaa

namespace Go.Proofs.Ytpmoefagpglddaa
open Go.RowKit

set_option linter.unusedVariables false

set_option maxRecDepth 100000

theorem take_more {α : Type} (xs ys : List α) (k : Nat) (h1 : k < xs.length) (h2 : k < ys.length) (h : xs.take k = ys.take k) (e : xs[k] = ys[k]) : xs.take (k + 1) = ys.take (k + 1) := by
  rw [List.take_succ_eq_append_getElem h1, List.take_succ_eq_append_getElem h2, h, e]

theorem ne_at {α : Type} (xs ys : List α) (k : Nat) (h1 : k < xs.length) (h2 : k < ys.length) (e : xs[k] ≠ ys[k]) : ¬ xs = ys := by
  intro h; subst h; exact e rfl

theorem all_taken {α : Type} (xs ys : List α) (k : Nat) (h1 : ¬ k < xs.length) (h2 : xs.length = ys.length) (h : xs.take k = ys.take k) : xs = ys := by
  rw [List.take_of_length_le (by omega), List.take_of_length_le (by omega)] at h; exact h
end Go.Proofs.Ytpmoefagpglddaa

namespace Go.Proofs.Ytpmoefagpglddaa
open Go.RowKit

set_option linter.unusedVariables false

set_option maxRecDepth 100000


/-- A cell of a block is written. -/
theorem set_at {W : World} {b : Nat} {cs : Array Value} {t : TypeId} (h : W.heap[b]? = some (.cells cs t (0, 0))) (i : Nat) (x : Value) : (W.setCell ⟨b, i, none⟩ x).heap[b]? = some (.cells (cs.setIfInBounds i x) t (0, 0)) := by
  obtain ⟨hlt, hk⟩ := Array.getElem?_eq_some_iff.1 h
  show (W.heap.modify b _)[b]? = _
  rw [Array.getElem?_eq_getElem (by rw [Array.size_modify]; exact hlt), Array.getElem_modify_self, hk]
  rfl
end Go.Proofs.Ytpmoefagpglddaa

namespace Go.Proofs.Ytpmoefagpglddaa
set_option linter.unusedVariables false

set_option maxRecDepth 100000


/-- A number of 64 bits; runs of such. -/
def I64 (x : Int) : Prop := -9223372036854775808 ≤ x ∧ x ≤ 9223372036854775807
end Go.Proofs.Ytpmoefagpglddaa

namespace Go.Proofs.Ytpmoefagpglddaa
open Go.ChangeShapes Go.WideShapes Go.ChangeAt Go.RowKit Go.Joins

set_option linter.unusedVariables false

set_option maxRecDepth 100000


theorem lit_i64o {a : Int} (h : (Lit.int .i64 a).wf = true) : I64 a := by simpa [I64, Lit.wf, IntKind.min, IntKind.max, IntKind.signed, IntKind.bits] using h
end Go.Proofs.Ytpmoefagpglddaa

namespace Go.Proofs.Ytpmoefagpglddaa
open Go.ChangeShapes Go.WideShapes Go.ChangeAt Go.RowKit Go.Joins

set_option linter.unusedVariables false

set_option maxRecDepth 100000


theorem list2r {α : Type} {cs : List α} (h : cs.length = 2) : ∃ c0 c1, cs = [c0, c1] := by
  match cs, h with
  | [c0, c1], _ => exact ⟨c0, c1, rfl⟩

theorem open_reply {H : Type} {enc : TypeId × Value → H} {W : World} {base : Nat} {v : Value} {d : DataW H} {p : List MemPlace} (hv : Value.okWide Try.prog W .any base 49 v) (h : DataW.Trod enc Try.prog W 0 (fun _ => true) true 49 v d p) :
    ∃ (c x : Int), v = .agg #[.int .i64 c, .int .i64 x] ∧ I64 c ∧ I64 x := by
  obtain ⟨cs, rfl, hsz⟩ := okWide_struct Try.underlying49 hv
  obtain ⟨fuel, hf⟩ := h
  have ce : Try.prog.cellsOf 49 = 2 := by kernel_rfl
  have c1 : Try.prog.cellsOf 2 = 1 := by kernel_rfl
  obtain ⟨xs, m, _, -, hl, hlen, hf⟩ := DataW.trod_struct Try.underlying49 hf
  have el : (Value.agg cs).cells.toList = cs.toList := by simp [Value.cells]
  rw [el] at hl hf
  obtain ⟨v0, v1, hc⟩ := list2r (hl.trans ce)
  rw [hc] at hf
  obtain ⟨y0, y1, rfl⟩ := list2r (show xs.length = 2 from hlen)
  have t0 := hf 0 _ rfl
  have t1 := hf 1 _ rfl
  simp [c1] at t0 t1
  obtain ⟨k, e0, _, z0⟩ := DataW.trod_int Try.underlying2 t0
  obtain ⟨x, e1, _, z1⟩ := DataW.trod_int Try.underlying2 t1
  simp at e0 e1
  subst e0 e1
  refine ⟨k, x, ?_, lit_i64o z0, lit_i64o z1⟩
  rw [show cs = [Value.int .i64 k, .int .i64 x].toArray by rw [← hc]]

theorem toReply_any (c v : Int) (w : World) :
    Calls Try.prog 25 #[.agg #[.int .i64 c, .int .i64 v]] w fun e w' => e = .returned (.agg #[.int .i64 c, .int .i64 v]) ∧ Below w.heap.size w w' := by
  go_enter Try.func25, Try.ntmps25
  go_wp2_with fail
  exact bodyPost_ret (v := .agg #[.int .i64 c, .int .i64 v]) (by simp [results, Try.results25, go_sem]) rfl ⟨rfl, by go_grown⟩
end Go.Proofs.Ytpmoefagpglddaa

namespace Go.Proofs.Ytpmoefagpglddaa
open Go.RowKit

set_option linter.unusedVariables false

set_option maxRecDepth 100000


/-- A reply's cells. -/
def repC (r : Int × Int) : List Value := [.int .i64 r.1, .int .i64 r.2]

theorem repC_len (r : Int × Int) : (repC r).length = 2 := rfl

theorem Try.infoRep : (Try.prog.info? 29).map (fun i => (i.zero, i.size, i.bytes)) = some (some (.agg #[.int .i64 0, .int .i64 0]), 2, 16) := by kernel_rfl

theorem two_cells {B : Nat} {w : World} {o : Option Addr} {rs : List (Int × Int)} (hc : ∀ i x, rs[i]? = some x → ∃ g off, o = some ⟨g, off, none⟩ ∧ g < B ∧ ∀ j u, (repC x)[j]? = some u → w.cell? ⟨g, off + i * 2 + j, none⟩ = some u) (i : Nat) (hi : i < rs.length) :
    ∃ g off, o = some ⟨g, off, none⟩ ∧ g < B ∧ w.cell? ⟨g, off + i * 2, none⟩ = some (.int .i64 rs[i].1) ∧ w.cell? ⟨g, off + i * 2 + 1, none⟩ = some (.int .i64 rs[i].2) := by
  obtain ⟨g, off, e, hg, hx⟩ := hc i rs[i] (List.getElem?_eq_getElem hi)
  exact ⟨g, off, e, hg, hx 0 _ rfl, hx 1 _ rfl⟩

theorem szReps_any (o : Option Addr) (n cap : Nat) (left : Int) (w : World) (h0 : 0 ≤ left) (hl : left ≤ 1048576) (hm : n ≤ maxLen) :
    Calls Try.prog 42 #[.slice o n cap, .int .i64 left] w fun e w' => e = .returned (.int .i64 (if left < n then -1 else left - n)) ∧ w' = w := by
  unfold maxLen at hm
  by_cases hbig : left < (n : Int)
  · rw [if_pos hbig]
    have h1 : left - (n : Int) < 0 := by omega
    go_enter Try.func42, Try.ntmps42
    go_wp2_with fail
    go_ret
    exact ⟨rfl, rfl⟩
  · rw [if_neg hbig]
    have h1 : 0 ≤ left - (n : Int) := by omega
    go_enter Try.func42, Try.ntmps42
    go_wp2_with fail
    go_ret
    exact ⟨rfl, rfl⟩

theorem eqReply_any (f c f' c' : Int) (w : World) :
    Calls Try.prog 61 #[.agg #[.int .i64 f, .int .i64 c], .agg #[.int .i64 f', .int .i64 c']] w fun e w' => e = .returned (.bool (decide ((f, c) = (f', c')))) ∧ Below w.heap.size w w' := by
  by_cases e1 : f = f'
  · subst e1
    by_cases e2 : c = c'
    · subst e2
      go_enter Try.func61, Try.ntmps61
      go_wp2
      go_ret
      exact ⟨ret_bool (by simp), bw_alloc (bw_alloc (Below.refl _ _))⟩
    · have h1 : (c == c') = false := by simpa using e2
      have h2 : (c != c') = true := by simpa using e2
      go_enter Try.func61, Try.ntmps61
      go_wp2
      go_ret
      exact ⟨ret_bool (by simp [e2]), bw_alloc (bw_alloc (Below.refl _ _))⟩
  · have h1 : (f == f') = false := by simpa using e1
    have h2 : (f != f') = true := by simpa using e1
    go_enter Try.func61, Try.ntmps61
    go_wp2
    go_ret
    exact ⟨ret_bool (by simp [e1]), bw_alloc (bw_alloc (Below.refl _ _))⟩

set_option maxHeartbeats 800000 in
theorem eqReps_any (v1 v2 : Value) (xs ys : List (Int × Int)) (w : World) (h1 : ReadsR 2 repC w.heap.size w v1 xs) (h2 : ReadsR 2 repC w.heap.size w v2 ys) :
    Calls Try.prog 46 #[v1, v2] w fun e w' => e = .returned (.bool (decide (xs = ys))) ∧ Below w.heap.size w w' := by
  obtain ⟨o1, cap1, rfl, m1, c1, -⟩ := h1
  obtain ⟨o2, cap2, rfl, m2, c2, -⟩ := h2
  by_cases hlen : xs.length = ys.length
  · rw [← hlen]
    have C1 : Hid _ := two_cells c1
    have C2 : Hid _ := two_cells c2
    have HL : Hid (xs.length = ys.length) := hlen
    have hle : ys.length ≤ xs.length := by omega
    have hge : xs.length ≤ ys.length := by omega
    unfold maxLen at m1
    clear c1 c2 m2 hlen
    go_enter Try.func46, Try.ntmps46
    go_wp2
    go_loopw [5] (fun i wr => ∃ k : Nat, k ≤ xs.length ∧ i = .int .i64 k ∧ xs.take k = ys.take k ∧ Below w.heap.size w wr) (fun i _ => xs.length - (intOf i).toNat)
    case atStart => exact ⟨0, Nat.zero_le _, rfl, rfl, Below.refl _ _⟩
    case round =>
      obtain ⟨k, hk, rfl, htk, hb⟩ := hrel
      have HT : Hid (xs.take k = ys.take k) := htk
      clear htk
      by_cases hlt : k < xs.length
      · have hlt2 : k < ys.length := by omega
        obtain ⟨g1, of1, rfl, q1, a0, a1⟩ := C1.out k hlt
        obtain ⟨g2, of2, rfl, q2, b0, b1⟩ := C2.out k hlt2
        have HE : Hid (xs[k] = ys[k] → xs.take (k + 1) = ys.take (k + 1)) := fun e => take_more xs ys k hlt hlt2 HT.out e
        have HNE : Hid (xs[k] ≠ ys[k] → ¬ xs = ys) := fun e => ne_at xs ys k hlt hlt2 e
        generalize xs[k] = x at a0 a1 HE HNE
        generalize ys[k] = y at b0 b1 HE HNE
        obtain ⟨f, c⟩ := x
        obtain ⟨f', c'⟩ := y
        simp only at a0 a1 b0 b1
        have hne := BelowOf.any wr
        have l1 : g1 < wr.heap.size := Nat.lt_of_lt_of_le q1 hb.size
        have l2 : g2 < wr.heap.size := Nat.lt_of_lt_of_le q2 hb.size
        have d0 := BelowOf.cell ((hb.cell (p := ⟨g1, of1 + k * 2, none⟩) q1).trans a0) l1
        have d1 := BelowOf.cell ((hb.cell (p := ⟨g1, of1 + k * 2 + 1, none⟩) q1).trans a1) l1
        have f0 := BelowOf.cell ((hb.cell (p := ⟨g2, of2 + k * 2, none⟩) q2).trans b0) l2
        have f1 := BelowOf.cell ((hb.cell (p := ⟨g2, of2 + k * 2 + 1, none⟩) q2).trans b1) l2
        have g1' : (0 : Int) ≤ (k : Int) := by omega
        have g2' : (k : Int) < (xs.length : Int) := by omega
        clear a0 a1 b0 b1 C1 C2
        obtain ⟨dd, hdd⟩ : ∃ dd, decide ((f, c) = (f', c')) = dd := ⟨_, rfl⟩
        have HD : Hid _ := hdd
        have HEQ : ∀ q : BelowOf wr, Calls Try.prog 61 #[.agg #[.int .i64 f, .int .i64 c], .agg #[.int .i64 f', .int .i64 c']] q.w' fun e w' => e = .returned (.bool dd) ∧ Below q.w'.heap.size q.w' w' := fun q => by have h := eqReply_any f c f' c' q.w'; rwa [hdd] at h
        clear hdd
        go_wp2_with fail
        refine wp_region_of (by kernel_rfl) (by kernel_rfl) ?_
        repeat (go_big_quiet_step ((first | (go_at_call 61; exact calls_of (HEQ _)) | rfl)))
        refine wpQuiet_nil ?_
        intro w5 hw5
        obtain ⟨⟨wx, cx⟩, hwx⟩ := hw5
        have b5 : Below wr.heap.size wr w5 := by rw [hwx]; exact cx
        have hb5 := hb.trans (b5.mono hb.size)
        clear hwx cx wx hne d0 d1 f0 f1 HEQ
        cases dd
        · go_wp2_with fail
          go_ret
          exact ⟨ret_bool (decide_eq_false (HNE.out (of_decide_eq_false HD.out))).symm, hb5⟩
        · have HT2 : Hid _ := HE.out (of_decide_eq_true HD.out)
          go_wp2_with fail
          go_roundw
          case rel => exact ⟨k + 1, by omega, by go_num, HT2.out, hb5⟩
          case measure => simp [intOf]; omega
      · go_wp2
        go_ret
        exact ⟨ret_bool (by simp [all_taken xs ys k hlt HL.out HT.out]), hb⟩
  · have hn : ((xs.length : Int) != (ys.length : Int)) = true := by rw [bne_iff_ne]; omega
    have HX : Hid (decide (xs = ys) = false) := by rw [Hid, decide_eq_false_iff_not]; intro e; rw [e] at hlen; exact hlen rfl
    unfold maxLen at m1 m2
    clear hlen c1 c2
    go_enter Try.func46, Try.ntmps46
    go_wp2
    go_ret
    exact ⟨ret_bool HX.out.symm, Below.refl _ _⟩

/-- make([]impl.Reply, n): a row of zero runs, at the end of memory. -/
theorem made_reps (n : Nat) (hn : n ≤ 1048576) : ∃ M : Array Value, (∀ W : World, (Instr.makeSlice 25 (.int .i64 (n : Int)) (.int .i64 (n : Int))).run Try.prog W = .ok (.slice (some ⟨W.heap.size, 0, none⟩) n n) (W.alloc (.cells M 29))) ∧
    ∀ (W : World) (base : Nat), base ≤ W.heap.size → (W.alloc (.cells M 29)).ownsRow base 29 2 (.slice (some ⟨W.heap.size, 0, none⟩) n n) (List.replicate n ((0 : Int), (0 : Int))).length ((List.replicate n ((0 : Int), (0 : Int))).flatMap repC) := by
  obtain ⟨i0, hi, hz0, hz1, hz2⟩ := info_parts Try.infoRep
  have e := toList_made (cs := repC) repC_len (by omega) ((0 : Int), (0 : Int)) (Value.agg #[.int .i64 0, .int .i64 0]).cells rfl n
  refine ⟨madeCells (Value.agg #[.int .i64 0, .int .i64 0]).cells (n * 2), fun W => ?_, fun W base hb => ?_⟩
  · have h := run_make (P := Try.prog) W 25 29 i0 (.agg #[.int .i64 0, .int .i64 0]) Try.underlying25 hi hz0 .i64 .i64 (n : Int) (n : Int) (by omega) (by omega) (by rw [hz2]; omega) (by omega)
    rw [hz1, Int.toNat_natCast] at h
    simpa using h
  · have h := World.ownsRow_lit (base := base) (size := 2) (e := 29) W (madeCells (Value.agg #[.int .i64 0, .int .i64 0]).cells (n * 2)) n hb (by unfold maxLen; omega) (by rw [size_madeCells])
    rw [e] at h
    rwa [List.length_replicate]

/-- A whole reply is written. -/
theorem own_rep {w : World} {base g n cap : Nat} {xs : List (Int × Int)} (h : w.ownsRow base 29 2 (.slice (some ⟨g, 0, none⟩) n cap) xs.length (xs.flatMap repC)) (i : Nat) (hi : i < xs.length) (f c : Int) :
    ((w.setCell ⟨g, i * 2, none⟩ (.int .i64 f)).setCell ⟨g, i * 2 + 1, none⟩ (.int .i64 c)).ownsRow base 29 2 (.slice (some ⟨g, 0, none⟩) n cap) (xs.set i (f, c)).length ((xs.set i (f, c)).flatMap repC) := by
  have h1 := own_put repC_len h i 0 xs[i] (f, xs[i].2) (.int .i64 f) (List.getElem?_eq_getElem hi) (by omega) rfl
  have h2 := own_put repC_len h1 i 1 (f, xs[i].2) (f, c) (.int .i64 c) (by simp [hi]) (by omega) rfl
  rw [List.set_set] at h2
  exact h2

/-- A reply's two cells, in a row of one's own. -/
theorem own_two {w : World} {base g n cap : Nat} {xs : List (Int × Int)} (h : w.ownsRow base 29 2 (.slice (some ⟨g, 0, none⟩) n cap) xs.length (xs.flatMap repC)) (i : Nat) (hi : i < xs.length) :
    (w.cell? ⟨g, i * 2, none⟩ = some (.int .i64 xs[i].1) ∧ w.cell? ⟨g, i * 2 + 1, none⟩ = some (.int .i64 xs[i].2)) ∧ w.frozen? ⟨g, i * 2, none⟩ = false ∧ w.frozen? ⟨g, i * 2 + 1, none⟩ = false := by
  obtain ⟨a0, b0⟩ := own_cell repC_len h i 0 _ (List.getElem?_eq_getElem hi) (by omega)
  obtain ⟨a1, b1⟩ := own_cell repC_len h i 1 _ (List.getElem?_eq_getElem hi) (by omega)
  exact ⟨⟨a0, a1⟩, b0, b1⟩

theorem set_stepP {α : Type} (ps zs : List α) (j : Nat) (hj : j < ps.length) (hz : zs.length = ps.length) : (ps.take j ++ zs.drop j).set j ps[j] = ps.take (j + 1) ++ zs.drop (j + 1) := by
  have hl : (ps.take j).length = j := by simp; omega
  rw [List.set_append_right _ _ (by omega), hl, Nat.sub_self, List.drop_eq_getElem_cons (show j < zs.length by omega), List.set_cons_zero, List.take_succ_eq_append_getElem hj, List.append_assoc]
  rfl

set_option maxHeartbeats 1600000 in
theorem toReps_any (v : Value) (ps : List (Int × Int)) (w : World) (hn : ps.length ≤ 1048576) (hp : ReadsR 2 repC w.heap.size w v ps) :
    Calls Try.prog 44 #[v] w fun e w' => e = .returned (.slice (some ⟨w.heap.size, 0, none⟩) ps.length ps.length) ∧ w'.ownsRow w.heap.size 29 2 (.slice (some ⟨w.heap.size, 0, none⟩) ps.length ps.length) ps.length (ps.flatMap repC) ∧ Below w.heap.size w w' := by
  obtain ⟨o, cap, rfl, hm, hcells, -⟩ := hp
  have HC : Hid _ := two_cells hcells
  obtain ⟨M, hmk, hown⟩ := made_reps ps.length hn
  have own0 := hown w w.heap.size (Nat.le_refl _)
  have bd0 : Below w.heap.size w (w.alloc (.cells M 29)) := bw_alloc (Below.refl _ _)
  clear hown hcells hm
  go_enter Try.func44, Try.ntmps44
  go_wp2_with fail
  generalize w.alloc (.cells M 29) = W0 at own0 bd0 ⊢
  generalize hzs : List.replicate ps.length ((0 : Int), (0 : Int)) = zs at own0
  have hzl : zs.length = ps.length := by rw [← hzs]; simp
  clear hmk hzs
  go_loopw [4] (fun i wr => ∃ j : Nat, j ≤ ps.length ∧ i = .int .i64 j ∧ wr.ownsRow w.heap.size 29 2 (.slice (some ⟨w.heap.size, 0, none⟩) ps.length ps.length) (ps.take j ++ zs.drop j).length ((ps.take j ++ zs.drop j).flatMap repC) ∧ Below w.heap.size w wr ∧ w.heap.size < wr.heap.size) (fun i _ => ps.length - (intOf i).toNat)
  case atStart => exact ⟨0, Nat.zero_le _, rfl, by simpa using own0, bd0, (own0.lt _ rfl).2⟩
  case round =>
    obtain ⟨j, hj, rfl, own, hb, hsz⟩ := hrel
    by_cases hlt : j < ps.length
    · obtain ⟨g, off, rfl, hg, a0, a1⟩ := HC.out j hlt
      replace a0 := (hb.cell (p := ⟨g, off + j * 2, none⟩) hg).trans a0
      replace a1 := (hb.cell (p := ⟨g, off + j * 2 + 1, none⟩) hg).trans a1
      have hl2 : (ps.take j ++ zs.drop j).length = ps.length := by simp; omega
      have hjl : j < (ps.take j ++ zs.drop j).length := by omega
      have HST := fun (W : World) (hW : W.ownsRow w.heap.size 29 2 (.slice (some ⟨w.heap.size, 0, none⟩) ps.length ps.length) (ps.take j ++ zs.drop j).length ((ps.take j ++ zs.drop j).flatMap repC)) => own_rep hW j hjl ps[j].1 ps[j].2
      have hss := set_stepP ps zs j hlt hzl
      rw [show (ps[j].1, ps[j].2) = ps[j] from rfl, hss] at HST
      have HST2 : Hid _ := HST
      have hcc := fun (W : World) (hW : W.ownsRow w.heap.size 29 2 (.slice (some ⟨w.heap.size, 0, none⟩) ps.length ps.length) (ps.take j ++ zs.drop j).length ((ps.take j ++ zs.drop j).flatMap repC)) => own_two hW j hjl
      have HCC : Hid _ := hcc
      clear HST hss hcc hl2
      generalize ps[j] = x at a0 a1 HST2
      obtain ⟨f, c⟩ := x
      simp only at a0 a1
      go_wp2_with fail
      refine (toReply_any f c _).mono ?_
      rintro e w5 ⟨rfl, b5⟩
      have own5 := owns_below own b5
      have HO5 : Hid _ := HST2.out w5 own5
      obtain ⟨⟨t0, t1⟩, u0, u1⟩ := HCC.out w5 own5
      have hb5 := hb.trans (b5.mono hb.size)
      have hbf : Below w.heap.size w ((w5.setCell ⟨w.heap.size, j * 2, none⟩ (.int .i64 f)).setCell ⟨w.heap.size, j * 2 + 1, none⟩ (.int .i64 c)) := bw_set (bw_set hb5 (Nat.le_refl _) _) (Nat.le_refl _) _
      have hs5 : w.heap.size < w5.heap.size := Nat.lt_of_lt_of_le hsz b5.size
      have HBF : Hid _ := And.intro hbf hs5
      clear hbf own own5 b5 hb hb5 HCC HST2
      generalize (ps.take j ++ zs.drop j)[j] = y at t0 t1
      go_wp2_with fail
      go_roundw
      case rel => exact ⟨j + 1, by omega, by go_num, HO5.out, HBF.out.1, by simpa [World.size_setCell] using HBF.out.2⟩
      case measure => simp [intOf]; omega
    · obtain rfl : j = ps.length := by omega
      rw [List.take_length, List.drop_of_length_le (by omega), List.append_nil] at own
      go_wp2_with fail
      go_ret
      exact ⟨rfl, own, hb⟩

def marksP (k : Int) (n : Nat) : List (Int × Int) := (List.range n).map fun i : Nat => (k + 2 * (i : Int), k + 2 * (i : Int) + 1)

theorem marksP_length (k : Int) (n : Nat) : (marksP k n).length = n := by simp [marksP]

theorem marksP_get (k : Int) (n j : Nat) (h : j < (marksP k n).length) : (marksP k n)[j] = (k + 2 * (j : Int), k + 2 * (j : Int) + 1) := by simp [marksP]

theorem marksP_set (k : Int) (xs : List (Int × Int)) (j : Nat) (h : j < xs.length) : (marksP k j ++ xs.drop j).set j (k + 2 * (j : Int), k + 2 * (j : Int) + 1) = marksP k (j + 1) ++ xs.drop (j + 1) := by
  have hl : (marksP k j).length = j := marksP_length k j
  have hs : marksP k (j + 1) = marksP k j ++ [(k + 2 * (j : Int), k + 2 * (j : Int) + 1)] := by simp [marksP, List.range_succ]
  rw [List.set_append_right _ _ (by omega), hl, Nat.sub_self, List.drop_eq_getElem_cons h, List.set_cons_zero, hs]
  exact (List.append_assoc _ [_] _).symm

set_option maxHeartbeats 1600000 in
theorem markedP_any (g cap n base : Nat) (k : Int) (xs : List (Int × Int)) (w : World) (hk : 0 ≤ k) (hk2 : k ≤ 1073741824) (hx : xs.length = n) (hn : n ≤ 1048576) (own : w.ownsRow base 29 2 (.slice (some ⟨g, 0, none⟩) n cap) xs.length (xs.flatMap repC)) :
    Calls Try.prog 48 #[.slice (some ⟨g, 0, none⟩) n cap, .int .i64 k] w fun e w' => e = .returned (.int .i64 (k + 2 * n)) ∧ w'.ownsRow base 29 2 (.slice (some ⟨g, 0, none⟩) n cap) (marksP k n).length ((marksP k n).flatMap repC) ∧ Upto g w w' := by
  have HX : Hid (xs.length = n) := hx
  have hx1 : n ≤ xs.length := by omega
  clear hx
  go_enter Try.func48, Try.ntmps48
  go_wp2
  go_loopw [1, 5] (fun q i wr => ∃ j : Nat, j ≤ n ∧ i = .int .i64 j ∧ q = .int .i64 (k + 2 * j) ∧ wr.ownsRow base 29 2 (.slice (some ⟨g, 0, none⟩) n cap) (marksP k j ++ xs.drop j).length ((marksP k j ++ xs.drop j).flatMap repC) ∧ Upto g w wr) (fun _ i _ => n - (intOf i).toNat)
  case atStart => exact ⟨0, Nat.zero_le _, rfl, by simp, by simpa [marksP] using own, Upto.refl _ _⟩
  case round =>
    obtain ⟨j, hj, rfl, rfl, ow, u⟩ := hrel
    clear own
    by_cases hlt : j < n
    · have hjl : j < (marksP k j ++ xs.drop j).length := by rw [List.length_append, marksP_length, List.length_drop]; omega
      obtain ⟨⟨t0, t1⟩, u0, u1⟩ := own_two ow j hjl
      have HST := own_rep ow j hjl (k + 2 * (j : Int)) (k + 2 * (j : Int) + 1)
      rw [marksP_set k xs j (by omega)] at HST
      have uf : Upto g w ((wr.setCell ⟨g, j * 2, none⟩ (.int .i64 (k + 2 * (j : Int)))).setCell ⟨g, j * 2 + 1, none⟩ (.int .i64 (k + 2 * (j : Int) + 1))) := (u.setCell _ (.inl rfl) _).setCell _ (.inl rfl) _
      have HO : Hid _ := And.intro HST uf
      generalize (marksP k j ++ xs.drop j)[j] = y at t0 t1
      clear HST uf ow u
      go_wp2_with fail
      go_roundw
      case rel => exact ⟨j + 1, by omega, by go_num, by go_num, HO.out.1, HO.out.2⟩
      case measure => simp [intOf]; omega
    · obtain rfl : j = n := by omega
      rw [List.drop_of_length_le (by have := HX.out; omega), List.append_nil] at ow
      go_wp2_with fail
      go_ret
      exact ⟨rfl, ow, u⟩

/-- A row of runs of one's own, marked; whatever lies in another block stays. -/
theorem markedPRow_any (v : Value) (base : Nat) (k : Int) (xs : List (Int × Int)) (w : World) (hk : 0 ≤ k) (hk2 : k ≤ 1073741824) (hn : xs.length ≤ 1048576) (hbase : base ≤ w.heap.size) (own : w.ownsRow base 29 2 v xs.length (xs.flatMap repC)) :
    Calls Try.prog 48 #[v, .int .i64 k] w fun e w' => e = .returned (.int .i64 (k + 2 * xs.length)) ∧ w'.ownsRow base 29 2 v (marksP k xs.length).length ((marksP k xs.length).flatMap repC) ∧ Below base w w' ∧ w.heap.size ≤ w'.heap.size ∧ ∀ i, i < w.heap.size → v.ownBlock ≠ some i → w'.heap[i]? = w.heap[i]? := by
  rcases own.2 with ⟨rfl, h0⟩ | ⟨g, cap, cur, rfl, hg, _⟩
  · have hx : xs = [] := List.length_eq_zero_iff.1 h0
    subst hx
    go_enter Try.func48, Try.ntmps48
    go_wp2
    refine wp_loop_rounds 1 ?_
    rw [rounds_succ]
    go_wp2
    go_ret
    exact ⟨ret_int (by simp), World.ownsRow_nil _ _ _ _, Below.refl _ _, Nat.le_refl _, fun _ _ _ => rfl⟩
  · refine (markedP_any g cap xs.length base k xs w hk hk2 rfl hn own).mono ?_
    rintro e w' ⟨he, ho, hu⟩
    exact ⟨he, ho, hu.toBelow hbase hg, hu.size, fun i hi hn => hu.block i hi (fun e => hn (by rw [e]; rfl))⟩

set_option maxHeartbeats 1600000 in
theorem heldP_any (v : Value) (n : Nat) (k : Int) (w : World) (hk : 0 ≤ k) (hk2 : k ≤ 1073741824) (hn : n ≤ 1048576) (hr : ReadsR 2 repC w.heap.size w v (marksP k n)) :
    Calls Try.prog 50 #[v, .int .i64 k] w fun e w' => e = .returned (.int .i64 (k + 2 * n)) ∧ Below w.heap.size w w' := by
  obtain ⟨o, cap, rfl, hm, hc, -⟩ := hr
  have HC : Hid _ := two_cells hc
  rw [marksP_length] at hm ⊢
  clear hc hm
  go_enter Try.func50, Try.ntmps50
  go_wp2
  go_loopw [1, 5] (fun q i wr => ∃ j : Nat, j ≤ n ∧ i = .int .i64 j ∧ q = .int .i64 (k + 2 * j) ∧ wr = w) (fun _ i _ => n - (intOf i).toNat)
  case atStart => exact ⟨0, Nat.zero_le _, rfl, by simp, rfl⟩
  case round =>
    obtain ⟨j, hj, rfl, rfl, rfl⟩ := hrel
    by_cases hlt : j < n
    · have hjl : j < (marksP k n).length := by rw [marksP_length]; exact hlt
      obtain ⟨g, off, rfl, hg, a0, a1⟩ := HC.out j hjl
      rw [marksP_get k n j hjl] at a0 a1
      simp only at a0 a1
      clear HC hjl
      go_wp2
      go_roundw
      case rel => exact ⟨j + 1, by omega, by go_num, by go_num, by trivial⟩
      case measure => simp [intOf]; omega
    · obtain rfl : j = n := by omega
      go_wp2_with fail
      go_ret
      exact ⟨rfl, Below.refl _ _⟩
end Go.Proofs.Ytpmoefagpglddaa

namespace Go.Proofs.Ytpmoefagpglddaa
open Go.RowKit

set_option linter.unusedVariables false

set_option maxRecDepth 100000


theorem specReplyOk_any (c v : Int) (w : World) :
    Calls Try.prog 37 #[.agg #[.int .i64 c, .int .i64 v]] w fun e w' => e = .returned (.bool (repOk c v)) ∧ Below w.heap.size w w' := by
  obtain ⟨W0, hW0, k0, d0, z0⟩ := box1 w #[.int .i64 c, .int .i64 v] 29
  have HW0 : Hid (W0 = _) := hW0
  have p0 := at_cell k0 0
  have p1 := at_cell k0 1
  have HB : Hid (repOk c v = (inB c 0 9 && inB v 0 1000 && (decide (c = 0) || decide (v = 0)))) := rfl
  clear hW0 k0
  go_enter Try.func37, Try.ntmps37
  go_wp2_with fail
  rw [← HW0.out]
  clear HW0
  refine (l1In_any c 0 9 _).mono ?_
  rintro e w' ⟨rfl, rfl⟩
  have HI : Hid (inB c 0 9 = (decide (0 ≤ c) && decide (c ≤ 9))) := rfl
  rw [← HI.out]
  generalize inB c 0 9 = b0 at *
  cases b0
  · go_wp2_with fail
    go_ret
    exact ⟨ret_bool (by rw [HB.out]; rfl), d0⟩
  go_wp2_with fail
  refine (l1In_any v 0 1000 _).mono ?_
  rintro e w' ⟨rfl, rfl⟩
  have HI2 : Hid (inB v 0 1000 = (decide (0 ≤ v) && decide (v ≤ 1000))) := rfl
  rw [← HI2.out]
  generalize inB v 0 1000 = b1 at *
  cases b1
  · go_wp2_with fail
    go_ret
    exact ⟨ret_bool (by rw [HB.out]; rfl), d0⟩
  clear HI HI2
  by_cases h0 : c = 0
  · subst h0
    go_wp2_with fail
    go_ret
    exact ⟨ret_bool (by rw [HB.out]; rfl), d0⟩
  · go_wp2_with fail
    go_ret
    exact ⟨ret_bool (by rw [HB.out, Bool.eq_iff_iff]; simp [h0]), d0⟩
end Go.Proofs.Ytpmoefagpglddaa

namespace Go.Proofs.Ytpmoefagpglddaa
open Go.RowKit

set_option linter.unusedVariables false

set_option maxRecDepth 100000


theorem szInts_any (o : Option Addr) (n cap : Nat) (left : Int) (w : World) (h0 : 0 ≤ left) (hl : left ≤ 1048576) (hm : n ≤ maxLen) :
    Calls Try.prog 41 #[.slice o n cap, .int .i64 left] w fun e w' => e = .returned (.int .i64 (if left < n then -1 else left - n)) ∧ w' = w := by
  unfold maxLen at hm
  by_cases hbig : left < (n : Int)
  · rw [if_pos hbig]
    have h1 : left - (n : Int) < 0 := by omega
    go_enter Try.func41, Try.ntmps41
    go_wp2_with fail
    go_ret
    exact ⟨rfl, rfl⟩
  · rw [if_neg hbig]
    have h1 : 0 ≤ left - (n : Int) := by omega
    go_enter Try.func41, Try.ntmps41
    go_wp2_with fail
    go_ret
    exact ⟨rfl, rfl⟩

theorem copied_setI (ps : List Int) (xs : List Value) (j : Nat) (hj : j < ps.length) (hx : xs.length = ps.length) :
    ((ps.take j).map (Value.int .i64) ++ xs.drop j).set j (.int .i64 ps[j]) = (ps.take (j + 1)).map (Value.int .i64) ++ xs.drop (j + 1) := by
  have hl : ((ps.take j).map (Value.int .i64)).length = j := by simp; omega
  rw [List.set_append_right _ _ (by omega), hl, Nat.sub_self, List.drop_eq_getElem_cons (show j < xs.length by omega), List.set_cons_zero, List.take_succ_eq_append_getElem hj, List.map_append, List.append_assoc]
  rfl

/-- make([]int64, n): a row of noughts, at the end of memory. -/
theorem made_ints (n : Nat) (hn : n ≤ 1048576) : ∃ M : Array Value, M.toList = (List.replicate n (0 : Int)).map (Value.int .i64) ∧ (∀ W : World, (Instr.makeSlice 24 (.int .i64 (n : Int)) (.int .i64 (n : Int))).run Try.prog W = .ok (.slice (some ⟨W.heap.size, 0, none⟩) n n) (W.alloc (.cells M 2))) ∧
    ∀ (W : World) (base : Nat), base ≤ W.heap.size → (W.alloc (.cells M 2)).ownsRow base 2 1 (.slice (some ⟨W.heap.size, 0, none⟩) n n) n ((List.replicate n (0 : Int)).map (Value.int .i64)) := by
  obtain ⟨i0, hi, hz0, hz1, hz2⟩ := info_parts Try.infoI64
  have e : (madeCells (Value.int .i64 0).cells n).toList = (List.replicate n (0 : Int)).map (Value.int .i64) := by
    show (madeCells #[.int .i64 0] n).toList = _
    rw [toList_madeCells_one]
    simp
  refine ⟨madeCells (Value.int .i64 0).cells n, e, fun W => ?_, fun W base hb => ?_⟩
  · have h := run_make (P := Try.prog) W 24 2 i0 (.int .i64 0) Try.underlying24 hi hz0 .i64 .i64 (n : Int) (n : Int) (by omega) (by omega) (by rw [hz2]; omega) (by omega)
    rw [hz1, Nat.mul_one, Int.toNat_natCast] at h
    simpa using h
  · have h := World.ownsRow_lit (base := base) (size := 1) (e := 2) W (madeCells (Value.int .i64 0).cells n) n hb (by unfold maxLen; omega) (by rw [size_madeCells]; omega)
    rwa [e] at h

set_option maxHeartbeats 1600000 in
theorem toInts_any (v : Value) (ps : List Int) (w : World) (hn : ps.length ≤ 1048576) (hp : Reads w.heap.size w v (ps.map (Value.int .i64))) :
    Calls Try.prog 43 #[v] w fun e w' => e = .returned (.slice (some ⟨w.heap.size, 0, none⟩) ps.length ps.length) ∧ w'.ownsRow w.heap.size 2 1 (.slice (some ⟨w.heap.size, 0, none⟩) ps.length ps.length) ps.length (ps.map (Value.int .i64)) ∧ Below w.heap.size w w' := by
  obtain ⟨o, cap, rfl, hm, hcells, -⟩ := hp
  have HC : Hid (∀ j u, (ps.map (Value.int .i64))[j]? = some u → ∃ g off, o = some ⟨g, off, none⟩ ∧ g < w.heap.size ∧ w.cell? ⟨g, off + j, none⟩ = some u) := hcells
  have hlen : (ps.map (Value.int .i64)).length = ps.length := by simp
  rw [hlen]
  clear hcells hlen hm
  obtain ⟨M, hM, hmk, hown⟩ := made_ints ps.length hn
  have own0 := hown w w.heap.size (Nat.le_refl _)
  have bd0 : Below w.heap.size w (w.alloc (.cells M 2)) := (Below.refl _ _).alloc (Nat.le_refl _) _
  clear hown hM
  go_enter Try.func43, Try.ntmps43
  go_wp2_with fail
  generalize w.alloc (.cells M 2) = W0 at own0 bd0 ⊢
  generalize hxs : (List.replicate ps.length (0 : Int)).map (Value.int .i64) = xs at own0
  have hMl : xs.length = ps.length := by rw [← hxs]; simp
  clear hmk hxs
  go_loopw [4] (fun i wr => ∃ j : Nat, j ≤ ps.length ∧ i = .int .i64 j ∧ wr.ownsRow w.heap.size 2 1 (.slice (some ⟨w.heap.size, 0, none⟩) ps.length ps.length) ps.length ((ps.take j).map (Value.int .i64) ++ xs.drop j) ∧ Below w.heap.size w wr) (fun i _ => ps.length - (intOf i).toNat)
  case atStart => exact ⟨0, Nat.zero_le _, rfl, by simpa using own0, bd0⟩
  case round =>
    obtain ⟨j, hj, rfl, own, hb⟩ := hrel
    by_cases hlt : j < ps.length
    · obtain ⟨g, off, rfl, hg, hx⟩ := HC.out j (.int .i64 ps[j]) (by simp [hlt])
      have hx1 : wr.cell? ⟨g, off + j, none⟩ = some (.int .i64 ps[j]) := (hb.cell (p := ⟨g, off + j, none⟩) hg).trans hx
      have hc0 := own.cellAt j (by omega)
      have hf := own.frozenAt j
      have hst := (own.stored j (.int .i64 ps[j])).1
      rw [copied_setI ps xs j hlt hMl] at hst
      obtain ⟨u0, hu0⟩ : ∃ u0, ((ps.take j).map (Value.int .i64) ++ xs.drop j)[j]? = some u0 := ⟨_, List.getElem?_eq_getElem (by simp; omega)⟩
      have hc : wr.cell? ⟨w.heap.size, j, none⟩ = some u0 := hc0.trans hu0
      have hb2 : Below w.heap.size w (wr.setCell ⟨w.heap.size, j, none⟩ (.int .i64 ps[j])) := hb.setCell (p := ⟨w.heap.size, j, none⟩) (Nat.le_refl _) _
      have HST : Hid _ := And.intro hst hb2
      clear hst hb2 hc0 hu0 own hx
      generalize ps[j] = x at hx1 HST
      go_wp2_with fail
      go_roundw
      case rel => exact ⟨j + 1, by omega, by go_num, HST.out.1, HST.out.2⟩
      case measure => simp [intOf]; omega
    · obtain rfl : j = ps.length := by omega
      rw [List.take_length, List.drop_of_length_le (by omega), List.append_nil] at own
      go_wp2_with fail
      go_ret
      exact ⟨rfl, own, hb⟩

theorem int_ne {x y : Int} (h : (x != y) = true) : x ≠ y := by simpa using h

theorem int_same {x y : Int} (h : (x != y) = false) : x = y := by simpa using h

set_option maxHeartbeats 800000 in
theorem eqInts_any (v1 v2 : Value) (xs ys : List Int) (w : World) (h1 : Reads w.heap.size w v1 (xs.map (Value.int .i64))) (h2 : Reads w.heap.size w v2 (ys.map (Value.int .i64))) :
    Calls Try.prog 45 #[v1, v2] w fun e w' => e = .returned (.bool (decide (xs = ys))) ∧ Below w.heap.size w w' := by
  obtain ⟨o1, cap1, rfl, m1, c1, -⟩ := h1
  obtain ⟨o2, cap2, rfl, m2, c2, -⟩ := h2
  simp only [List.length_map] at m1 m2 c1 c2 ⊢
  by_cases hlen : xs.length = ys.length
  · rw [← hlen]
    have C1 : Hid (∀ j u, (xs.map (Value.int .i64))[j]? = some u → ∃ g off, o1 = some ⟨g, off, none⟩ ∧ g < w.heap.size ∧ w.cell? ⟨g, off + j, none⟩ = some u) := c1
    have C2 : Hid (∀ j u, (ys.map (Value.int .i64))[j]? = some u → ∃ g off, o2 = some ⟨g, off, none⟩ ∧ g < w.heap.size ∧ w.cell? ⟨g, off + j, none⟩ = some u) := c2
    have HL : Hid (xs.length = ys.length) := hlen
    have hle : ys.length ≤ xs.length := by omega
    have hge : xs.length ≤ ys.length := by omega
    unfold maxLen at m1
    clear c1 c2 m2 hlen
    go_enter Try.func45, Try.ntmps45
    go_wp2
    go_loopw [5] (fun i wr => ∃ k : Nat, k ≤ xs.length ∧ i = .int .i64 k ∧ xs.take k = ys.take k ∧ Below w.heap.size w wr) (fun i _ => xs.length - (intOf i).toNat)
    case atStart => exact ⟨0, Nat.zero_le _, rfl, rfl, Below.refl _ _⟩
    case round =>
      obtain ⟨k, hk, rfl, htk, hb⟩ := hrel
      have HT : Hid (xs.take k = ys.take k) := htk
      clear htk
      by_cases hlt : k < xs.length
      · have hlt2 : k < ys.length := by omega
        obtain ⟨g1, of1, rfl, q1, cc1⟩ := C1.out k (.int .i64 xs[k]) (by simp [hlt])
        obtain ⟨g2, of2, rfl, q2, cc2⟩ := C2.out k (.int .i64 ys[k]) (by simp [hlt2])
        generalize hx : xs[k] = x at cc1
        generalize hy : ys[k] = y at cc2
        have HX : Hid (xs[k] = x) := hx
        have HY : Hid (ys[k] = y) := hy
        clear hx hy C1 C2
        have d1 := (hb.cell (p := ⟨g1, of1 + k, none⟩) q1).trans cc1
        have d2 := (hb.cell (p := ⟨g2, of2 + k, none⟩) q2).trans cc2
        clear cc1 cc2
        go_wp2
        go_quiet (fail)
        go_wp2
        · have hne : x ≠ y := int_ne (by assumption)
          rw [← HX.out, ← HY.out] at hne
          go_ret
          exact ⟨ret_bool (by simp [ne_at xs ys k hlt hlt2 hne]), ⟨hb.os, hb.tape, hb.output, hb.size, hb.block⟩⟩
        · have he : x = y := int_same (by assumption)
          rw [← HX.out, ← HY.out] at he
          go_roundw
          case rel => exact ⟨k + 1, by omega, by go_num, take_more xs ys k hlt hlt2 HT.out he, ⟨hb.os, hb.tape, hb.output, hb.size, hb.block⟩⟩
          case measure => simp [intOf]; omega
      · go_wp2
        go_ret
        exact ⟨ret_bool (by simp [all_taken xs ys k hlt HL.out HT.out]), hb⟩
  · have hn : ((xs.length : Int) != (ys.length : Int)) = true := by rw [bne_iff_ne]; omega
    have HX : Hid (decide (xs = ys) = false) := by rw [Hid, decide_eq_false_iff_not]; intro e; rw [e] at hlen; exact hlen rfl
    unfold maxLen at m1 m2
    clear hlen c1 c2
    go_enter Try.func45, Try.ntmps45
    go_wp2
    go_ret
    exact ⟨ret_bool HX.out.symm, Below.refl _ _⟩

def marksI (k : Int) (n : Nat) : List Int := (List.range n).map fun i : Nat => k + (i : Int)

theorem marksI_length (k : Int) (n : Nat) : (marksI k n).length = n := by simp [marksI]

theorem marksI_get (k : Int) (n j : Nat) (h : j < n) : ((marksI k n).map (Value.int .i64))[j]? = some (.int .i64 (k + j)) := by simp [marksI, h]

theorem marked_setI (k : Int) (xs : List Value) (j : Nat) (h : j < xs.length) :
    ((marksI k j).map (Value.int .i64) ++ xs.drop j).set j (.int .i64 (k + j)) = (marksI k (j + 1)).map (Value.int .i64) ++ xs.drop (j + 1) := by
  have hl : ((marksI k j).map (Value.int .i64)).length = j := by simp [marksI]
  have hs : (marksI k (j + 1)).map (Value.int .i64) = (marksI k j).map (Value.int .i64) ++ [.int .i64 (k + j)] := by simp [marksI, List.range_succ]
  rw [List.set_append_right _ _ (by omega), hl, Nat.sub_self, List.drop_eq_getElem_cons h, List.set_cons_zero, hs]
  exact (List.append_assoc _ [Value.int .i64 (k + j)] _).symm

theorem marked_allI (k : Int) (xs : List Value) (n : Nat) (h : xs.length = n) : (marksI k n).map (Value.int .i64) ++ xs.drop n = (marksI k n).map (Value.int .i64) := by
  rw [List.drop_of_length_le (by omega)]; simp

set_option maxHeartbeats 800000 in
theorem markedI_any (g cap n base : Nat) (k : Int) (xs : List Value) (w : World) (hk : 0 ≤ k) (hn : k + n ≤ 1099511627776) (own : w.ownsRow base 2 1 (.slice (some ⟨g, 0, none⟩) n cap) n xs) :
    Calls Try.prog 47 #[.slice (some ⟨g, 0, none⟩) n cap, .int .i64 k] w fun e w' => e = .returned (.int .i64 (k + n)) ∧ w'.ownsRow base 2 1 (.slice (some ⟨g, 0, none⟩) n cap) n ((marksI k n).map (Value.int .i64)) ∧ Upto g w w' := by
  have hx : xs.length = n := by simpa using own.1
  have hg := own.lt g rfl
  go_enter Try.func47, Try.ntmps47
  go_wp2
  go_loopw [1, 5] (fun q i wr => ∃ j : Nat, j ≤ n ∧ i = .int .i64 j ∧ q = .int .i64 (k + j) ∧ wr.ownsRow base 2 1 (.slice (some ⟨g, 0, none⟩) n cap) n ((marksI k j).map (Value.int .i64) ++ xs.drop j) ∧ Upto g w wr) (fun _ i _ => n - (intOf i).toNat)
  case atStart => exact ⟨0, Nat.zero_le _, rfl, by simp, by simpa [marksI] using own, Upto.refl _ _⟩
  case round =>
    obtain ⟨j, hj, rfl, rfl, ow, u⟩ := hrel
    clear own
    by_cases hlt : j < n
    · have hc0 := ow.cellAt j (by omega)
      have hf := ow.frozenAt j
      have hst := (ow.stored j (.int .i64 (k + j))).1
      rw [marked_setI k xs j (by omega)] at hst
      have HST : Hid ((wr.setCell ⟨g, j, none⟩ (.int .i64 (k + j))).ownsRow base 2 1 (.slice (some ⟨g, 0, none⟩) n cap) n ((marksI k (j + 1)).map (Value.int .i64) ++ xs.drop (j + 1))) := hst
      obtain ⟨u0, hu0⟩ : ∃ u0, ((marksI k j).map (Value.int .i64) ++ xs.drop j)[j]? = some u0 := ⟨_, List.getElem?_eq_getElem (by simp [marksI_length]; omega)⟩
      have hc : wr.cell? ⟨g, j, none⟩ = some u0 := hc0.trans hu0
      have u2 : Upto g w (wr.setCell ⟨g, j, none⟩ (.int .i64 (k + j))) := u.setCell _ (.inl rfl) _
      clear ow hc0 hu0 hst u
      go_wp2_with fail
      go_roundw
      case rel => exact ⟨j + 1, by omega, by go_num, by go_num, HST.out, u2⟩
      case measure => simp [intOf]; omega
    · obtain rfl : j = n := by omega
      rw [marked_allI k xs j hx] at ow
      go_wp2_with fail
      go_ret
      exact ⟨rfl, ow, u⟩

/-- A row of one's own, marked; whatever other row lies in another block stays. -/
theorem markedIRow_any (v : Value) (n base : Nat) (k : Int) (xs : List Value) (w : World) (hk : 0 ≤ k) (hn : k + n ≤ 1099511627776) (hbase : base ≤ w.heap.size) (own : w.ownsRow base 2 1 v n xs) :
    Calls Try.prog 47 #[v, .int .i64 k] w fun e w' => e = .returned (.int .i64 (k + n)) ∧ w'.ownsRow base 2 1 v n ((marksI k n).map (Value.int .i64)) ∧ Below base w w' ∧ w.heap.size ≤ w'.heap.size ∧ ∀ i, i < w.heap.size → v.ownBlock ≠ some i → w'.heap[i]? = w.heap[i]? := by
  rcases own.2 with ⟨rfl, rfl⟩ | ⟨g, cap, cur, rfl, hg, _⟩
  · go_enter Try.func47, Try.ntmps47
    go_wp2
    refine wp_loop_rounds 1 ?_
    rw [rounds_succ]
    go_wp2
    go_ret
    exact ⟨ret_int (by simp), World.ownsRow_nil _ _ _ _, Below.refl _ _, Nat.le_refl _, fun _ _ _ => rfl⟩
  · refine (markedI_any g cap n base k xs w hk hn own).mono ?_
    rintro e w' ⟨he, ho, hu⟩
    exact ⟨he, ho, hu.toBelow hbase hg, hu.size, fun i hi hn => hu.block i hi (fun e => hn (by rw [e]; rfl))⟩

set_option maxHeartbeats 800000 in
theorem heldI_any (v : Value) (n : Nat) (k : Int) (w : World) (hk : 0 ≤ k) (hn : k + n ≤ 1099511627776) (hr : Reads w.heap.size w v ((marksI k n).map (Value.int .i64))) :
    Calls Try.prog 49 #[v, .int .i64 k] w fun e w' => e = .returned (.int .i64 (k + n)) ∧ Below w.heap.size w w' := by
  obtain ⟨o, cap, rfl, hm, hc, -⟩ := hr
  have hl : ((marksI k n).map (Value.int .i64)).length = n := by simp [marksI_length]
  rw [hl] at hm ⊢
  have HC : Hid (∀ j u, ((marksI k n).map (Value.int .i64))[j]? = some u → ∃ g off, o = some ⟨g, off, none⟩ ∧ g < w.heap.size ∧ w.cell? ⟨g, off + j, none⟩ = some u) := hc
  clear hc hl hm
  go_enter Try.func49, Try.ntmps49
  go_wp2
  go_loopw [1, 5] (fun q i wr => ∃ j : Nat, j ≤ n ∧ i = .int .i64 j ∧ q = .int .i64 (k + j) ∧ Below w.heap.size w wr) (fun _ i _ => n - (intOf i).toNat)
  case atStart => exact ⟨0, Nat.zero_le _, rfl, by simp, Below.refl _ _⟩
  case round =>
    obtain ⟨j, hj, rfl, rfl, hb⟩ := hrel
    by_cases hlt : j < n
    · obtain ⟨g, off, rfl, hg, hx⟩ := HC.out j _ (marksI_get k n j hlt)
      have hx1 : wr.cell? ⟨g, off + j, none⟩ = some (.int .i64 (k + j)) := (hb.cell (p := ⟨g, off + j, none⟩) hg).trans hx
      have g1 : (0 : Int) ≤ (j : Int) := by omega
      have g2 : (j : Int) < (n : Int) := by omega
      clear HC hx
      go_wp2
      go_roundw
      case rel => exact ⟨j + 1, by omega, by go_num, by go_num, hb⟩
      case measure => simp [intOf]; omega
    · obtain rfl : j = n := by omega
      go_wp2_with fail
      go_ret
      exact ⟨rfl, hb⟩
end Go.Proofs.Ytpmoefagpglddaa

namespace Go.Proofs.Ytpmoefagpglddaa
open Go.RowKit

set_option linter.unusedVariables false

set_option maxRecDepth 100000

theorem getD_some (xs : List Int) (j : Nat) (h : j < xs.length) : (xs.map (Value.int .i64))[j]? = some (.int .i64 (xs.getD j 0)) := by
  rw [List.getElem?_map, List.getElem?_eq_getElem h, List.getD_eq_getElem?_getD, List.getElem?_eq_getElem h]; rfl
end Go.Proofs.Ytpmoefagpglddaa

