/-
  Contracts and plain laws, one chapter behind the other.
-/
import Derived.Test.YtaekdfknkgmfbaaGreatDoorChecked
import Derived.Deep.Slices
import Derived.Deep.Strs
import Derived.Laws.MakeOwn
import Derived.Deep.RegionHeld3
import Derived.Deep.RegionLaw
import Derived.Test.YtaekdfknkgmfbaaGreatDoorM01
import Derived.Test.YtaekdfknkgmfbaaGreatDoorM02
import Derived.Test.YtaekdfknkgmfbaaGreatDoorM03
import Derived.Test.YtaekdfknkgmfbaaGreatDoorM04
import Derived.Test.YtaekdfknkgmfbaaGreatDoorM05
namespace Go.Proofs.YtaekdfknkgmfbaaGreatDoor
open Go.ChangeShapes Go.WideShapes Go.ChangeAt Go.RowKit Go.Deep

set_option linter.unusedVariables false

set_option maxRecDepth 100000


theorem lit_i64 {a : Int} (h : (Lit.int .i64 a).wf = true) : -9223372036854775808 ≤ a ∧ a ≤ 9223372036854775807 := by simpa [Lit.wf, IntKind.min, IntKind.max, IntKind.signed, IntKind.bits] using h

/-- A row of runs, read out of whatever it lies in. -/
theorem row_runs {H : Type} {enc : TypeId × Value → H} {W : World} {n : Nat} {v : Value} {y : DataW H × List MemPlace} (h : DataW.trod enc Tryz.prog W 0 (fun _ => true) true n 188 [v] = some y) :
    ∃ xs : List (Int × Int × Int), ReadsR 3 runC W.heap.size W v xs ∧ FitRuns xs := by
  rcases open_slice Tryz.underlying188 h with ⟨hcs, _⟩ | ⟨a, len, cap, m, k, D, Pl, hcs, _, hl, hm, hmm, _, hx⟩
  · simp at hcs
    subst hcs
    exact ⟨[], ReadsR.nil _ _ _ _, fun r hr => by cases hr⟩
  · simp at hcs
    subst hcs
    have hlm : len ≤ m := by rw [hmm]; split <;> omega
    have ce : Tryz.prog.cellsOf 273 = 3 := by kernel_rfl
    have c1 : Tryz.prog.cellsOf 2 = 1 := by kernel_rfl
    have each : ∀ i, i < len → ∃ r : Int × Int × Int, (∀ j u, (runC r)[j]? = some u → W.cell? (a.add (i * 3 + j)) = some u) ∧ I64 r.1 ∧ I64 r.2.1 ∧ I64 r.2.2 := by
      intro i hi
      obtain ⟨cs', h1, h2⟩ := hx i (by omega)
      rw [ce] at h1
      obtain ⟨_, hlen, hcell⟩ := World.cells?_some h1
      obtain ⟨y0, y1, y2, n', _, _, t0, t1, t2⟩ := trod_struct3 Tryz.underlying273 h2
      match cs', hlen with
      | [v0, v1, v2], _ =>
        simp [c1] at t0 t1 t2
        obtain ⟨f, e0, _, z0⟩ := DataW.trod_int Tryz.underlying2 t0
        obtain ⟨c, e1, _, z1⟩ := DataW.trod_int Tryz.underlying2 t1
        obtain ⟨p, e2, _, z2⟩ := DataW.trod_int Tryz.underlying2 t2
        simp at e0 e1 e2
        subst e0 e1 e2
        refine ⟨(f, c, p), fun j u hj => ?_, lit_i64 z0, lit_i64 z1, lit_i64 z2⟩
        have hj3 : j < 3 := by have := (List.getElem?_eq_some_iff.1 hj).1; rwa [runC_len] at this
        have q := hcell j hj3
        rw [add_add] at q
        rw [q]
        exact hj
    obtain ⟨r, hr⟩ := choose_lt each
    have hfit : FitRuns ((List.range len).map r) := fun x hx => by
      obtain ⟨i, hi, rfl⟩ := List.mem_map.1 hx
      exact (hr i (List.mem_range.1 hi)).2
    refine ⟨(List.range len).map r, ⟨some a, cap, by simp, by simp; omega, fun i x hi => ?_, by simp; omega⟩, hfit⟩
    have hil : i < len := by have := (List.getElem?_eq_some_iff.1 hi).1; simpa using this
    have ex : r i = x := by
      rw [List.getElem?_map, List.getElem?_range hil] at hi
      simpa using hi
    have h0 := (hr i hil).1
    rw [ex] at h0
    obtain ⟨b, off, spot⟩ := a
    have hspot : spot = none := by simpa [Addr.add] using World.cell?_spot ((hr 0 (by omega)).1 0 _ rfl)
    subst hspot
    have e : ∀ z, (⟨b, off, none⟩ : Addr).add z = ⟨b, off + z, none⟩ := fun z => by unfold Addr.add; split <;> simp_all
    have hb : b < W.heap.size := by
      have q := h0 0 _ rfl
      rw [e] at q
      rcases Nat.lt_or_ge b W.heap.size with g | g
      · exact g
      · simp [World.cell?, Array.getElem?_eq_none g] at q
    refine ⟨b, off, rfl, hb, fun j u hj => ?_⟩
    have q := h0 j u hj
    rw [e] at q
    rw [Nat.add_assoc]
    exact q
end Go.Proofs.YtaekdfknkgmfbaaGreatDoor

namespace Go.Proofs.YtaekdfknkgmfbaaGreatDoor
open Go.ChangeShapes Go.WideShapes Go.ChangeAt Go.RowKit Go.Deep Go.Joins

set_option linter.unusedVariables false

set_option maxRecDepth 100000


theorem list5 {α : Type} {cs : List α} (h : cs.length = 5) : ∃ c0 c1 c2 c3 c4, cs = [c0, c1, c2, c3, c4] := by
  match cs, h with
  | [c0, c1, c2, c3, c4], _ => exact ⟨c0, c1, c2, c3, c4, rfl⟩

/-- A book's five cells, read out of whatever they lie in. -/
theorem book_cells {H : Type} {enc : TypeId × Value → H} {W : World} {n : Nat} {cs : List Value} {y : DataW H × List MemPlace} (h : DataW.trod enc Tryz.prog W 0 (fun _ => true) true n 190 cs = some y) :
    ∃ b : Bk, cs = bookC b ∧ ReadsR 3 runC W.heap.size W b.m b.rs ∧ FitRuns b.rs ∧ b.nm.size ≤ maxLen ∧ I64 b.sz ∧ I64 b.ep := by
  have ce : Tryz.prog.cellsOf 190 = 5 := by kernel_rfl
  have c1 : Tryz.prog.cellsOf 2 = 1 := by kernel_rfl
  have c2 : Tryz.prog.cellsOf 9 = 1 := by kernel_rfl
  have c3 : Tryz.prog.cellsOf 4 = 1 := by kernel_rfl
  have c4 : Tryz.prog.cellsOf 188 = 1 := by kernel_rfl
  obtain ⟨xs, m, _, -, hl, hlen, hf⟩ := DataW.trod_struct Tryz.underlying190 h
  obtain ⟨v0, v1, v2, v3, v4, rfl⟩ := list5 (hl.trans ce)
  obtain ⟨y0, y1, y2, y3, y4, rfl⟩ := list5 (show xs.length = 5 from hlen)
  have t0 := hf 0 _ rfl
  have t1 := hf 1 _ rfl
  have t2 := hf 2 _ rfl
  have t3 := hf 3 _ rfl
  have t4 := hf 4 _ rfl
  simp [c1, c2, c3, c4] at t0 t1 t2 t3 t4
  obtain ⟨nm, e0, _, z0⟩ := DataW.trod_string Tryz.underlying9 t0
  obtain ⟨sz, e1, _, z1⟩ := DataW.trod_int Tryz.underlying2 t1
  obtain ⟨rs, r2, f2⟩ := row_runs t2
  obtain ⟨fx, e3, _⟩ := DataW.trod_bool Tryz.underlying4 t3
  obtain ⟨ep, e4, _, z4⟩ := DataW.trod_int Tryz.underlying2 t4
  simp at e0 e1 e3 e4
  subst e0 e1 e3 e4
  exact ⟨⟨nm, sz, v2, rs, fx, ep⟩, rfl, r2, f2, z0, lit_i64 z1, lit_i64 z4⟩
end Go.Proofs.YtaekdfknkgmfbaaGreatDoor

namespace Go.Proofs.YtaekdfknkgmfbaaGreatDoor
open Go.RowKit

set_option linter.unusedVariables false

set_option maxRecDepth 100000


set_option maxHeartbeats 3200000 in
theorem eqBooks_same (v v' : Value) (bs ms : List Bk) (w : World) (hp : ms.map plainB = bs.map plainB) (r : ReadsB w.heap.size w v bs) (r' : ReadsB w.heap.size w v' ms) :
    Calls Tryz.prog 110 #[v, v'] w fun e w' => e = .returned (.bool true) ∧ Below w.heap.size w w' := by
  have RM : Hid _ := r.maps
  have RM' : Hid _ := r'.maps
  have hl := plain_len hp
  have HP : Hid _ := hp
  obtain ⟨o1, cap1, rfl, m1, c1, -⟩ := r.row
  obtain ⟨o2, cap2, rfl, m2, c2, -⟩ := r'.row
  have C1 : Hid _ := five_cells c1
  have C2 : Hid _ := five_cells c2
  have HL : Hid (ms.length = bs.length) := hl
  rw [hl]
  unfold maxLen at m1
  clear c1 c2 m2 r r' hp hl
  go_enter Tryz.func110, Tryz.ntmps110
  go_wp2
  go_loopw [5] (fun i wr => ∃ k : Nat, k ≤ bs.length ∧ i = .int .i64 k ∧ Below w.heap.size w wr) (fun i _ => bs.length - (intOf i).toNat)
  case atStart => exact ⟨0, Nat.zero_le _, rfl, Below.refl _ _⟩
  case round =>
    obtain ⟨k, hk, rfl, hb⟩ := hrel
    by_cases hlt : k < bs.length
    · have hlt2 : k < ms.length := by have := HL.out; omega
      obtain ⟨g1, of1, rfl, q1, a0, a1, a2, a3, a4⟩ := C1.out k hlt
      obtain ⟨g2, of2, rfl, q2, b0, b1, b2, b3, b4⟩ := C2.out k hlt2
      have rm := (RM.out bs[k] (List.getElem_mem hlt)).below hb
      have rm' := (RM'.out ms[k] (List.getElem_mem hlt2)).below hb
      have hpk := plain_at HP.out k hlt2 hlt
      generalize bs[k] = x at a0 a1 a2 a3 a4 rm hpk
      generalize ms[k] = y at b0 b1 b2 b3 b4 rm' hpk
      obtain ⟨nm, sz, m, rs, fx, ep⟩ := x
      obtain ⟨nm', sz', m', rs', fx', ep'⟩ := y
      simp only [plainB, Prod.mk.injEq] at a0 a1 a2 a3 a4 b0 b1 b2 b3 b4 rm rm' hpk
      obtain ⟨rfl, rfl, rfl, rfl, rfl⟩ := hpk
      have hne := BelowOf.any wr
      have l1 : g1 < wr.heap.size := Nat.lt_of_lt_of_le q1 hb.size
      have l2 : g2 < wr.heap.size := Nat.lt_of_lt_of_le q2 hb.size
      have HEQ : ∀ q : BelowOf wr, Calls Tryz.prog 170 #[.agg #[.string nm', .int .i64 sz', m, .bool fx', .int .i64 ep'], .agg #[.string nm', .int .i64 sz', m', .bool fx', .int .i64 ep']] q.w' fun e w' => e = .returned (.bool true) ∧ Below q.w'.heap.size q.w' w' := fun q => eqBook_same nm' sz' m m' rs' fx' ep' q.w' (rm.of hb.size q) (rm'.of hb.size q)
      have d0 := BelowOf.cell ((hb.cell (p := ⟨g1, of1 + k * 5, none⟩) q1).trans a0) l1
      have d1 := BelowOf.cell ((hb.cell (p := ⟨g1, of1 + k * 5 + 1, none⟩) q1).trans a1) l1
      have d2 := BelowOf.cell ((hb.cell (p := ⟨g1, of1 + k * 5 + 2, none⟩) q1).trans a2) l1
      have d3 := BelowOf.cell ((hb.cell (p := ⟨g1, of1 + k * 5 + 3, none⟩) q1).trans a3) l1
      have d4 := BelowOf.cell ((hb.cell (p := ⟨g1, of1 + k * 5 + 4, none⟩) q1).trans a4) l1
      have f0 := BelowOf.cell ((hb.cell (p := ⟨g2, of2 + k * 5, none⟩) q2).trans b0) l2
      have f1 := BelowOf.cell ((hb.cell (p := ⟨g2, of2 + k * 5 + 1, none⟩) q2).trans b1) l2
      have f2 := BelowOf.cell ((hb.cell (p := ⟨g2, of2 + k * 5 + 2, none⟩) q2).trans b2) l2
      have f3 := BelowOf.cell ((hb.cell (p := ⟨g2, of2 + k * 5 + 3, none⟩) q2).trans b3) l2
      have f4 := BelowOf.cell ((hb.cell (p := ⟨g2, of2 + k * 5 + 4, none⟩) q2).trans b4) l2
      have g1' : (0 : Int) ≤ (k : Int) := by omega
      have g2' : (k : Int) < (bs.length : Int) := by omega
      clear a0 a1 a2 a3 a4 b0 b1 b2 b3 b4 C1 C2 RM RM' rm rm' HP
      go_wp2_with fail
      refine wp_region_of (by kernel_rfl) (by kernel_rfl) ?_
      repeat (go_big_quiet_step ((first | (go_at_call 170; exact calls_of (HEQ _)) | rfl)))
      refine wpQuiet_nil ?_
      intro w5 hw5
      obtain ⟨⟨wx, cx⟩, hwx⟩ := hw5
      have b5 : Below wr.heap.size wr w5 := by rw [hwx]; exact cx
      have hb5 := hb.trans (b5.mono hb.size)
      clear hwx cx wx hne d0 d1 d2 d3 d4 f0 f1 f2 f3 f4 HEQ
      go_wp2_with fail
      go_roundw
      case rel => exact ⟨k + 1, by omega, by go_num, hb5⟩
      case measure => simp [intOf]; omega
    · go_wp2
      go_ret
      exact ⟨rfl, hb⟩
end Go.Proofs.YtaekdfknkgmfbaaGreatDoor

namespace Go.Proofs.YtaekdfknkgmfbaaGreatDoor
open Go.RowKit

set_option linter.unusedVariables false

set_option maxRecDepth 100000


theorem szInts_any (o : Option Addr) (n cap : Nat) (left : Int) (w : World) (h0 : 0 ≤ left) (hl : left ≤ 1048576) (hm : n ≤ maxLen) :
    Calls Tryz.prog 165 #[.slice o n cap, .int .i64 left] w fun e w' => e = .returned (.int .i64 (if left < n then -1 else left - n)) ∧ w' = w := by
  unfold maxLen at hm
  by_cases hbig : left < (n : Int)
  · rw [if_pos hbig]
    have h1 : left - (n : Int) < 0 := by omega
    go_enter Tryz.func165, Tryz.ntmps165
    go_wp2_with fail
    go_ret
    exact ⟨rfl, rfl⟩
  · rw [if_neg hbig]
    have h1 : 0 ≤ left - (n : Int) := by omega
    go_enter Tryz.func165, Tryz.ntmps165
    go_wp2_with fail
    go_ret
    exact ⟨rfl, rfl⟩

theorem copied_setI (ps : List Int) (xs : List Value) (j : Nat) (hj : j < ps.length) (hx : xs.length = ps.length) :
    ((ps.take j).map (Value.int .i64) ++ xs.drop j).set j (.int .i64 ps[j]) = (ps.take (j + 1)).map (Value.int .i64) ++ xs.drop (j + 1) := by
  have hl : ((ps.take j).map (Value.int .i64)).length = j := by simp; omega
  rw [List.set_append_right _ _ (by omega), hl, Nat.sub_self, List.drop_eq_getElem_cons (show j < xs.length by omega), List.set_cons_zero, List.take_succ_eq_append_getElem hj, List.map_append, List.append_assoc]
  rfl

/-- make([]int64, n): a row of noughts, at the end of memory. -/
theorem made_ints (n : Nat) (hn : n ≤ 1048576) : ∃ M : Array Value, M.toList = (List.replicate n (0 : Int)).map (Value.int .i64) ∧ (∀ W : World, (Instr.makeSlice 24 (.int .i64 (n : Int)) (.int .i64 (n : Int))).run Tryz.prog W = .ok (.slice (some ⟨W.heap.size, 0, none⟩) n n) (W.alloc (.cells M 2))) ∧
    ∀ (W : World) (base : Nat), base ≤ W.heap.size → (W.alloc (.cells M 2)).ownsRow base 2 1 (.slice (some ⟨W.heap.size, 0, none⟩) n n) n ((List.replicate n (0 : Int)).map (Value.int .i64)) := by
  obtain ⟨i0, hi, hz0, hz1, hz2⟩ := info_parts Tryz.infoI64
  have e : (madeCells (Value.int .i64 0).cells n).toList = (List.replicate n (0 : Int)).map (Value.int .i64) := by
    show (madeCells #[.int .i64 0] n).toList = _
    rw [toList_madeCells_one]
    simp
  refine ⟨madeCells (Value.int .i64 0).cells n, e, fun W => ?_, fun W base hb => ?_⟩
  · have h := run_make (P := Tryz.prog) W 24 2 i0 (.int .i64 0) Tryz.underlying24 hi hz0 .i64 .i64 (n : Int) (n : Int) (by omega) (by omega) (by rw [hz2]; omega) (by omega)
    rw [hz1, Nat.mul_one, Int.toNat_natCast] at h
    simpa using h
  · have h := World.ownsRow_lit (base := base) (size := 1) (e := 2) W (madeCells (Value.int .i64 0).cells n) n hb (by unfold maxLen; omega) (by rw [size_madeCells]; omega)
    rwa [e] at h

set_option maxHeartbeats 1600000 in
theorem toInts_any (v : Value) (ps : List Int) (w : World) (hn : ps.length ≤ 1048576) (hp : Reads w.heap.size w v (ps.map (Value.int .i64))) :
    Calls Tryz.prog 167 #[v] w fun e w' => e = .returned (.slice (some ⟨w.heap.size, 0, none⟩) ps.length ps.length) ∧ w'.ownsRow w.heap.size 2 1 (.slice (some ⟨w.heap.size, 0, none⟩) ps.length ps.length) ps.length (ps.map (Value.int .i64)) ∧ Below w.heap.size w w' := by
  obtain ⟨o, cap, rfl, hm, hcells, -⟩ := hp
  have HC : Hid (∀ j u, (ps.map (Value.int .i64))[j]? = some u → ∃ g off, o = some ⟨g, off, none⟩ ∧ g < w.heap.size ∧ w.cell? ⟨g, off + j, none⟩ = some u) := hcells
  have hlen : (ps.map (Value.int .i64)).length = ps.length := by simp
  rw [hlen]
  clear hcells hlen hm
  obtain ⟨M, hM, hmk, hown⟩ := made_ints ps.length hn
  have own0 := hown w w.heap.size (Nat.le_refl _)
  have bd0 : Below w.heap.size w (w.alloc (.cells M 2)) := (Below.refl _ _).alloc (Nat.le_refl _) _
  clear hown hM
  go_enter Tryz.func167, Tryz.ntmps167
  go_wp2_with fail
  generalize w.alloc (.cells M 2) = W0 at own0 bd0 ⊢
  generalize hxs : (List.replicate ps.length (0 : Int)).map (Value.int .i64) = xs at own0
  have hMl : xs.length = ps.length := by rw [← hxs]; simp
  clear hmk hxs
  go_loopw [4] (fun i wr => ∃ j : Nat, j ≤ ps.length ∧ i = .int .i64 j ∧ wr.ownsRow w.heap.size 2 1 (.slice (some ⟨w.heap.size, 0, none⟩) ps.length ps.length) ps.length ((ps.take j).map (Value.int .i64) ++ xs.drop j) ∧ Below w.heap.size w wr) (fun i _ => ps.length - (intOf i).toNat)
  case atStart => exact ⟨0, Nat.zero_le _, rfl, by simpa using own0, bd0⟩
  case round =>
    obtain ⟨j, hj, rfl, own, hb⟩ := hrel
    by_cases hlt : j < ps.length
    · obtain ⟨g, off, rfl, hg, hx⟩ := HC.out j (.int .i64 ps[j]) (by simp [hlt])
      have hx1 : wr.cell? ⟨g, off + j, none⟩ = some (.int .i64 ps[j]) := (hb.cell (p := ⟨g, off + j, none⟩) hg).trans hx
      have hc0 := own.cellAt j (by omega)
      have hf := own.frozenAt j
      have hst := (own.stored j (.int .i64 ps[j])).1
      rw [copied_setI ps xs j hlt hMl] at hst
      obtain ⟨u0, hu0⟩ : ∃ u0, ((ps.take j).map (Value.int .i64) ++ xs.drop j)[j]? = some u0 := ⟨_, List.getElem?_eq_getElem (by simp; omega)⟩
      have hc : wr.cell? ⟨w.heap.size, j, none⟩ = some u0 := hc0.trans hu0
      have hb2 : Below w.heap.size w (wr.setCell ⟨w.heap.size, j, none⟩ (.int .i64 ps[j])) := hb.setCell (p := ⟨w.heap.size, j, none⟩) (Nat.le_refl _) _
      have HST : Hid _ := And.intro hst hb2
      clear hst hb2 hc0 hu0 own hx
      generalize ps[j] = x at hx1 HST
      go_wp2_with fail
      go_roundw
      case rel => exact ⟨j + 1, by omega, by go_num, HST.out.1, HST.out.2⟩
      case measure => simp [intOf]; omega
    · obtain rfl : j = ps.length := by omega
      rw [List.take_length, List.drop_of_length_le (by omega), List.append_nil] at own
      go_wp2_with fail
      go_ret
      exact ⟨rfl, own, hb⟩

theorem int_ne {x y : Int} (h : (x != y) = true) : x ≠ y := by simpa using h

theorem int_same {x y : Int} (h : (x != y) = false) : x = y := by simpa using h

set_option maxHeartbeats 800000 in
theorem eqInts_any (v1 v2 : Value) (xs ys : List Int) (w : World) (h1 : Reads w.heap.size w v1 (xs.map (Value.int .i64))) (h2 : Reads w.heap.size w v2 (ys.map (Value.int .i64))) :
    Calls Tryz.prog 169 #[v1, v2] w fun e w' => e = .returned (.bool (decide (xs = ys))) ∧ Below w.heap.size w w' := by
  obtain ⟨o1, cap1, rfl, m1, c1, -⟩ := h1
  obtain ⟨o2, cap2, rfl, m2, c2, -⟩ := h2
  simp only [List.length_map] at m1 m2 c1 c2 ⊢
  by_cases hlen : xs.length = ys.length
  · rw [← hlen]
    have C1 : Hid (∀ j u, (xs.map (Value.int .i64))[j]? = some u → ∃ g off, o1 = some ⟨g, off, none⟩ ∧ g < w.heap.size ∧ w.cell? ⟨g, off + j, none⟩ = some u) := c1
    have C2 : Hid (∀ j u, (ys.map (Value.int .i64))[j]? = some u → ∃ g off, o2 = some ⟨g, off, none⟩ ∧ g < w.heap.size ∧ w.cell? ⟨g, off + j, none⟩ = some u) := c2
    have HL : Hid (xs.length = ys.length) := hlen
    have hle : ys.length ≤ xs.length := by omega
    have hge : xs.length ≤ ys.length := by omega
    unfold maxLen at m1
    clear c1 c2 m2 hlen
    go_enter Tryz.func169, Tryz.ntmps169
    go_wp2
    go_loopw [5] (fun i wr => ∃ k : Nat, k ≤ xs.length ∧ i = .int .i64 k ∧ xs.take k = ys.take k ∧ Below w.heap.size w wr) (fun i _ => xs.length - (intOf i).toNat)
    case atStart => exact ⟨0, Nat.zero_le _, rfl, rfl, Below.refl _ _⟩
    case round =>
      obtain ⟨k, hk, rfl, htk, hb⟩ := hrel
      have HT : Hid (xs.take k = ys.take k) := htk
      clear htk
      by_cases hlt : k < xs.length
      · have hlt2 : k < ys.length := by omega
        obtain ⟨g1, of1, rfl, q1, cc1⟩ := C1.out k (.int .i64 xs[k]) (by simp [hlt])
        obtain ⟨g2, of2, rfl, q2, cc2⟩ := C2.out k (.int .i64 ys[k]) (by simp [hlt2])
        generalize hx : xs[k] = x at cc1
        generalize hy : ys[k] = y at cc2
        have HX : Hid (xs[k] = x) := hx
        have HY : Hid (ys[k] = y) := hy
        clear hx hy C1 C2
        have d1 := (hb.cell (p := ⟨g1, of1 + k, none⟩) q1).trans cc1
        have d2 := (hb.cell (p := ⟨g2, of2 + k, none⟩) q2).trans cc2
        clear cc1 cc2
        go_wp2
        go_quiet (fail)
        go_wp2
        · have hne : x ≠ y := int_ne (by assumption)
          rw [← HX.out, ← HY.out] at hne
          go_ret
          exact ⟨ret_bool (by simp [ne_at xs ys k hlt hlt2 hne]), ⟨hb.os, hb.tape, hb.output, hb.size, hb.block⟩⟩
        · have he : x = y := int_same (by assumption)
          rw [← HX.out, ← HY.out] at he
          go_roundw
          case rel => exact ⟨k + 1, by omega, by go_num, take_more xs ys k hlt hlt2 HT.out he, ⟨hb.os, hb.tape, hb.output, hb.size, hb.block⟩⟩
          case measure => simp [intOf]; omega
      · go_wp2
        go_ret
        exact ⟨ret_bool (by simp [all_taken xs ys k hlt HL.out HT.out]), hb⟩
  · have hn : ((xs.length : Int) != (ys.length : Int)) = true := by rw [bne_iff_ne]; omega
    have HX : Hid (decide (xs = ys) = false) := by rw [Hid, decide_eq_false_iff_not]; intro e; rw [e] at hlen; exact hlen rfl
    unfold maxLen at m1 m2
    clear hlen c1 c2
    go_enter Tryz.func169, Tryz.ntmps169
    go_wp2
    go_ret
    exact ⟨ret_bool HX.out.symm, Below.refl _ _⟩
end Go.Proofs.YtaekdfknkgmfbaaGreatDoor

namespace Go.Proofs.YtaekdfknkgmfbaaGreatDoor
open Go.RowKit

set_option linter.unusedVariables false

set_option maxRecDepth 100000


/-- A box of a pool: its two rows. -/
theorem pool_box (w : World) (v1 v2 : Value) (T : TypeId) : ∃ W0, W0 = w.alloc (.cells #[v1, v2] T) ∧ W0.heap[w.heap.size]? = some (.cells #[v1, v2] T (0, 0)) ∧ Below w.heap.size w W0 ∧ W0.heap.size = w.heap.size + 1 :=
  ⟨_, rfl, heap_alloc_new w _, bw_alloc (Below.refl _ _), by simp⟩

theorem getD_some (xs : List Int) (j : Nat) (h : j < xs.length) : (xs.map (Value.int .i64))[j]? = some (.int .i64 (xs.getD j 0)) := by
  rw [List.getElem?_map, List.getElem?_eq_getElem h, List.getD_eq_getElem?_getD, List.getElem?_eq_getElem h]; rfl

set_option maxHeartbeats 1600000 in
theorem specPoolOk_any (v1 v2 : Value) (cs ps : List Int) (w : World) (h1 : Reads w.heap.size w v1 (cs.map (Value.int .i64))) (h2 : Reads w.heap.size w v2 (ps.map (Value.int .i64))) :
    Calls Tryz.prog 74 #[.agg #[v1, v2]] w fun e w' => e = .returned (.bool (poolOk cs ps)) ∧ Below w.heap.size w w' := by
  obtain ⟨o1, cap1, rfl, m1, c1, -⟩ := h1
  obtain ⟨o2, cap2, rfl, m2, c2, -⟩ := h2
  simp only [List.length_map] at m1 m2 ⊢
  have C1 : Hid (∀ j u, (cs.map (Value.int .i64))[j]? = some u → ∃ g off, o1 = some ⟨g, off, none⟩ ∧ g < w.heap.size ∧ w.cell? ⟨g, off + j, none⟩ = some u) := c1
  have C2 : Hid (∀ j u, (ps.map (Value.int .i64))[j]? = some u → ∃ g off, o2 = some ⟨g, off, none⟩ ∧ g < w.heap.size ∧ w.cell? ⟨g, off + j, none⟩ = some u) := c2
  clear c1 c2
  unfold maxLen at m1 m2
  obtain ⟨W0, hW0, k0, d0, z0⟩ := pool_box w (.slice o1 cs.length cap1) (.slice o2 ps.length cap2) 26
  have HW0 : Hid (W0 = _) := hW0
  have p0 := at_cell k0 0
  have p1 := at_cell k0 1
  clear hW0 k0
  by_cases hl : (decide ((1 : Int) ≤ (cs.length : Int)) && decide ((cs.length : Int) ≤ 24)) = true
  · by_cases he : ps.length = cs.length
    · have hne : ((ps.length : Int) != (cs.length : Int)) = false := by simp [he]
      have hb : 1 ≤ cs.length ∧ cs.length ≤ 24 := by simp at hl; omega
      have HE : Hid (ps.length = cs.length) := he
      have he1 : ps.length ≤ cs.length := by omega
      have he2 : cs.length ≤ ps.length := by omega
      clear he
      go_enter Tryz.func74, Tryz.ntmps74
      go_wp2_with fail
      rw [← HW0.out]
      clear HW0
      refine (l1In_any _ _ _ _).mono ?_
      rintro e w' ⟨rfl, rfl⟩
      rw [hl]
      go_wp2_with fail
      go_loopw [3] (fun i wr => ∃ k : Nat, k ≤ cs.length ∧ i = .int .i64 k ∧ (∀ j, j < k → cellOk (cs.getD j 0) (ps.getD j 0) = true) ∧ wr = w') (fun i _ => cs.length - (intOf i).toNat)
      case atStart => exact ⟨0, Nat.zero_le _, rfl, fun j hj => by omega, rfl⟩
      case round =>
        obtain ⟨k, hk, rfl, hall, rfl⟩ := hrel
        have HA : Hid (∀ j, j < k → cellOk (cs.getD j 0) (ps.getD j 0) = true) := hall
        clear hall
        by_cases hlt : k < cs.length
        · obtain ⟨g1, of1, rfl, q1, cc1⟩ := C1.out k _ (getD_some cs k hlt)
          obtain ⟨g2, of2, rfl, q2, cc2⟩ := C2.out k _ (getD_some ps k (by omega))
          have d1 := (d0.cell (p := ⟨g1, of1 + k, none⟩) q1).trans cc1
          have d2 := (d0.cell (p := ⟨g2, of2 + k, none⟩) q2).trans cc2
          have HN : Hid (cellOk (cs.getD k 0) (ps.getD k 0) = true → ∀ j, j < k + 1 → cellOk (cs.getD j 0) (ps.getD j 0) = true) := fun h j hj => by
            rcases Nat.lt_or_ge j k with q | q
            · exact HA.out j q
            · obtain rfl : j = k := by omega
              exact h
          have HNo : Hid (cellOk (cs.getD k 0) (ps.getD k 0) = false → poolOk cs ps = false) := fun h => poolOk_no cs ps fun q => by rw [q.2.2.2 k hlt] at h; cases h
          clear C1 C2 cc1 cc2 HA
          have hle2 : (k : Int) < (ps.length : Int) := by rw [HE.out]; omega
          generalize cs.getD k 0 = c at *
          generalize ps.getD k 0 = p at *
          have HK : Hid (cellOk c p = ((decide (0 ≤ c) && decide (c ≤ 400)) && (decide (0 ≤ p) && decide (p ≤ 999)) && !(decide (c = 0) && !decide (p = 0)))) := rfl
          cases hc : (decide (0 ≤ c) && decide (c ≤ 400))
          · go_wp2_with fail
            refine (l1In_any _ _ _ _).mono ?_
            rintro e w1 ⟨rfl, rfl⟩
            rw [hc]
            go_wp2_with fail
            go_ret
            exact ⟨ret_bool (HNo.out (by rw [HK.out, hc]; rfl)).symm, d0⟩
          · cases hp : (decide (0 ≤ p) && decide (p ≤ 999))
            · go_wp2_with fail
              refine (l1In_any _ _ _ _).mono ?_
              rintro e w1 ⟨rfl, rfl⟩
              rw [hc]
              go_wp2_with fail
              refine (l1In_any _ _ _ _).mono ?_
              rintro e w1 ⟨rfl, rfl⟩
              rw [hp]
              go_wp2_with fail
              go_ret
              exact ⟨ret_bool (HNo.out (by rw [HK.out, hc, hp]; rfl)).symm, d0⟩
            · by_cases hc0 : c = 0
              · by_cases hp0 : p = 0
                · have HOK : Hid (cellOk c p = true) := by rw [Hid, HK.out, hc, hp]; simp [hp0]
                  subst hc0 hp0
                  go_wp2_with fail
                  refine (l1In_any _ _ _ _).mono ?_
                  rintro e w1 ⟨rfl, rfl⟩
                  go_wp2_with fail
                  refine (l1In_any _ _ _ _).mono ?_
                  rintro e w1 ⟨rfl, rfl⟩
                  go_wp2_with fail
                  go_roundw
                  case rel => exact ⟨k + 1, by omega, by go_num, HN.out HOK.out, by trivial⟩
                  case measure => simp [intOf]; omega
                · have HNO : Hid (cellOk c p = false) := by rw [Hid, HK.out, hc, hp]; simp [hp0, hc0]
                  subst hc0
                  have hp1 : (p != 0) = true := by simpa using hp0
                  go_wp2_with fail
                  refine (l1In_any _ _ _ _).mono ?_
                  rintro e w1 ⟨rfl, rfl⟩
                  go_wp2_with fail
                  refine (l1In_any _ _ _ _).mono ?_
                  rintro e w1 ⟨rfl, rfl⟩
                  rw [hp]
                  go_wp2_with fail
                  go_ret
                  exact ⟨ret_bool (HNo.out HNO.out).symm, d0⟩
              · have HOK : Hid (cellOk c p = true) := by rw [Hid, HK.out, hc, hp]; simp [hc0]
                have hc1 : (c == 0) = false := by simpa using hc0
                go_wp2_with fail
                refine (l1In_any _ _ _ _).mono ?_
                rintro e w1 ⟨rfl, rfl⟩
                rw [hc]
                go_wp2_with fail
                refine (l1In_any _ _ _ _).mono ?_
                rintro e w1 ⟨rfl, rfl⟩
                rw [hp]
                go_wp2_with fail
                go_roundw
                case rel => exact ⟨k + 1, by omega, by go_num, HN.out HOK.out, by trivial⟩
                case measure => simp [intOf]; omega
        · have hv : poolOk cs ps = true := (poolOk_iff cs ps).2 ⟨hb.1, hb.2, HE.out, fun j hj => HA.out j (by omega)⟩
          go_wp2_with fail
          go_ret
          exact ⟨ret_bool hv.symm, d0⟩
    · have hne : ((ps.length : Int) != (cs.length : Int)) = true := by simp; omega
      have hv : poolOk cs ps = false := poolOk_no cs ps fun q => he q.2.2.1
      rw [hv]
      go_enter Tryz.func74, Tryz.ntmps74
      go_wp2_with fail
      rw [← HW0.out]
      clear HW0
      refine (l1In_any _ _ _ _).mono ?_
      rintro e w' ⟨rfl, rfl⟩
      rw [hl]
      go_wp2_with fail
      go_ret
      exact ⟨rfl, d0⟩
  · have hf : (decide ((1 : Int) ≤ (cs.length : Int)) && decide ((cs.length : Int) ≤ 24)) = false := by simpa using hl
    have hv : poolOk cs ps = false := poolOk_no cs ps fun q => hl (by simp; omega)
    rw [hv]
    go_enter Tryz.func74, Tryz.ntmps74
    go_wp2_with fail
    rw [← HW0.out]
    clear HW0
    refine (l1In_any _ _ _ _).mono ?_
    rintro e w' ⟨rfl, rfl⟩
    rw [hf]
    go_wp2_with fail
    go_ret
    exact ⟨rfl, d0⟩
end Go.Proofs.YtaekdfknkgmfbaaGreatDoor

namespace Go.Proofs.YtaekdfknkgmfbaaGreatDoor
open Go.RowKit

set_option linter.unusedVariables false

set_option maxRecDepth 100000


/-- A pool whose two rows are the call's own and lie apart. -/
structure OwnP (base : Nat) (w : World) (v1 v2 : Value) (cs ps : List Int) : Prop where
  c : w.ownsRow base 2 1 v1 cs.length (cs.map (Value.int .i64))
  p : w.ownsRow base 2 1 v2 ps.length (ps.map (Value.int .i64))
  apart : ∀ g, v1.ownBlock = some g → v2.ownBlock ≠ some g

theorem OwnP.below {base : Nat} {w w' : World} {v1 v2 : Value} {cs ps : List Int} (h : OwnP base w v1 v2 cs ps) (b : Below w.heap.size w w') : OwnP base w' v1 v2 cs ps := ⟨owns_below h.c b, owns_below h.p b, h.apart⟩

theorem OwnP.mono {base base' : Nat} {w : World} {v1 v2 : Value} {cs ps : List Int} (h : OwnP base w v1 v2 cs ps) (b : base' ≤ base) : OwnP base' w v1 v2 cs ps := ⟨owns_mono h.c b, owns_mono h.p b, h.apart⟩

theorem OwnP.upto {base c : Nat} {w w' : World} {v1 v2 : Value} {cs ps : List Int} (h : OwnP base w v1 v2 cs ps) (u : Upto c w w') (hc : c < base) : OwnP base w' v1 v2 cs ps := ⟨ownsRow_upto h.c u hc, ownsRow_upto h.p u hc, h.apart⟩

theorem OwnP.r1 {base : Nat} {w : World} {v1 v2 : Value} {cs ps : List Int} (h : OwnP base w v1 v2 cs ps) : Reads w.heap.size w v1 (cs.map (Value.int .i64)) := Reads.of_own h.c

theorem OwnP.r2 {base : Nat} {w : World} {v1 v2 : Value} {cs ps : List Int} (h : OwnP base w v1 v2 cs ps) : Reads w.heap.size w v2 (ps.map (Value.int .i64)) := Reads.of_own h.p

theorem OwnP.nil (base : Nat) (w : World) : OwnP base w (.slice none 0 0) (.slice none 0 0) [] [] := ⟨owns_nil _ _ _ _, owns_nil _ _ _ _, fun g h => by cases h⟩

/-- The memory that a call begins with which takes a pool and answers one: the pool's box, and the answer's. -/
theorem pool_start (w : World) (v1 v2 : Value) : ∃ W0, W0 = (w.alloc (.cells #[v1, v2] 26)).alloc (.cells #[.slice none 0 0, .slice none 0 0] 26) ∧
    W0.heap[w.heap.size]? = some (.cells #[v1, v2] 26 (0, 0)) ∧ W0.heap[w.heap.size + 1]? = some (.cells #[.slice none 0 0, .slice none 0 0] 26 (0, 0)) ∧ Below w.heap.size w W0 ∧ W0.heap.size = w.heap.size + 1 + 1 := by
  have s1 : (w.alloc (.cells #[v1, v2] 26)).heap.size = w.heap.size + 1 := by simp
  have a1 := heap_alloc_new w (.cells #[v1, v2] 26)
  have a2 := heap_alloc_new (w.alloc (.cells #[v1, v2] 26)) (.cells #[.slice none 0 0, .slice none 0 0] 26)
  rw [s1] at a2
  exact ⟨_, rfl, (Below.heap_alloc _ _ _ (by rw [s1]; omega)).trans a1, a2, bw_alloc (bw_alloc (Below.refl _ _)), by simp⟩

/-- The answer's box is written. -/
theorem pool_end (w W : World) (u1 u2 x y : Value) (b : Nat) (cs ps : List Int) (hb : w.heap.size ≤ b) (k : W.heap[b]? = some (.cells #[x, y] 26 (0, 0))) (own : OwnP (b + 1) W u1 u2 cs ps) (d : Below w.heap.size w W) :
    ((W.setCell ⟨b, 0, none⟩ u1).setCell ⟨b, 1, none⟩ u2).heap[b]? = some (.cells #[u1, u2] 26 (0, 0)) ∧ OwnP w.heap.size ((W.setCell ⟨b, 0, none⟩ u1).setCell ⟨b, 1, none⟩ u2) u1 u2 cs ps ∧ Below w.heap.size w ((W.setCell ⟨b, 0, none⟩ u1).setCell ⟨b, 1, none⟩ u2) := by
  obtain ⟨h1, h2⟩ := set_two k u1 u2
  exact ⟨h1, (own.upto h2 (by omega)).mono (by omega), d.trans (h2.toBelow d.size (by omega))⟩

/-- Two rows made one behind the other, and the answer's box written. -/
theorem pair_end {w W0 w5 w6 : World} {v5 v6 : Value} {cs ps : List Int} (d0 : Below w.heap.size w W0) (z0 : W0.heap.size = w.heap.size + 1 + 1) (own5 : w5.ownsRow W0.drew.heap.size 2 1 v5 cs.length (cs.map (Value.int .i64))) (b5 : Below W0.drew.heap.size W0.drew w5)
    (own6 : w6.ownsRow w5.heap.size 2 1 v6 ps.length (ps.map (Value.int .i64))) (b6 : Below w5.heap.size w5 w6) {x y : Value} (k : w6.heap[w.heap.size + 1]? = some (.cells #[x, y] 26 (0, 0))) :
    ((w6.setCell ⟨w.heap.size + 1, 0, none⟩ v5).setCell ⟨w.heap.size + 1, 1, none⟩ v6).heap[w.heap.size + 1]? = some (.cells #[v5, v6] 26 (0, 0)) ∧ OwnP w.heap.size ((w6.setCell ⟨w.heap.size + 1, 0, none⟩ v5).setCell ⟨w.heap.size + 1, 1, none⟩ v6) v5 v6 cs ps ∧ Below w.heap.size w ((w6.setCell ⟨w.heap.size + 1, 0, none⟩ v5).setCell ⟨w.heap.size + 1, 1, none⟩ v6) := by
  have hz : W0.drew.heap.size = w.heap.size + 1 + 1 := z0
  have h5 := b5.size
  refine pool_end w w6 v5 v6 x y (w.heap.size + 1) cs ps (by omega) k ⟨owns_mono (owns_below own5 b6) (by omega), owns_mono own6 (by omega), fun g h1 h2 => ?_⟩ (bw_call (bw_call (bw_drew d0) b5) b6)
  have := (own5.lt g h1).2
  have := (own6.lt g h2).1
  omega

theorem l1Copy_any (v : Value) (xs : List Int) (w : World) (hn : xs.length ≤ 1048576) (h : Reads w.heap.size w v (xs.map (Value.int .i64))) :
    Calls Tryz.prog 159 #[v] w fun e w' => ∃ v' : Value, e = .returned v' ∧ w'.ownsRow w.heap.size 2 1 v' xs.length (xs.map (Value.int .i64)) ∧ v' ≠ .slice none 0 0 ∧ Below w.heap.size w w' := by
  obtain ⟨i0, hi, hz0, hz1, hz2⟩ := info_parts Tryz.infoI64
  obtain ⟨o, cap, rfl, hm, hc, -⟩ := h
  have hl : (xs.map (Value.int .i64)).length = xs.length := by simp
  rw [hl] at hm ⊢
  have own0 : (w.alloc (.cells #[] 2)).ownsRow w.heap.size 2 1 (.slice (some ⟨w.heap.size, 0, none⟩) 0 0) 0 [] := World.ownsRow_lit w #[] 0 (Nat.le_refl _) (Nat.zero_le _) rfl
  have d0 : Below w.heap.size w (w.alloc (.cells #[] 2)) := bw_alloc (Below.refl _ _)
  have HC : Hid (∀ j u, (xs.map (Value.int .i64))[j]? = some u → ∃ g off, o = some ⟨g, off, none⟩ ∧ (w.alloc (.cells #[] 2)).cell? ⟨g, off + j, none⟩ = some u) := fun j u hj => by
    obtain ⟨g, off, e, hg, hx⟩ := hc j u hj
    exact ⟨g, off, e, (d0.cell (p := ⟨g, off + j, none⟩) hg).trans hx⟩
  clear hc hl
  go_enter Tryz.func159, Tryz.ntmps159
  go_wp2_with (at_builtin; refine wpList_append_reads rfl _ _ 24 rfl w.heap.size 2 i0 (.int .i64 0) 1 8 Tryz.underlying24 hi hz0 hz1 hz2 rfl (by decide) _ 0 [] rfl own0 o xs.length cap (xs.map (Value.int .i64)) rfl ?c0 HC.out ?c2 ?c3 ?c4 ?c5 ?_)
  case c0 => simp
  case c2 => intro u hu; simp at hu; obtain ⟨a, _, rfl⟩ := hu; rfl
  case c3 => unfold maxLen; omega
  case c4 => omega
  case c5 => simp
  intro v' w' hown hgrow hnil
  have hown2 : w'.ownsRow w.heap.size 2 1 v' xs.length (xs.map (Value.int .i64)) := by simpa using hown
  have hnn : v' ≠ .slice none 0 0 := hnil
  have hb : Below w.heap.size w w' := d0.grown hgrow (by simp) (fun q hq => (own0.lt q hq).1)
  clear hown hgrow hnil own0 d0 HC
  go_wp2_with fail
  go_ret
  exact ⟨v', rfl, hown2, hnn, hb⟩

set_option maxHeartbeats 1600000 in
theorem l4Copy_any (v1 v2 : Value) (cs ps : List Int) (w : World) (hc : cs.length ≤ 1048576) (hp : ps.length ≤ 1048576) (h1 : Reads w.heap.size w v1 (cs.map (Value.int .i64))) (h2 : Reads w.heap.size w v2 (ps.map (Value.int .i64))) :
    Calls Tryz.prog 133 #[.agg #[v1, v2]] w fun e w' => ∃ u1 u2 : Value, e = .returned (.agg #[u1, u2]) ∧ OwnP w.heap.size w' u1 u2 cs ps ∧ Below w.heap.size w w' := by
  obtain ⟨W0, hW0, k0, k1, d0, z0⟩ := pool_start w v1 v2
  have r1 : Reads W0.drew.heap.size W0.drew v1 (cs.map (Value.int .i64)) := ((h1.below d0).mono d0.size).below ((Below.refl _ _).drew)
  have r2 : Reads W0.drew.heap.size W0.drew v2 (ps.map (Value.int .i64)) := ((h2.below d0).mono d0.size).below ((Below.refl _ _).drew)
  have S0 : W0.drew.cell? ⟨w.heap.size, 0, none⟩ = some v1 ∧ W0.drew.cell? ⟨w.heap.size, 1, none⟩ = some v2 := ⟨at_cell k0 0, at_cell k0 1⟩
  have HW0 : Hid (W0 = _) := hW0
  clear hW0 h1 h2
  go_enter Tryz.func133, Tryz.ntmps133
  go_wp2_with fail
  rw [← HW0.out]
  clear HW0
  obtain ⟨S00, S01⟩ := S0
  go_region_law (go_simp; go_at_call 159; first
      | (have q25 := r25; clear q25; refine (l1Copy_any v2 ps _ hp r25).mono ?_; rintro e w6 ⟨v6, rfl, own6, hn6, b6⟩; obtain ⟨o6, c6, rfl⟩ := own_slice own6; have k60 := (b6.block _ (heap_lt k50)).trans k50; have k61 := (b6.block _ (heap_lt k51)).trans k51; have S60 := at_cell k60 0; have S61 := at_cell k60 1; have q0 := at_cell k61 0; have q1 := at_cell k61 1; have f0 := at_open k61 0; have f1 := at_open k61 1; dsimp only)
      | (refine (l1Copy_any v1 cs _ hc r1).mono ?_; rintro e w5 ⟨v5, rfl, own5, hn5, b5⟩; obtain ⟨o5, c5, rfl⟩ := own_slice own5; have k50 := (b5.block _ (show w.heap.size < W0.heap.size by omega)).trans k0; have k51 := (b5.block _ (show w.heap.size + 1 < W0.heap.size by omega)).trans k1; have S50 := at_cell k50 0; have S51 := at_cell k50 1; have r25 := (r2.below b5).mono b5.size; dsimp only))
  all_goals
    have HS : Hid _ := pair_end d0 z0 own5 b5 own6 b6 k61
    clear own5 own6 b5 b6 k50 k51 k60 k61 S50 S51 S60 S61 q0 q1 f0 f1 r25 r1 r2 S00 S01 k0 k1 hn5 hn6
    go_wp2_with fail
    exact bodyPost_ret (v := .agg #[.slice o5 cs.length c5, .slice o6 ps.length c6]) (by simp [results, Tryz.results133, go_sem, at_cell HS.out.1]) rfl ⟨_, _, rfl, HS.out.2⟩
end Go.Proofs.YtaekdfknkgmfbaaGreatDoor

namespace Go.Proofs.YtaekdfknkgmfbaaGreatDoor
open Go.RowKit

set_option linter.unusedVariables false

set_option maxRecDepth 100000


/-- A pool that is read: its rows. -/
structure RP (B : Nat) (w : World) (v1 v2 : Value) (cs ps : List Int) : Prop where
  c : Reads B w v1 (cs.map (Value.int .i64))
  p : Reads B w v2 (ps.map (Value.int .i64))

theorem RP.below {B : Nat} {w w' : World} {v1 v2 : Value} {cs ps : List Int} (h : RP B w v1 v2 cs ps) (k : Below B w w') : RP B w' v1 v2 cs ps := ⟨h.c.below k, h.p.below k⟩

theorem RP.mono {B B' : Nat} {w : World} {v1 v2 : Value} {cs ps : List Int} (h : RP B w v1 v2 cs ps) (k : B ≤ B') : RP B' w v1 v2 cs ps := ⟨h.c.mono k, h.p.mono k⟩

theorem RP.of {B : Nat} {W : World} {v1 v2 : Value} {cs ps : List Int} (h : RP B W v1 v2 cs ps) (y : B ≤ W.heap.size) (p : BelowOf W) : RP p.w'.heap.size p.w' v1 v2 cs ps := ((h.mono y).below p.h).mono p.h.size

theorem RP.forms {B : Nat} {w : World} {v1 v2 : Value} {cs ps : List Int} (h : RP B w v1 v2 cs ps) : ∃ o1 k1 o2 k2, v1 = .slice o1 cs.length k1 ∧ v2 = .slice o2 ps.length k2 := by
  obtain ⟨⟨o, k, e, -⟩, ⟨o', k', e', -⟩⟩ := h
  exact ⟨o, k, o', k', by rw [e, List.length_map], by rw [e', List.length_map]⟩

theorem OwnP.reads {base : Nat} {w : World} {v1 v2 : Value} {cs ps : List Int} (h : OwnP base w v1 v2 cs ps) : RP w.heap.size w v1 v2 cs ps := ⟨h.r1, h.r2⟩

theorem OwnP.forms {base : Nat} {w : World} {v1 v2 : Value} {cs ps : List Int} (h : OwnP base w v1 v2 cs ps) : ∃ o1 c1 o2 c2, v1 = .slice o1 cs.length c1 ∧ v2 = .slice o2 ps.length c2 := by
  obtain ⟨o1, c1, h1⟩ := own_slice h.c
  obtain ⟨o2, c2, h2⟩ := own_slice h.p
  exact ⟨o1, c1, o2, c2, h1, h2⟩

/-- What is left, or -1; where it is told, neither row was longer than what there was. -/
theorem szPool_any (v1 v2 : Value) (cs ps : List Int) (left : Int) (w : World) (h0 : 0 ≤ left) (hl : left ≤ 1048576) (r : RP w.heap.size w v1 v2 cs ps) :
    Calls Tryz.prog 105 #[.agg #[v1, v2], .int .i64 left] w fun e w' => ∃ q : Int, e = .returned (.int .i64 q) ∧ (q = -1 ∨ (0 ≤ q ∧ q ≤ left ∧ cs.length ≤ 1048576 ∧ ps.length ≤ 1048576)) ∧ Below w.heap.size w w' := by
  obtain ⟨h1, h2⟩ := r
  obtain ⟨o1, cap1, rfl, m1, -, -⟩ := h1
  obtain ⟨o2, cap2, rfl, m2, -, -⟩ := h2
  simp only [List.length_map] at m1 m2 ⊢
  obtain ⟨W0, hW0, k0, d0, z0⟩ := pool_box w (.slice o1 cs.length cap1) (.slice o2 ps.length cap2) 69
  have HW0 : Hid (W0 = _) := hW0
  have p0 := at_cell k0 0
  have p1 := at_cell k0 1
  clear hW0 k0
  go_enter Tryz.func105, Tryz.ntmps105
  go_wp2_with fail
  rw [← HW0.out]
  clear HW0
  refine (szInts_any _ _ _ _ _ h0 hl m1).mono ?_
  rintro e w' ⟨rfl, rfl⟩
  by_cases hb : left < (cs.length : Int)
  · rw [if_pos hb]
    go_wp2_with fail
    go_ret
    exact ⟨-1, rfl, .inl rfl, d0⟩
  · rw [if_neg hb]
    have hl1 : 0 ≤ left - (cs.length : Int) := by omega
    have hl2 : left - (cs.length : Int) ≤ 1048576 := by omega
    go_wp2_with fail
    refine (szInts_any _ _ _ _ _ hl1 hl2 m2).mono ?_
    rintro e w' ⟨rfl, rfl⟩
    by_cases hb2 : left - (cs.length : Int) < (ps.length : Int)
    · rw [if_pos hb2]
      go_wp2_with fail
      go_ret
      exact ⟨-1, rfl, .inl rfl, d0⟩
    · rw [if_neg hb2]
      have hl3 : 0 ≤ left - (cs.length : Int) - (ps.length : Int) := by omega
      go_wp2_with fail
      go_ret
      exact ⟨_, rfl, .inr ⟨hl3, by omega, by omega, by omega⟩, d0⟩

set_option maxHeartbeats 800000 in
theorem toPool_any (v1 v2 : Value) (cs ps : List Int) (w : World) (hc : cs.length ≤ 1048576) (hp : ps.length ≤ 1048576) (r : RP w.heap.size w v1 v2 cs ps) :
    Calls Tryz.prog 107 #[.agg #[v1, v2]] w fun e w' => ∃ u1 u2 : Value, e = .returned (.agg #[u1, u2]) ∧ OwnP w.heap.size w' u1 u2 cs ps ∧ Below w.heap.size w w' := by
  obtain ⟨W0, hW0, k0, k1, k2, d0, z0⟩ := box3 w #[v1, v2] #[.slice none 0 0, .slice none 0 0] #[.slice none 0 0, .slice none 0 0] 69 26 26
  have r0 := r.below d0
  have HW0 : Hid (W0 = _) := hW0
  have z0a : w.heap.size + 1 + 1 + 1 ≤ W0.heap.size := by omega
  clear hW0 r z0
  go_enter Tryz.func107, Tryz.ntmps107
  go_wp2_with fail
  rw [← HW0.out]
  clear HW0
  refine (toInts_any v1 cs _ hc (r0.c.mono d0.size)).mono ?_
  rintro e w1 ⟨rfl, own1, b1⟩
  replace k0 := (b1.block _ (by omega)).trans k0
  replace k1 := (b1.block _ (by omega)).trans k1
  replace k2 := (b1.block _ (by omega)).trans k2
  have z1 := b1.size
  replace d0 := bw_call d0 b1
  replace r0 := r0.below (b1.mono (by omega))
  -- the first row is stored
  have f0 := at_open k2 0
  have c0 := at_cell k2 0
  have u : Upto (w.heap.size + 1 + 1) w1 (w1.setCell ⟨w.heap.size + 1 + 1, 0, none⟩ (.slice (some ⟨W0.heap.size, 0, none⟩) cs.length cs.length)) := (Upto.refl _ _).setCell ⟨w.heap.size + 1 + 1, 0, none⟩ (.inl rfl) _
  have k3 := set_0 k2 (.slice (some ⟨W0.heap.size, 0, none⟩) cs.length cs.length)
  replace k0 := (u.block _ (by omega) (by omega)).trans k0
  replace k1 := (u.block _ (by omega) (by omega)).trans k1
  replace own1 := ownsRow_upto own1 u (by omega)
  replace d0 := d0.trans (u.toBelow (by omega) (by omega))
  replace r0 := r0.below (u.toBelow (by omega) (by omega))
  have z2 := u.size
  have p1 := at_cell k0 1
  clear b1 u k2
  go_wp2_with fail
  generalize w1.setCell ⟨w.heap.size + 1 + 1, 0, none⟩ (.slice (some ⟨W0.heap.size, 0, none⟩) cs.length cs.length) = w2 at *
  clear f0 c0 p1
  refine (toInts_any v2 ps _ hp (r0.p.mono (by omega))).mono ?_
  rintro e w3 ⟨rfl, own3, b3⟩
  replace k1 := (b3.block _ (by omega)).trans k1
  replace k3 := (b3.block _ (by omega)).trans k3
  have own13 := owns_below own1 b3
  have z3 := b3.size
  have hlt : W0.heap.size < w2.heap.size := (own1.lt _ rfl).2
  replace d0 := bw_call d0 b3
  clear own1 k0
  -- the second
  have f0 := at_open k3 1
  have c0 := at_cell k3 1
  have c00 := at_cell k3 0
  have u : Upto (w.heap.size + 1 + 1) w3 (w3.setCell ⟨w.heap.size + 1 + 1, 1, none⟩ (.slice (some ⟨w2.heap.size, 0, none⟩) ps.length ps.length)) := (Upto.refl _ _).setCell ⟨w.heap.size + 1 + 1, 1, none⟩ (.inl rfl) _
  have k4 := set_1 k3 (.slice (some ⟨w2.heap.size, 0, none⟩) ps.length ps.length)
  replace k1 := (u.block _ (by omega) (by omega)).trans k1
  replace own13 := ownsRow_upto own13 u (by omega)
  replace own3 := ownsRow_upto own3 u (by omega)
  replace d0 := d0.trans (u.toBelow (by omega) (by omega))
  have q0 := at_cell k1 0
  have q1 := at_cell k1 1
  have g0 := at_open k1 0
  have g1 := at_open k1 1
  have a0 := at_cell k4 0
  have a1 := at_cell k4 1
  have HS : Hid _ := pool_end w _ _ _ _ _ (w.heap.size + 1) cs ps (by omega) k1 ⟨owns_mono own13 (by omega), owns_mono own3 (by omega), fun g h1 h2 => by simp [Value.ownBlock] at h1 h2; omega⟩ d0
  clear b3 u k1 k3 k4 own13 own3 d0 r0
  go_wp2_with fail
  exact bodyPost_ret (v := .agg #[.slice (some ⟨W0.heap.size, 0, none⟩) cs.length cs.length, .slice (some ⟨w2.heap.size, 0, none⟩) ps.length ps.length]) (by simp [results, Tryz.results107, go_sem, at_cell HS.out.1]) rfl ⟨_, _, rfl, HS.out.2⟩

set_option maxHeartbeats 800000 in
theorem eqPool_any (a1 a2 b1 b2 : Value) (cs ps cs' ps' : List Int) (w : World) (r : RP w.heap.size w a1 a2 cs ps) (r' : RP w.heap.size w b1 b2 cs' ps') :
    Calls Tryz.prog 109 #[.agg #[a1, a2], .agg #[b1, b2]] w fun e w' => e = .returned (.bool (decide (cs = cs') && decide (ps = ps'))) ∧ Below w.heap.size w w' := by
  obtain ⟨W0, hW0, k0, k1, d0, z0⟩ := box2 w #[a1, a2] #[b1, b2] 26 26
  have r0 := (r.below d0).mono d0.size
  have r1 := (r'.below d0).mono d0.size
  have HW0 : Hid (W0 = _) := hW0
  clear hW0 r r'
  go_enter Tryz.func109, Tryz.ntmps109
  go_wp2_with fail
  rw [← HW0.out]
  clear HW0
  refine (eqInts_any a1 b1 cs cs' _ r0.c r1.c).mono ?_
  rintro e w1 ⟨rfl, b⟩
  replace k0 := (b.block _ (by omega)).trans k0
  replace k1 := (b.block _ (by omega)).trans k1
  replace d0 := bw_call d0 b
  replace r0 := (r0.below b).mono b.size
  replace r1 := (r1.below b).mono b.size
  have p0 := at_cell k0 1
  have p1 := at_cell k1 1
  by_cases hc : cs = cs'
  · rw [decide_eq_true hc]
    go_wp2_with fail
    refine (eqInts_any a2 b2 ps ps' _ r0.p r1.p).mono ?_
    rintro e w2 ⟨rfl, b2'⟩
    replace d0 := bw_call d0 b2'
    by_cases hp : ps = ps'
    · rw [decide_eq_true hp]
      have HC : Hid (cs = cs') := hc
      have HP : Hid (ps = ps') := hp
      clear hc hp
      go_wp2_with fail
      go_ret
      exact ⟨ret_bool (by simp [HC.out, HP.out]), d0⟩
    · rw [decide_eq_false hp]
      have HP : Hid (¬ ps = ps') := hp
      clear hc hp
      go_wp2_with fail
      go_ret
      exact ⟨ret_bool (by rw [decide_eq_false HP.out, Bool.and_false]), d0⟩
  · rw [decide_eq_false hc]
    have HP : Hid (¬ cs = cs') := hc
    clear hc
    go_wp2_with fail
    go_ret
    exact ⟨ret_bool (by rw [decide_eq_false HP.out, Bool.false_and]), d0⟩
end Go.Proofs.YtaekdfknkgmfbaaGreatDoor

namespace Go.Proofs.YtaekdfknkgmfbaaGreatDoor
open Go.RowKit

set_option linter.unusedVariables false

set_option maxRecDepth 100000

theorem cnt_out {s : Sf} (h : ShInv s) (i : Nat) (hi : i < s.bs.length) (k : Nat) (h1 : s.cs.length ≤ k) (h2 : k < 24) : s.bs[i].cnt (k : Int) = 0 := by
  have := cntAll_at s.bs i hi (k : Int)
  have := cnt_nonneg s.bs[i] (k : Int)
  have := h.out k h1 h2
  omega

/-- A book is put in its place. -/
theorem ShInv.put {s : Sf} (h : ShInv s) (i : Nat) (hi : i < s.bs.length) (b : Pb) (hok : b.ok = true) (hn : b.nm = s.bs[i].nm) (cs ps : List Int) (hc : Cells s.cs.length cs ps)
    (hcnt : ∀ k, k < s.cs.length → cs.getD k 0 = s.cs.getD k 0 - s.bs[i].cnt (k : Int) + b.cnt (k : Int)) (hout : ∀ k, s.cs.length ≤ k → k < 24 → b.cnt (k : Int) = 0) : ShInv ⟨cs, ps, s.bs.set i b⟩ := by
  have hl := hc.c
  refine ⟨by simp only; rw [hl]; exact h.n1, by simp only; rw [hl]; exact hc, by simpa using h.few, fun x hx => ?_, ?_, fun k hk => ?_, fun k hk hk2 => ?_⟩
  · rcases List.mem_or_eq_of_mem_set hx with hx | rfl
    · exact h.oks x hx
    · exact hok
  · simp only
    rw [List.map_set, hn]
    have : (s.bs.map Pb.nm).set i s.bs[i].nm = s.bs.map Pb.nm := by
      have e : s.bs[i].nm = (s.bs.map Pb.nm)[i]'(by simpa using hi) := by simp
      rw [e, List.set_getElem_self]
    rw [this]
    exact h.srt
  · simp only at hk ⊢
    rw [hl] at hk
    rw [hcnt k hk, cntAll_set s.bs i hi, h.cnt k hk]
  · simp only at hk ⊢
    rw [hl] at hk
    rw [cntAll_set s.bs i hi, h.out k hk hk2, cnt_out h i hi k hk hk2, hout k hk hk2]
    rfl

theorem cutAt_split (l : List Int) (hl : l.length = 16) (n : Nat) (hn : n ≤ 16) : cutAt l n = l.take n ++ List.replicate (16 - n) (-1) := by
  apply List.ext_getElem?
  intro j
  unfold cutAt
  by_cases hj : j < 16
  · rw [List.getElem?_map, List.getElem?_range hj]
    by_cases h : j < n
    · rw [List.getElem?_append_left (by simp; omega), List.getElem?_take_of_lt h, List.getElem?_eq_getElem (by omega)]
      simp only [Option.map_some]
      rw [if_pos (by omega), getD_of l j (by omega)]
    · rw [List.getElem?_append_right (by simp; omega), List.getElem?_replicate, if_pos (by simp; omega)]
      simp only [Option.map_some]
      rw [if_neg (by omega)]
  · rw [List.getElem?_eq_none (by simp; omega), List.getElem?_eq_none (by simp; omega)]

/-- The pages that a book is cut to. -/
theorem cut_pages (rs : List (Int × Int × Int)) (hm : mapOk rs = true) (n : Nat) (hn : n ≤ 16) : mapOk (mapOf (cutAt (pages rs) n)) = true ∧ pages (mapOf (cutAt (pages rs) n)) = cutAt (pages rs) n ∧ endsBy (mapOf (cutAt (pages rs) n)) n = true := by
  have hr := cutAt_range rs hm n
  have h := mapOf_ok (cutAt (pages rs) n) (cutAt_length _ _) hr
  exact ⟨h.1, h.2, ends_of _ (cutAt_length _ _) hr n hn (fun j h1 h2 => by rw [cutAt_get _ _ j h2, if_neg (by omega)]; omega)⟩

theorem Cells.same {n : Nat} {cs ps : List Int} (h : Cells n cs ps) (p : Nat) (hp : p < n) (v : Int) (hv : 0 ≤ v ∧ v ≤ 999) (hc : cs.getD p 0 ≠ 0) : Cells n cs (ps.set p v) :=
  ⟨h.c, by simpa using h.p, fun k hk => by
    rw [getD_set ps p k v (by rw [h.p]; exact hp)]
    have := h.val k hk
    by_cases e : p = k
    · subst e; rw [if_pos rfl]; exact ⟨hv.1, hv.2, fun q => absurd q hc⟩
    · rw [if_neg e]; exact this⟩

theorem Cells.took {n : Nat} {cs ps : List Int} (h : Cells n cs ps) (v : Int) (hv : 0 ≤ v ∧ v ≤ 999) (hf : firstFree cs < cs.length) : Cells n (tookC cs) (tookP cs ps v) ∧ ∀ k, k < n → (tookC cs).getD k 0 = cs.getD k 0 + (if tookAt cs = (k : Int) then 1 else 0) := by
  have hc := h.c
  have h0 := firstFree_at cs hf
  unfold tookC tookP tookAt
  rw [if_pos hf, if_pos hf, if_pos hf]
  have g : ∀ k, (cs.set (firstFree cs) 1).getD k 0 = if firstFree cs = k then 1 else cs.getD k 0 := fun k => getD_set cs _ k _ hf
  refine ⟨⟨by simpa using hc, by simpa using h.p, fun k hk => ?_⟩, fun k hk => ?_⟩
  · rw [g, getD_set ps _ k v (by rw [h.p]; omega)]
    have := h.val k hk
    by_cases e : firstFree cs = k
    · rw [if_pos e, if_pos e]; exact ⟨hv.1, hv.2, fun q => by omega⟩
    · rw [if_neg e, if_neg e]; exact this
  · rw [g]
    by_cases e : firstFree cs = k
    · subst e; rw [if_pos rfl, if_pos rfl]; omega
    · rw [if_neg e, if_neg (by omega)]; omega
end Go.Proofs.YtaekdfknkgmfbaaGreatDoor

namespace Go.Proofs.YtaekdfknkgmfbaaGreatDoor
open Go.RowKit

set_option linter.unusedVariables false

set_option maxRecDepth 100000


/-- What of an op that is right and not refused the shelf wants. -/
theorem op_parts {o : Oq} (h : opOk o = true) : Nums.nameB o.nm.data.toList = true ∧ (1 ≤ o.k ∧ o.k ≤ 9) ∧ (kOther o.k = true → Nums.nameB o.ot.data.toList = true) ∧ (0 ≤ o.at_ ∧ o.at_ ≤ 255) ∧ (kSize o.k = true → 1 ≤ o.va ∧ o.va ≤ 16) ∧ (o.k = 2 → 0 ≤ o.va ∧ o.va ≤ 999) := by
  simp only [opOk, Bool.and_eq_true, inB_iff] at h
  obtain ⟨⟨⟨⟨⟨⟨⟨⟨h1, h2⟩, h3⟩, h4⟩, h5⟩, h6⟩, h7⟩, h8⟩, h9⟩ := h
  refine ⟨h1, h2, fun q => ?_, h6, fun q => ?_, fun q => ?_⟩
  · rw [q] at h4; simpa using h4
  · unfold valOk at h9; rw [if_pos q, inB_iff] at h9; exact h9
  · unfold valOk at h9
    rw [q] at h9
    simp only [kSize] at h9
    rw [if_neg (by decide), if_pos (by trivial), inB_iff] at h9
    exact h9

theorem refused_parts {bs : List Pb} {o : Oq} (h : refused bs o = 0) : (o.k ≠ 1 → 0 ≤ findP bs o.nm) ∧ (o.k = 1 → findP bs o.nm < 0 ∧ bs.length ≠ 6) ∧ (kOther o.k = true → findP bs o.ot < 0 ∧ (o.k ≠ 1 → bs.length ≠ 6)) ∧ (o.k ≠ 1 → kAt o.k = true → o.at_ < (bookAt bs (findP bs o.nm)).sz) ∧ (o.k = 8 → (bookAt bs (findP bs o.nm)).ep ≠ 1000) := by
  unfold refused at h
  split at h
  · omega
  rename_i h1
  split at h
  · omega
  rename_i h2
  have a1 : o.k ≠ 1 → 0 ≤ findP bs o.nm := fun q => by
    by_cases z : findP bs o.nm < 0
    · exact absurd ⟨q, z⟩ h1
    · omega
  have a3 : kOther o.k = true → findP bs o.ot < 0 := fun q => by
    by_cases z : 0 ≤ findP bs o.ot
    · exact absurd (.inr ⟨q, z⟩) h2
    · omega
  have a2 : o.k = 1 → findP bs o.nm < 0 := fun q => by
    by_cases z : 0 ≤ findP bs o.nm
    · exact absurd (.inl ⟨q, z⟩) h2
    · omega
  split at h
  · rename_i h3
    have a4 : bs.length ≠ 6 := fun q => by rw [if_pos q] at h; omega
    exact ⟨a1, fun q => ⟨a2 q, a4⟩, fun q => ⟨a3 q, fun _ => a4⟩, fun q => absurd h3 q, fun q => by omega⟩
  rename_i h3
  split at h
  · omega
  split at h
  · omega
  split at h
  · omega
  rename_i h6
  split at h
  · omega
  rename_i h7
  split at h
  · omega
  rename_i h8
  exact ⟨a1, fun q => absurd q h3, fun q => ⟨a3 q, fun _ z => h7 ⟨q, z⟩⟩, fun _ q => by
    by_cases z : (bookAt bs (findP bs o.nm)).sz ≤ o.at_
    · exact absurd ⟨q, z⟩ h6
    · omega, fun q z => h8 ⟨q, z⟩⟩

theorem filter_count (rs : List (Int × Int × Int)) (hm : mapOk rs = true) (k : Nat) : (pagesOf rs).count (k : Int) = (pages rs).count (k : Int) := by
  unfold pagesOf
  rw [if_pos hm, List.count_filter (by simp)]

/-- What is refused changes nothing, and tells no value; what is wrong is told, and nothing else. -/
theorem do_refused (s : Sf) (o : Oq) (h : (doOp s o).2.1 ≠ 0) : (doOp s o).1 = s ∧ (doOp s o).2.2 = 0 := by
  unfold doOp at h ⊢
  split
  · exact ⟨rfl, rfl⟩
  split
  · exact ⟨rfl, rfl⟩
  rename_i h1 h2
  rw [if_neg h1, if_neg h2] at h
  split at h
  · exact absurd rfl h
  split at h
  · exact absurd rfl h
  split at h
  · exact absurd rfl h
  rename_i h3 h4 h5
  rw [if_neg h3, if_neg h4, if_neg h5]
  generalize (if o.at_ < 16 then (pages (bookAt s.bs (findP s.bs o.nm)).rs).getD o.at_.toNat 0 else -1) = page at h ⊢
  unfold doKind at h ⊢
  split at h
  · exact absurd rfl h
  split at h
  · exact absurd rfl h
  split at h
  · exact absurd rfl h
  split at h
  · split at h <;> exact absurd rfl h
  rename_i k1 k2 k3 k4
  rw [if_neg k1, if_neg k2, if_neg k3, if_neg k4]
  unfold doWrite at h ⊢
  split at h
  · exact absurd rfl h
  split at h
  · exact absurd rfl h
  rename_i m1 m2
  rw [if_neg m1, if_neg m2]
  exact ⟨rfl, rfl⟩
end Go.Proofs.YtaekdfknkgmfbaaGreatDoor

namespace Go.Proofs.YtaekdfknkgmfbaaGreatDoor
open Go.RowKit

set_option linter.unusedVariables false

set_option maxRecDepth 100000


def Bk.pb (b : Bk) : Pb := ⟨b.nm, b.sz, b.rs, b.fx, b.ep⟩

theorem sorted_adj : ∀ (l : List ByteArray), (∀ (j : Nat) (h1 : j + 1 < l.length), ltB (l[j]'(by omega)) l[j + 1] = true) → sortedB l = true
  | [], _ => rfl
  | [a], _ => rfl
  | a :: b :: t, h => by
    rw [sortedB, Bool.and_eq_true]
    refine ⟨h 0 (by simp), sorted_adj (b :: t) (fun j h1 => ?_)⟩
    have := h (j + 1) (by simp at h1 ⊢; omega)
    simpa using this

theorem sorted_not (l : List ByteArray) (j : Nat) (h1 : j + 1 < l.length) (h : ltB (l[j]'(by omega)) l[j + 1] = false) : sortedB l = false := by
  rw [Bool.eq_false_iff]
  intro q
  have := List.pairwise_iff_getElem.1 ((sorted_iff l).1 q) j (j + 1) (by omega) h1 (by omega)
  rw [h] at this
  cases this

theorem shelf_no_pool (s : Sf) (h : poolOk s.cs s.ps = false) : shelfOk s = false := by simp [shelfOk, h]

theorem shelf_no_many (s : Sf) (h : 6 < s.bs.length) : shelfOk s = false := by
  have : decide (s.bs.length ≤ 6) = false := decide_eq_false (by omega)
  simp [shelfOk, this]

theorem shelf_no_book (s : Sf) (i : Nat) (hi : i < s.bs.length) (h : s.bs[i].ok = false) : shelfOk s = false := by
  have : s.bs.all Pb.ok = false := by
    rw [Bool.eq_false_iff]
    intro q
    have := List.all_eq_true.1 q _ (List.getElem_mem hi)
    rw [h] at this
    cases this
  simp [shelfOk, this]

theorem shelf_no_order (s : Sf) (i : Nat) (hi : i + 1 < s.bs.length) (h : ltB s.bs[i].nm s.bs[i + 1].nm = false) : shelfOk s = false := by
  have := sorted_not (s.bs.map Pb.nm) i (by simpa using hi) (by simpa using h)
  simp [shelfOk, this]

theorem shelf_no_count (s : Sf) (k : Nat) (hk : k < 24) (h : (k < s.cs.length ∧ cntAll s.bs (k : Int) ≠ s.cs.getD k 0) ∨ (s.cs.length ≤ k ∧ 0 < cntAll s.bs (k : Int))) : shelfOk s = false := by
  have : countsOk s.cs s.bs = false := by
    rw [Bool.eq_false_iff]
    intro q
    have := List.all_eq_true.1 q k (List.mem_range.2 hk)
    rcases h with ⟨h1, h2⟩ | ⟨h1, h2⟩
    · rw [if_pos h1, decide_eq_true_eq] at this
      exact h2 this
    · rw [if_neg (by omega), decide_eq_true_eq] at this
      omega
  simp [shelfOk, this]

theorem shelf_yes (s : Sf) (h1 : poolOk s.cs s.ps = true) (h2 : s.bs.length ≤ 6) (h3 : ∀ (i : Nat) (hi : i < s.bs.length), s.bs[i].ok = true) (h4 : ∀ (i : Nat) (hi : i + 1 < s.bs.length), ltB (s.bs[i]'(by omega)).nm s.bs[i + 1].nm = true)
    (h5 : ∀ k, k < 24 → ¬ ((k < s.cs.length ∧ cntAll s.bs (k : Int) ≠ s.cs.getD k 0) ∨ (s.cs.length ≤ k ∧ 0 < cntAll s.bs (k : Int)))) : shelfOk s = true := by
  unfold shelfOk
  rw [Bool.and_eq_true, Bool.and_eq_true, Bool.and_eq_true, Bool.and_eq_true]
  refine ⟨⟨⟨⟨h1, decide_eq_true h2⟩, List.all_eq_true.2 (fun b hb => ?_)⟩, sorted_adj _ (fun j hj => by simpa using h4 j (by simpa using hj))⟩, List.all_eq_true.2 (fun k hk => ?_)⟩
  · obtain ⟨i, hi, rfl⟩ := List.getElem_of_mem hb
    exact h3 i hi
  · have hk := List.mem_range.1 hk
    have := h5 k hk
    split
    · rename_i hl
      refine decide_eq_true ?_
      by_cases e : cntAll s.bs (k : Int) = s.cs.getD k 0
      · exact e
      · exact absurd (.inl ⟨hl, e⟩) this
    · rename_i hl
      refine decide_eq_true ?_
      have h0 := cntAll_nonneg s.bs (k : Int)
      by_cases e : 0 < cntAll s.bs (k : Int)
      · exact absurd (.inr ⟨by omega, e⟩) this
      · omega

/-- A row of 24 counts. -/
def row24 (f : Nat → Int) : List Int := (List.range 24).map f

theorem row24_length (f : Nat → Int) : (row24 f).length = 24 := by simp [row24]

theorem row24_get (f : Nat → Int) (k : Nat) (h : k < 24) : (row24 f).getD k 0 = f k := by
  rw [getD_of _ k (by rw [row24_length]; exact h)]
  simp [row24]

theorem row24_set (f : Nat → Int) (m : Nat) (hm : m < 24) (v : Int) : (row24 f).set m v = row24 (fun k => if m = k then v else f k) := by
  apply List.ext_getElem (by simp [row24])
  intro k h1 h2
  rw [List.getElem_set]
  by_cases e : m = k
  · subst e; simp [row24]
  · simp [row24, e]

theorem row24_zero : List.replicate 24 (0 : Int) = row24 (fun _ => 0) := by decide

theorem row24_congr (f g : Nat → Int) (h : ∀ k, k < 24 → f k = g k) : row24 f = row24 g := by
  unfold row24
  exact List.map_congr_left (fun k hk => h k (List.mem_range.1 hk))

theorem count_take (l : List Int) (j : Nat) (hj : j < l.length) (k : Int) : ((l.take (j + 1)).count k : Int) = ((l.take j).count k : Int) + (if l[j] = k then 1 else 0) := by
  rw [List.take_succ_eq_append_getElem hj, List.count_append, List.count_singleton]
  by_cases e : l[j] = k
  · rw [if_pos (by rw [beq_iff_eq]; exact e), if_pos e]; omega
  · rw [if_neg (by rw [beq_iff_eq]; exact e), if_neg e]; omega

theorem cntAll_take (bs : List Pb) (i : Nat) (hi : i < bs.length) (p : Int) : cntAll (bs.take (i + 1)) p = cntAll (bs.take i) p + bs[i].cnt p := by
  rw [List.take_succ_eq_append_getElem hi, cntAll_append, cntAll_cons]
  have : cntAll ([] : List Pb) p = 0 := rfl
  omega

theorem pagesOf_cnt (b : Pb) (h : b.ok = true) (k : Nat) : ((pagesOf b.rs).count (k : Int) : Int) = b.cnt (k : Int) := by
  rw [filter_count _ (book_parts h).2.2.2.1]
  rfl

theorem pagesOf_in (rs : List (Int × Int × Int)) (h : mapOk rs = true) (p : Int) (hp : p ∈ pagesOf rs) : 0 ≤ p ∧ p ≤ 23 := by
  unfold pagesOf at hp
  rw [if_pos h, List.mem_filter, decide_eq_true_eq] at hp
  obtain ⟨j, hj, e⟩ := (mem_getD _ (pages_length _) p).1 hp.1
  have := (pages_range rs h j hj).2
  omega
end Go.Proofs.YtaekdfknkgmfbaaGreatDoor

