/-
  Chapter 5: the program's pages by place.
-/
import Derived.Test.YtombgdjklajanabImMap2
import Derived.Test.YtombgdjklajanabArr
namespace Go.Proofs.Ytombgdjklajanab
open Go.RowKit
set_option linter.unusedVariables false

def negs (k : Nat) : List Int := List.replicate k (-1) ++ List.replicate (16 - k) 0
theorem negs_step (k : Nat) (h : k < 16) : (negs k).set k (-1) = negs (k + 1) := by
  have h16 : k = 0 ∨ k = 1 ∨ k = 2 ∨ k = 3 ∨ k = 4 ∨ k = 5 ∨ k = 6 ∨ k = 7 ∨ k = 8 ∨ k = 9 ∨ k = 10 ∨ k = 11 ∨ k = 12 ∨ k = 13 ∨ k = 14 ∨ k = 15 := by omega
  rcases h16 with rfl | rfl | rfl | rfl | rfl | rfl | rfl | rfl | rfl | rfl | rfl | rfl | rfl | rfl | rfl | rfl <;> rfl
def zeros16 : Array Value := #[.int .i64 0, .int .i64 0, .int .i64 0, .int .i64 0, .int .i64 0, .int .i64 0, .int .i64 0, .int .i64 0, .int .i64 0, .int .i64 0, .int .i64 0, .int .i64 0, .int .i64 0, .int .i64 0, .int .i64 0, .int .i64 0]
theorem negs_length (k : Nat) (h : k ≤ 16) : (negs k).length = 16 := by simp [negs]; omega

theorem info16 : (Try.prog.info? 62).map (·.size) = some 16 := by kernel_rfl

set_option maxHeartbeats 3200000 in
theorem pageByPlace_any (v : Value) (rs : List (Int × Int × Int)) (w : World) (hok : mapOk rs = true) (r : ReadsR 3 runC w.heap.size w v rs) :
    Calls Try.prog 48 #[v] w fun e w' => ∃ c : Array Value, e = .returned (.agg c) ∧ c.toList = (pages rs).map (Value.int .i64) ∧ Below w.heap.size w w' := by
  obtain ⟨o, cap, rfl, hm, hc, -⟩ := r
  have HC : Hid _ := three_cells hc
  have HM : Hid _ := okFrom_mem rs 0 none (mapOk_from hok) (by omega)
  unfold maxLen at hm
  clear hc hok
  go_enter Try.func48, Try.ntmps48
  go_wp2_with fail
  have own0 : ((w.alloc (.cells zeros16 62)).alloc (.cells zeros16 62)).ownsRow (w.heap.size + 1) 62 1 (.slice (some ⟨w.heap.size + 1, 0, none⟩) 16 16) 16 ((negs 0).map (Value.int .i64)) := by
    have h := World.ownsRow_lit (e := 62) (size := 1) (base := w.heap.size + 1) (w.alloc (.cells zeros16 62)) zeros16 16 (by simp) (by unfold maxLen; omega) rfl
    have e0 : (w.alloc (.cells zeros16 62)).heap.size = w.heap.size + 1 := by simp
    rw [e0] at h
    exact h
  have k0 : ((w.alloc (.cells zeros16 62)).alloc (.cells zeros16 62)).heap[w.heap.size]? = some (.cells zeros16 62 (0, 0)) :=
    ((bw_alloc (o := .cells zeros16 62) (Below.refl (w.alloc (.cells zeros16 62)).heap.size (w.alloc (.cells zeros16 62)))).block w.heap.size (by simp)).trans (heap_alloc_new w _)
  have d0 : Below w.heap.size w ((w.alloc (.cells zeros16 62)).alloc (.cells zeros16 62)) := bw_alloc (bw_alloc (Below.refl _ _))
  go_loopw [9] (fun i wr => ∃ (k : Nat), k ≤ 16 ∧ i = .int .i64 k ∧ wr.ownsRow (w.heap.size + 1) 62 1 (.slice (some ⟨w.heap.size + 1, 0, none⟩) 16 16) 16 ((negs k).map (Value.int .i64)) ∧ wr.heap[w.heap.size]? = some (.cells zeros16 62 (0, 0)) ∧ Below w.heap.size w wr) (fun i _ => 16 - (intOf i).toNat)
  case atStart => exact ⟨0, Nat.zero_le _, rfl, own0, k0, d0⟩
  case round =>
    clear own0 k0 d0
    obtain ⟨k, hk, rfl, own, kA, hb⟩ := hrel
    by_cases hlt : k < 16
    · have hk1 : (k : Int) < 16 := by omega
      have hk0 : (0 : Int) ≤ (k : Int) := by omega
      have t0 := own.cellAt k (by omega)
      have t1 := own.frozenAt k
      have hnl := negs_length k hk
      rw [List.getElem?_map, List.getElem?_eq_getElem (show k < (negs k).length by omega)] at t0
      simp only [Option.map_some] at t0
      obtain ⟨hst, hgr⟩ := own.stored k (.int .i64 (-1))
      rw [← List.map_set, negs_step k hlt] at hst
      have kA' := (hgr.block w.heap.size (heap_lt kA) (by simp)).trans kA
      have hbf : Below w.heap.size w (wr.setCell ⟨w.heap.size + 1, k, none⟩ (.int .i64 (-1))) := bw_set (p := ⟨w.heap.size + 1, k, none⟩) hb (by simp) _
      have HO : Hid _ := And.intro hst (And.intro kA' hbf)
      generalize (negs k)[k] = y at t0
      clear hst hgr kA' hbf own hnl kA
      go_wp2_with fail
      go_roundw
      case rel => exact ⟨k + 1, by omega, by go_num, HO.out.1, HO.out.2.1, HO.out.2.2⟩
      case measure => simp [intOf]; omega
    · obtain rfl : k = 16 := by omega
      have e16 : negs 16 = none16 := rfl
      rw [e16] at own
      go_wp2_with fail
      go_loopw [17] (fun i wr2 => ∃ (q : Nat), q ≤ rs.length ∧ i = .int .i64 q ∧ wr2.ownsRow (w.heap.size + 1) 62 1 (.slice (some ⟨w.heap.size + 1, 0, none⟩) 16 16) 16 (((rs.take q).foldl layRun none16).map (Value.int .i64)) ∧ wr2.heap[w.heap.size]? = some (.cells zeros16 62 (0, 0)) ∧ Below w.heap.size w wr2) (fun i _ => rs.length - (intOf i).toNat)
      case atStart => exact ⟨0, Nat.zero_le _, rfl, own, kA, hb⟩
      case round =>
        clear own hb kA
        obtain ⟨q, hq, rfl, own, kA, hb⟩ := hrel
        by_cases hlt2 : q < rs.length
        · obtain ⟨g1, off, rfl, hg1, a0, a1, a2⟩ := HC.out q hlt2
          have hr := HM.out rs[q] (List.getElem_mem hlt2)
          have HTF : Hid _ := take_fold rs q hlt2
          have hl16 : ((rs.take q).foldl layRun none16).length = 16 := by rw [foldl_length]; rfl
          generalize (rs.take q).foldl layRun none16 = L at own HTF hl16
          generalize rs[q] = x at a0 a1 a2 hr HTF
          obtain ⟨f, c, p⟩ := x
          simp only at a0 a1 a2 hr
          obtain ⟨F, rfl⟩ := Int.eq_ofNat_of_zero_le hr.1
          obtain ⟨C, rfl⟩ := Int.eq_ofNat_of_zero_le (show 0 ≤ c by omega)
          have HL : Hid (L.length = 16) := hl16
          replace a0 := (hb.cell (p := ⟨g1, off + q * 3, none⟩) hg1).trans a0
          replace a1 := (hb.cell (p := ⟨g1, off + q * 3 + 1, none⟩) hg1).trans a1
          replace a2 := (hb.cell (p := ⟨g1, off + q * 3 + 2, none⟩) hg1).trans a2
          have own2 : (wr.alloc (.cells #[.int .i64 (F : Int), .int .i64 (C : Int), .int .i64 p] 66)).ownsRow (w.heap.size + 1) 62 1 (.slice (some ⟨w.heap.size + 1, 0, none⟩) 16 16) 16 ((lay L F p 0).map (Value.int .i64)) := own.alloc _
          have bsz := (own.lt (w.heap.size + 1) rfl).2
          have kA2 := (Below.block (bw_alloc (o := .cells #[.int .i64 (F : Int), .int .i64 (C : Int), .int .i64 p] 66) (Below.refl wr.heap.size wr)) _ (heap_lt kA)).trans kA
          have kB2 := heap_alloc_new wr (.cells #[.int .i64 (F : Int), .int .i64 (C : Int), .int .i64 p] 66)
          have hb2 : Below w.heap.size w (wr.alloc (.cells #[.int .i64 (F : Int), .int .i64 (C : Int), .int .i64 p] 66)) := bw_alloc hb
          have hbB : w.heap.size + 1 < wr.heap.size := bsz
          clear hl16 own kA hb
          go_wp2_with fail
          generalize wr.alloc (.cells #[.int .i64 (F : Int), .int .i64 (C : Int), .int .i64 p] 66) = W5 at *
          generalize wr.heap.size = nB at *
          go_loopw [23] (fun i wr3 => ∃ (k : Nat), k ≤ C ∧ i = .int .i64 k ∧ wr3.ownsRow (w.heap.size + 1) 62 1 (.slice (some ⟨w.heap.size + 1, 0, none⟩) 16 16) 16 ((lay L F p k).map (Value.int .i64)) ∧ wr3.heap[w.heap.size]? = some (.cells zeros16 62 (0, 0)) ∧ wr3.heap[nB]? = some (.cells #[.int .i64 (F : Int), .int .i64 (C : Int), .int .i64 p] 66 (0, 0)) ∧ Below w.heap.size w wr3) (fun i _ => C - (intOf i).toNat)
          case atStart => exact ⟨0, Nat.zero_le _, rfl, own2, kA2, kB2, hb2⟩
          case round =>
            clear own2 kA2 kB2 hb2
            obtain ⟨k, hk2, rfl, own, kA, kB, hb⟩ := hrel
            by_cases hlt3 : k < C
            · have hll : (lay L F p k).length = 16 := by rw [lay_length]; exact HL.out
              have t0 := own.cellAt (F + k) (by omega)
              have t1 := own.frozenAt (F + k)
              rw [List.getElem?_map, List.getElem?_eq_getElem (show F + k < (lay L F p k).length by omega)] at t0
              simp only [Option.map_some] at t0
              obtain ⟨hst, hgr⟩ := own.stored (F + k) (.int .i64 (p + k))
              rw [← List.map_set] at hst
              have kA' := (hgr.block w.heap.size (heap_lt kA) (by simp)).trans kA
              have kB' := (hgr.block nB (heap_lt kB) (by simp; omega)).trans kB
              have hbf : Below w.heap.size w (wr.setCell ⟨w.heap.size + 1, F + k, none⟩ (.int .i64 (p + k))) := bw_set (p := ⟨w.heap.size + 1, F + k, none⟩) hb (by simp) _
              have HO : Hid _ := And.intro hst (And.intro kA' (And.intro kB' hbf))
              have b0 := at_cell kB 0
              have b1 := at_cell kB 1
              have b2 := at_cell kB 2
              generalize (lay L F p k)[F + k] = y at t0
              clear hst hgr kA' kB' hbf own hll kA kB
              have hi0 : (0 : Int) ≤ (F : Int) + (k : Int) := by omega
              have hi1 : (F : Int) + (k : Int) < 16 := by omega
              have hw1 : IntKind.i64.wrap ((F : Int) + (k : Int)) = (F : Int) + (k : Int) := by rw [IntKind.wrap_i64]; omega
              have hw2 : IntKind.i64.wrap (p + (k : Int)) = p + (k : Int) := by rw [IntKind.wrap_i64]; omega
              have hw3 : ((F : Int) + (k : Int)).toNat = F + k := by omega
              go_wp2_with fail
              go_roundw
              case rel => exact ⟨k + 1, by omega, by go_num, HO.out.1, HO.out.2.1, HO.out.2.2.1, HO.out.2.2.2⟩
              case measure => simp [intOf]; omega
            · obtain rfl : k = C := by omega
              have e2 : ((rs.take (q + 1)).foldl layRun none16) = lay L F p k := by rw [HTF.out]; rfl
              rw [← e2] at own
              have HO : Hid _ := own
              clear own e2
              go_wp2_with fail
              go_roundw
              case rel => exact ⟨q + 1, by omega, by go_num, HO.out, kA, hb⟩
              case measure => simp [intOf]; omega
        · have hfin : rs.take q = rs := List.take_of_length_le (by omega)
          rw [hfin] at own
          obtain ⟨cur, hcur, hcl⟩ := own_cells own
          have hcs : cur.size = 16 := by rw [← Array.length_toList, hcl, List.length_map]; exact pages_length rs
          have HCL : Hid (cur.toList = (pages rs).map (Value.int .i64)) := hcl
          have H1 : Hid (cur.all (·.oneCell') = true) := one_cells _ cur hcl
          have HI : Hid ((Try.prog.info? 62).map (·.size) = some cur.size) := by rw [hcs]; exact info16
          have HZ : Hid (zeros16.size = cur.size) := by rw [hcs]; rfl
          have HCUR : Hid _ := hcur
          have HKA : Hid _ := kA
          have hbS : Below w.heap.size w (wr.setRow w.heap.size cur) := hb.trans (setRow_below (Nat.le_refl _))
          have hrow := setRow_row (cs := cur) kA
          have HLD : Hid _ := run_loadVar_row (P := Try.prog) _ w.heap.size 62 62 cur (0, 0) _ hrow Try.underlying62 rfl HI.out
          clear own hfin hcur hcl kA hcs hrow
          go_wp2_with (first | (with_reducible refine wpList_load_arr rfl _ 62 rfl (w.heap.size + 1) rfl cur 62 (0, 0) HCUR.out _ Try.underlying62 rfl HI.out ?_) | (with_reducible refine wpList_store_arr rfl _ _ 62 rfl w.heap.size rfl cur rfl zeros16 62 HKA.out HI.out HZ.out H1.out ?_))
          refine bodyPost_ret (v := .agg cur) ?_ rfl ⟨cur, rfl, HCL.out, hbS⟩
          simp [results, Try.results48, asAddr, Act.put, HLD.out]

end Go.Proofs.Ytombgdjklajanab
