/-
  Contracts and plain laws, one chapter behind the other.
-/
import Derived.Lib.LazyBuf
import Derived.Deep.DeepCutAuto
import Derived.Deep.RegionHeld3
import Derived.Test.YtchlkdhnjejgnaaM05
import Derived.Test.YtchlkdhnjejgnaaM07
import Derived.Test.YtchlkdhnjejgnaaM08
import Derived.Test.YtchlkdhnjejgnaaM09
import Derived.Test.YtchlkdhnjejgnaaM10
import Derived.Test.YtchlkdhnjejgnaaM12
import Derived.Test.YtchlkdhnjejgnaaM13
import Derived.Test.YtchlkdhnjejgnaaM14
import Derived.Test.YtchlkdhnjejgnaaM16
import Derived.Test.YtchlkdhnjejgnaaM23
import Derived.Test.YtchlkdhnjejgnaaM24
import Derived.Test.YtchlkdhnjejgnaaM25
namespace Go.Proofs.Ytchlkdhnjejgnaa
open Go.RowKit

set_option linter.unusedVariables false

set_option maxRecDepth 100000


def negs (k : Nat) : List Int := List.replicate k (-1) ++ List.replicate (16 - k) 0

theorem negs_step (k : Nat) (h : k < 16) : (negs k).set k (-1) = negs (k + 1) := by
  have h16 : k = 0 ∨ k = 1 ∨ k = 2 ∨ k = 3 ∨ k = 4 ∨ k = 5 ∨ k = 6 ∨ k = 7 ∨ k = 8 ∨ k = 9 ∨ k = 10 ∨ k = 11 ∨ k = 12 ∨ k = 13 ∨ k = 14 ∨ k = 15 := by omega
  rcases h16 with rfl | rfl | rfl | rfl | rfl | rfl | rfl | rfl | rfl | rfl | rfl | rfl | rfl | rfl | rfl | rfl <;> rfl

def zeros16 : Array Value := #[.int .i64 0, .int .i64 0, .int .i64 0, .int .i64 0, .int .i64 0, .int .i64 0, .int .i64 0, .int .i64 0, .int .i64 0, .int .i64 0, .int .i64 0, .int .i64 0, .int .i64 0, .int .i64 0, .int .i64 0, .int .i64 0]

theorem negs_length (k : Nat) (h : k ≤ 16) : (negs k).length = 16 := by simp [negs]; omega

theorem info16 : (Try.prog.info? 144).map (·.size) = some 16 := by kernel_rfl

set_option maxHeartbeats 3200000 in
theorem pageByPlace_any (v : Value) (rs : List (Int × Int × Int)) (w : World) (hok : mapOk rs = true) (r : ReadsR 3 runC w.heap.size w v rs) :
    Calls Try.prog 112 #[v] w fun e w' => ∃ c : Array Value, e = .returned (.agg c) ∧ c.toList = (pages rs).map (Value.int .i64) ∧ Below w.heap.size w w' := by
  obtain ⟨o, cap, rfl, hm, hc, -⟩ := r
  have HC : Hid _ := three_cells hc
  have HM : Hid _ := okFrom_mem rs 0 none (mapOk_from hok) (by omega)
  unfold maxLen at hm
  clear hc hok
  go_enter Try.func112, Try.ntmps112
  go_wp2_with fail
  have own0 : ((w.alloc (.cells zeros16 144)).alloc (.cells zeros16 144)).ownsRow (w.heap.size + 1) 144 1 (.slice (some ⟨w.heap.size + 1, 0, none⟩) 16 16) 16 ((negs 0).map (Value.int .i64)) := by
    have h := World.ownsRow_lit (e := 144) (size := 1) (base := w.heap.size + 1) (w.alloc (.cells zeros16 144)) zeros16 16 (by simp) (by unfold maxLen; omega) rfl
    have e0 : (w.alloc (.cells zeros16 144)).heap.size = w.heap.size + 1 := by simp
    rw [e0] at h
    exact h
  have k0 : ((w.alloc (.cells zeros16 144)).alloc (.cells zeros16 144)).heap[w.heap.size]? = some (.cells zeros16 144 (0, 0)) :=
    ((bw_alloc (o := .cells zeros16 144) (Below.refl (w.alloc (.cells zeros16 144)).heap.size (w.alloc (.cells zeros16 144)))).block w.heap.size (by simp)).trans (heap_alloc_new w _)
  have d0 : Below w.heap.size w ((w.alloc (.cells zeros16 144)).alloc (.cells zeros16 144)) := bw_alloc (bw_alloc (Below.refl _ _))
  go_loopw [9] (fun i wr => ∃ (k : Nat), k ≤ 16 ∧ i = .int .i64 k ∧ wr.ownsRow (w.heap.size + 1) 144 1 (.slice (some ⟨w.heap.size + 1, 0, none⟩) 16 16) 16 ((negs k).map (Value.int .i64)) ∧ wr.heap[w.heap.size]? = some (.cells zeros16 144 (0, 0)) ∧ Below w.heap.size w wr) (fun i _ => 16 - (intOf i).toNat)
  case atStart => exact ⟨0, Nat.zero_le _, rfl, own0, k0, d0⟩
  case round =>
    clear own0 k0 d0
    obtain ⟨k, hk, rfl, own, kA, hb⟩ := hrel
    by_cases hlt : k < 16
    · have hk1 : (k : Int) < 16 := by omega
      have hk0 : (0 : Int) ≤ (k : Int) := by omega
      have t0 := own.cellAt k (by omega)
      have t1 := own.frozenAt k
      have hnl := negs_length k hk
      rw [List.getElem?_map, List.getElem?_eq_getElem (show k < (negs k).length by omega)] at t0
      simp only [Option.map_some] at t0
      obtain ⟨hst, hgr⟩ := own.stored k (.int .i64 (-1))
      rw [← List.map_set, negs_step k hlt] at hst
      have kA' := (hgr.block w.heap.size (heap_lt kA) (by simp)).trans kA
      have hbf : Below w.heap.size w (wr.setCell ⟨w.heap.size + 1, k, none⟩ (.int .i64 (-1))) := bw_set (p := ⟨w.heap.size + 1, k, none⟩) hb (by simp) _
      have HO : Hid _ := And.intro hst (And.intro kA' hbf)
      generalize (negs k)[k] = y at t0
      clear hst hgr kA' hbf own hnl kA
      go_wp2_with fail
      go_roundw
      case rel => exact ⟨k + 1, by omega, by go_num, HO.out.1, HO.out.2.1, HO.out.2.2⟩
      case measure => simp [intOf]; omega
    · obtain rfl : k = 16 := by omega
      have e16 : negs 16 = none16 := rfl
      rw [e16] at own
      go_wp2_with fail
      go_loopw [17] (fun i wr2 => ∃ (q : Nat), q ≤ rs.length ∧ i = .int .i64 q ∧ wr2.ownsRow (w.heap.size + 1) 144 1 (.slice (some ⟨w.heap.size + 1, 0, none⟩) 16 16) 16 (((rs.take q).foldl layRun none16).map (Value.int .i64)) ∧ wr2.heap[w.heap.size]? = some (.cells zeros16 144 (0, 0)) ∧ Below w.heap.size w wr2) (fun i _ => rs.length - (intOf i).toNat)
      case atStart => exact ⟨0, Nat.zero_le _, rfl, own, kA, hb⟩
      case round =>
        clear own hb kA
        obtain ⟨q, hq, rfl, own, kA, hb⟩ := hrel
        by_cases hlt2 : q < rs.length
        · obtain ⟨g1, off, rfl, hg1, a0, a1, a2⟩ := HC.out q hlt2
          have hr := HM.out rs[q] (List.getElem_mem hlt2)
          have HTF : Hid _ := take_fold rs q hlt2
          have hl16 : ((rs.take q).foldl layRun none16).length = 16 := by rw [foldl_length]; rfl
          generalize (rs.take q).foldl layRun none16 = L at own HTF hl16
          generalize rs[q] = x at a0 a1 a2 hr HTF
          obtain ⟨f, c, p⟩ := x
          simp only at a0 a1 a2 hr
          obtain ⟨F, rfl⟩ := Int.eq_ofNat_of_zero_le hr.1
          obtain ⟨C, rfl⟩ := Int.eq_ofNat_of_zero_le (show 0 ≤ c by omega)
          have HL : Hid (L.length = 16) := hl16
          replace a0 := (hb.cell (p := ⟨g1, off + q * 3, none⟩) hg1).trans a0
          replace a1 := (hb.cell (p := ⟨g1, off + q * 3 + 1, none⟩) hg1).trans a1
          replace a2 := (hb.cell (p := ⟨g1, off + q * 3 + 2, none⟩) hg1).trans a2
          have own2 : (wr.alloc (.cells #[.int .i64 (F : Int), .int .i64 (C : Int), .int .i64 p] 102)).ownsRow (w.heap.size + 1) 144 1 (.slice (some ⟨w.heap.size + 1, 0, none⟩) 16 16) 16 ((lay L F p 0).map (Value.int .i64)) := own.alloc _
          have bsz := (own.lt (w.heap.size + 1) rfl).2
          have kA2 := (Below.block (bw_alloc (o := .cells #[.int .i64 (F : Int), .int .i64 (C : Int), .int .i64 p] 102) (Below.refl wr.heap.size wr)) _ (heap_lt kA)).trans kA
          have kB2 := heap_alloc_new wr (.cells #[.int .i64 (F : Int), .int .i64 (C : Int), .int .i64 p] 102)
          have hb2 : Below w.heap.size w (wr.alloc (.cells #[.int .i64 (F : Int), .int .i64 (C : Int), .int .i64 p] 102)) := bw_alloc hb
          have hbB : w.heap.size + 1 < wr.heap.size := bsz
          clear hl16 own kA hb
          go_wp2_with fail
          generalize wr.alloc (.cells #[.int .i64 (F : Int), .int .i64 (C : Int), .int .i64 p] 102) = W5 at *
          generalize wr.heap.size = nB at *
          go_loopw [23] (fun i wr3 => ∃ (k : Nat), k ≤ C ∧ i = .int .i64 k ∧ wr3.ownsRow (w.heap.size + 1) 144 1 (.slice (some ⟨w.heap.size + 1, 0, none⟩) 16 16) 16 ((lay L F p k).map (Value.int .i64)) ∧ wr3.heap[w.heap.size]? = some (.cells zeros16 144 (0, 0)) ∧ wr3.heap[nB]? = some (.cells #[.int .i64 (F : Int), .int .i64 (C : Int), .int .i64 p] 102 (0, 0)) ∧ Below w.heap.size w wr3) (fun i _ => C - (intOf i).toNat)
          case atStart => exact ⟨0, Nat.zero_le _, rfl, own2, kA2, kB2, hb2⟩
          case round =>
            clear own2 kA2 kB2 hb2
            obtain ⟨k, hk2, rfl, own, kA, kB, hb⟩ := hrel
            by_cases hlt3 : k < C
            · have hll : (lay L F p k).length = 16 := by rw [lay_length]; exact HL.out
              have t0 := own.cellAt (F + k) (by omega)
              have t1 := own.frozenAt (F + k)
              rw [List.getElem?_map, List.getElem?_eq_getElem (show F + k < (lay L F p k).length by omega)] at t0
              simp only [Option.map_some] at t0
              obtain ⟨hst, hgr⟩ := own.stored (F + k) (.int .i64 (p + k))
              rw [← List.map_set] at hst
              have kA' := (hgr.block w.heap.size (heap_lt kA) (by simp)).trans kA
              have kB' := (hgr.block nB (heap_lt kB) (by simp; omega)).trans kB
              have hbf : Below w.heap.size w (wr.setCell ⟨w.heap.size + 1, F + k, none⟩ (.int .i64 (p + k))) := bw_set (p := ⟨w.heap.size + 1, F + k, none⟩) hb (by simp) _
              have HO : Hid _ := And.intro hst (And.intro kA' (And.intro kB' hbf))
              have b0 := at_cell kB 0
              have b1 := at_cell kB 1
              have b2 := at_cell kB 2
              generalize (lay L F p k)[F + k] = y at t0
              clear hst hgr kA' kB' hbf own hll kA kB
              have hi0 : (0 : Int) ≤ (F : Int) + (k : Int) := by omega
              have hi1 : (F : Int) + (k : Int) < 16 := by omega
              have hw1 : IntKind.i64.wrap ((F : Int) + (k : Int)) = (F : Int) + (k : Int) := by rw [IntKind.wrap_i64]; omega
              have hw2 : IntKind.i64.wrap (p + (k : Int)) = p + (k : Int) := by rw [IntKind.wrap_i64]; omega
              have hw3 : ((F : Int) + (k : Int)).toNat = F + k := by omega
              go_wp2_with fail
              go_roundw
              case rel => exact ⟨k + 1, by omega, by go_num, HO.out.1, HO.out.2.1, HO.out.2.2.1, HO.out.2.2.2⟩
              case measure => simp [intOf]; omega
            · obtain rfl : k = C := by omega
              have e2 : ((rs.take (q + 1)).foldl layRun none16) = lay L F p k := by rw [HTF.out]; rfl
              rw [← e2] at own
              have HO : Hid _ := own
              clear own e2
              go_wp2_with fail
              go_roundw
              case rel => exact ⟨q + 1, by omega, by go_num, HO.out, kA, hb⟩
              case measure => simp [intOf]; omega
        · have hfin : rs.take q = rs := List.take_of_length_le (by omega)
          rw [hfin] at own
          obtain ⟨cur, hcur, hcl⟩ := own_cells own
          have hcs : cur.size = 16 := by rw [← Array.length_toList, hcl, List.length_map]; exact pages_length rs
          have HCL : Hid (cur.toList = (pages rs).map (Value.int .i64)) := hcl
          have H1 : Hid (cur.all (·.oneCell') = true) := one_cells _ cur hcl
          have HI : Hid ((Try.prog.info? 144).map (·.size) = some cur.size) := by rw [hcs]; exact info16
          have HZ : Hid (zeros16.size = cur.size) := by rw [hcs]; rfl
          have HCUR : Hid _ := hcur
          have HKA : Hid _ := kA
          have hbS : Below w.heap.size w (wr.setRow w.heap.size cur) := hb.trans (setRow_below (Nat.le_refl _))
          have hrow := setRow_row (cs := cur) kA
          have HLD : Hid _ := run_loadVar_row (P := Try.prog) _ w.heap.size 144 144 cur (0, 0) _ hrow Try.underlying144 rfl HI.out
          clear own hfin hcur hcl kA hcs hrow
          go_wp2_with (first | (with_reducible refine wpList_load_arr rfl _ 144 rfl (w.heap.size + 1) rfl cur 144 (0, 0) HCUR.out _ Try.underlying144 rfl HI.out ?_) | (with_reducible refine wpList_store_arr rfl _ _ 144 rfl w.heap.size rfl cur rfl zeros16 144 HKA.out HI.out HZ.out H1.out ?_))
          refine bodyPost_ret (v := .agg cur) ?_ rfl ⟨cur, rfl, HCL.out, hbS⟩
          simp [results, Try.results112, asAddr, Act.put, HLD.out]
end Go.Proofs.Ytchlkdhnjejgnaa

namespace Go.Proofs.Ytchlkdhnjejgnaa
open Go.RowKit

set_option linter.unusedVariables false

set_option maxRecDepth 100000


/-- The page of a place, out of an array by value. -/
theorem arr_at (L : List Int) (c : Array Value) (h : c.toList = L.map (Value.int .i64)) (k : Nat) (hk : k < L.length) : c[k]? = some (.int .i64 (L.getD k 0)) := by
  rw [← Array.getElem?_toList, h, List.getElem?_map, List.getElem?_eq_getElem hk, List.getD_eq_getElem?_getD, List.getElem?_eq_getElem hk]
  rfl

theorem arr_size (L : List Int) (c : Array Value) (h : c.toList = L.map (Value.int .i64)) : c.size = L.length := by rw [← Array.length_toList, h, List.length_map]

theorem index16 (c : Array Value) (k : Nat) (y : Int) (hk : k < 16) (hck : c[k]? = some (.int .i64 y)) (w : World) : (Instr.index 144 (.agg c) (.int .i64 (k : Int))).run Try.prog w = .ok (.int .i64 y) w := by
  simp [Instr.index, part, go_sem, hck]
  intro h
  exact absurd hk (by omega)

set_option maxHeartbeats 800000 in
theorem implPageOf_any (v : Value) (rs : List (Int × Int × Int)) (place : Int) (w : World) (hfit : FitRuns rs) (r : ReadsR 3 runC w.heap.size w v rs) :
    Calls Try.prog 97 #[v, .int .i64 place] w fun e w' => e = .returned (.int .i64 (pageOf rs place)) ∧ Below w.heap.size w w' := by
  go_enter Try.func97, Try.ntmps97
  go_wp2_with fail
  refine (implMapOk_any v rs _ hfit r).mono ?_
  rintro e w1 ⟨rfl, b1⟩
  have r1 := (r.below b1).mono b1.size
  cases hok : mapOk rs
  · have HV : Hid (pageOf rs place = -1) := by rw [Hid, pageOf, if_neg (fun q => by rw [hok] at q; cases q.1)]
    go_wp2_with fail
    go_ret
    exact ⟨ret_int HV.out.symm, b1⟩
  · have HOK : Hid (mapOk rs = true) := hok
    clear hok
    go_wp2_with fail
    refine (placeOk_any place _).mono ?_
    rintro e w2 ⟨rfl, rfl⟩
    cases hp : (decide ((0 : Int) ≤ place) && decide (place ≤ 15))
    · have HV : Hid (pageOf rs place = -1) := by
        rw [Hid, pageOf, if_neg]
        rintro ⟨_, h1, h2⟩
        simp [h1, h2] at hp
      go_wp2_with fail
      go_ret
      exact ⟨ret_int HV.out.symm, b1⟩
    · have hp2 : 0 ≤ place ∧ place ≤ 15 := by simpa using hp
      have hv : pageOf rs place = (pages rs).getD place.toNat 0 := by rw [pageOf, if_pos ⟨HOK.out, hp2⟩]
      obtain ⟨k, rfl⟩ := Int.eq_ofNat_of_zero_le hp2.1
      rw [Int.toNat_natCast] at hv
      have HV : Hid _ := hv
      clear hv
      go_wp2_with fail
      refine (pageByPlace_any v rs _ HOK.out r1).mono ?_
      rintro e w3 ⟨c, rfl, hcl, b3⟩
      have hpl := pages_length rs
      have hck := arr_at (pages rs) c hcl k (by omega)
      have hcs := arr_size (pages rs) c hcl
      rw [hpl] at hcs
      have hix := fun w => index16 c k _ (by omega) hck w
      clear hcl hpl hck
      generalize (pages rs).getD k 0 = y at hix HV
      have h0 : (0 : Int) ≤ (k : Int) := by omega
      have h1 : (k : Int) < 16 := by omega
      have bf := bw_call b1 b3
      go_wp2_with fail
      go_ret
      exact ⟨ret_int HV.out.symm, bf⟩
end Go.Proofs.Ytchlkdhnjejgnaa

namespace Go.Proofs.Ytchlkdhnjejgnaa
open Go.RowKit

set_option linter.unusedVariables false

set_option maxRecDepth 100000


/-- A row of books that is not empty: where it lies. -/
theorem OwnB.at {base : Nat} {w : World} {vb : Value} {bks : List Bk} (h : OwnB base w vb bks) (i : Nat) (hi : i < bks.length) : ∃ g cap, vb = .slice (some ⟨g, 0, none⟩) bks.length cap := by
  obtain ⟨n, hn1⟩ : ∃ n, bks.length = n + 1 := ⟨bks.length - 1, by omega⟩
  have hr := h.row
  rw [hn1] at hr ⊢
  exact owns_form hr
end Go.Proofs.Ytchlkdhnjejgnaa

namespace Go.Proofs.Ytchlkdhnjejgnaa
open Go.RowKit

set_option linter.unusedVariables false


theorem ShSt.upto {base b c : Nat} {w w' : World} {v1 v2 vb : Value} {bks : List Bk} {s : Sf} (h : ShSt base b w v1 v2 vb bks s) (u : Upto c w w') (hc : c < base) : ShSt base b w' v1 v2 vb bks s :=
  ⟨(u.block b (heap_lt h.box) (fun e => by have := h.lo; omega)).trans h.box, h.lo, h.pool.upto u hc, ⟨ownsRow_upto h.books.row u hc, fun x hx => ownsRow_upto (h.books.maps x hx) u hc⟩, h.eq⟩

/-- While a shelf is drawn: its box at b, the answer's at the start's end. -/
structure L8 (c : Nat) (x : Option Addr) (len cap base b : Nat) (w W : World) (v1 v2 vb : Value) (bks : List Bk) (s : Sf) : Prop where
  st : ShSt base b W v1 v2 vb bks s
  inv : ShInv s
  kR : W.heap[w.heap.size]? = some (.cells #[.slice none 0 0, .slice none 0 0, .slice none 0 0] 29 (0, 0))
  kc : Cur W c x len cap
  u : Upto c w W
  lt : c < w.heap.size
  nb : w.heap.size < base

theorem L8.step {c base b : Nat} {x : Option Addr} {len cap : Nat} {w W W' : World} {v1 v2 vb : Value} {bks : List Bk} {s : Sf} (h : L8 c x len cap base b w W v1 v2 vb bks s) (u : Upto c W W') (kc : Cur W' c x len cap) : L8 c x len cap base b w W' v1 v2 vb bks s := by
  have hlt := h.lt
  have hnb := h.nb
  exact ⟨h.st.upto u (by omega), h.inv, (u.block _ (heap_lt h.kR) (by omega)).trans h.kR, kc, h.u.trans u, h.lt, h.nb⟩

theorem L8.below {c base b : Nat} {x : Option Addr} {len cap : Nat} {w W W' : World} {v1 v2 vb : Value} {bks : List Bk} {s : Sf} (h : L8 c x len cap base b w W v1 v2 vb bks s) (k : Below W.heap.size W W') : L8 c x len cap base b w W' v1 v2 vb bks s :=
  h.step (Upto.ofBelow k) (h.kc.below k)

/-- Something was done to it. -/
theorem L8.did {c base b : Nat} {x : Option Addr} {len cap : Nat} {w W W' : World} {v1 v2 vb vb' : Value} {bks bks' : List Bk} {s s' : Sf} (h : L8 c x len cap base b w W v1 v2 vb bks s) (st : ShSt base b W' v1 v2 vb' bks' s') (inv : ShInv s') (d : Below base W W') : L8 c x len cap base b w W' v1 v2 vb' bks' s' := by
  have hlt := h.lt
  have hnb := h.nb
  exact ⟨st, inv, (d.block _ hnb).trans h.kR, h.kc.same (d.mono (by omega)), ⟨d.os.trans h.u.os, d.tape.trans h.u.tape, d.output.trans h.u.output, Nat.le_trans h.u.size d.size, fun k hk hn => (d.block k (by omega)).trans (h.u.block k hk hn)⟩, h.lt, h.nb⟩

theorem L8.few {c base b : Nat} {x : Option Addr} {len cap : Nat} {w W : World} {v1 v2 vb : Value} {bks : List Bk} {s : Sf} (h : L8 c x len cap base b w W v1 v2 vb bks s) : bks.length ≤ 6 := by rw [h.st.len]; exact h.inv.few

/-- What of a right book the draws want. -/
theorem L8.names {c base b : Nat} {x : Option Addr} {len cap : Nat} {w W : World} {v1 v2 vb : Value} {bks : List Bk} {s : Sf} (h : L8 c x len cap base b w W v1 v2 vb bks s) : ∀ y ∈ bks, 1 ≤ y.nm.size ∧ y.nm.size ≤ 4 := fun y hy => by
  have hm : y.pb ∈ s.bs := by rw [← h.st.eq]; exact List.mem_map_of_mem hy
  have hk := h.inv.oks _ hm
  simp only [Pb.ok, bookOk, Bool.and_eq_true] at hk
  exact nameB_size _ hk.1.1.1.1

/-- A cell of an op's box is written. -/
theorem L8.box {c base b nO : Nat} {x : Option Addr} {len cap : Nat} {w W : World} {v1 v2 vb : Value} {bks : List Bk} {s : Sf} {cs : Array Value} (h : L8 c x len cap base b w W v1 v2 vb bks s) (hk : W.heap[nO]? = some (.cells cs 31 (0, 0))) (hn : base ≤ nO) (i : Nat) (u : Value) : L8 c x len cap base b w (W.setCell ⟨nO, i, none⟩ u) v1 v2 vb bks s := by
  have hlt := h.lt
  have hnb := h.nb
  have uu : Upto nO W (W.setCell ⟨nO, i, none⟩ u) := (Upto.refl nO W).setCell ⟨nO, i, none⟩ (.inl rfl) u
  refine ⟨⟨(Below.heap_setCell W ⟨nO, i, none⟩ u b (fun e => by have hbx := h.st.box; rw [show b = nO from e, hk] at hbx; simp at hbx)).trans h.st.box, h.st.lo, ⟨own_box h.st.pool.c hk (by decide) i u, own_box h.st.pool.p hk (by decide) i u, h.st.pool.apart⟩, ⟨own_box h.st.books.row hk (by decide) i u, fun x hx => own_box (h.st.books.maps x hx) hk (by decide) i u⟩, h.st.eq⟩, h.inv, ?_, h.kc.same (uu.toBelow h.kc.lt (by omega)), h.u.setCell ⟨nO, i, none⟩ (.inr (by show _ ≤ nO; omega)) u, h.lt, h.nb⟩
  exact (uu.block _ (heap_lt h.kR) (by omega)).trans h.kR

set_option maxRecDepth 100000 in
set_option maxHeartbeats 6400000 in
theorem draw8_any (c : Nat) (x : Option Addr) (len cap : Nat) (w : World) (hc : Cur w c x len cap) :
    Calls Try.prog 59 #[.pointer (some ⟨c, 0, none⟩)] w fun e w' => ∃ (v1 v2 vb : Value) (bks : List Bk) (s : Sf), e = .returned (.agg #[v1, v2, vb]) ∧ OwnP (w.heap.size + 1) w' v1 v2 s.cs s.ps ∧ OwnB (w.heap.size + 1) w' vb bks ∧ bks.map Bk.pb = s.bs ∧ ShInv s ∧ Upto c w w' ∧ Cur w' c x len cap := by
  have hlt := hc.lt
  obtain ⟨W0, hW0, kR, d0, z0⟩ := box1 w #[.slice none 0 0, .slice none 0 0, .slice none 0 0] 29
  have kc : Cur W0 c x len cap := hc.below d0
  have u : Upto c w W0 := Upto.ofBelow d0
  have HW0 : Hid (W0 = _) := hW0
  have HZ0 : Hid (W0.heap.size = w.heap.size + 1) := z0
  have sR : w.heap.size < W0.heap.size := by omega
  clear hW0 hc d0 z0
  go_enter Try.func59, Try.ntmps59
  go_upto_region 1 with fail
  rw [← HW0.out]
  clear HW0
  go_wp2_with fail
  refine (below_any c x len cap 5 _ (by omega) (kc.alloc _)).mono ?_
  rintro e w1 ⟨y, rfl, hy, u1, k1⟩
  have hy5 := hy.2.1 (by omega)
  obtain ⟨jn, rfl⟩ := Int.eq_ofNat_of_zero_le hy.1
  obtain ⟨z, hz, hzs⟩ : ∃ z : Int, w1.cell? ⟨W0.heap.size, jn, none⟩ = some (.int .i64 z) ∧ (1 ≤ z ∧ z ≤ 24) := by
    rw [pick_cell u1 kc.lt jn]
    have h3 : jn = 0 ∨ jn = 1 ∨ jn = 2 ∨ jn = 3 ∨ jn = 4 := by omega
    rcases h3 with rfl | rfl | rfl | rfl | rfl <;> exact ⟨_, rfl, by decide⟩
  have ua : Upto c W0 w1 := ((Upto.refl c W0).alloc _).trans u1
  replace kR := (ua.block _ sR (by omega)).trans kR
  replace sR := Nat.lt_of_lt_of_le sR ua.size
  have HZ1 : Hid (w.heap.size + 1 ≤ w1.heap.size) := by have := HZ0.out; have := ua.size; show _ ≤ _; omega
  replace u := u.trans ua
  clear u1 kc ua HZ0
  go_wp2_with fail
  refine (specNewShelf_any z _).mono ?_
  rintro e w2 ⟨u1, u2, rfl, own, b2⟩
  have HI : Hid _ := new_inv z hzs
  obtain ⟨⟨⟨zc, zp⟩, made⟩, hnp⟩ : ∃ q, newPool z = q := ⟨_, rfl⟩
  rw [hnp] at own HI ⊢
  simp only at own HI ⊢
  clear hnp hz hzs hy hy5
  replace kR := (b2.block _ sR).trans kR
  replace sR := Nat.lt_of_lt_of_le sR b2.size
  replace u := u.below b2
  have k2 := k1.below b2
  replace own := own.mono HZ1.out
  have HZ2 : Hid (w.heap.size + 1 ≤ w2.heap.size) := Nat.le_trans HZ1.out b2.size
  clear b2 k1 HZ1
  obtain ⟨o1, c1, o2, c2, rfl, rfl⟩ := own.forms
  have bP : Below w2.heap.size w2 (w2.alloc (.cells #[.slice o1 zc.length c1, .slice o2 zp.length c2, .slice none 0 0] 29)) := bw_alloc (Below.refl _ _)
  have kB := heap_alloc_new w2 (.cells #[.slice o1 zc.length c1, .slice o2 zp.length c2, .slice none 0 0] 29)
  have h0 : L8 c x len cap (w.heap.size + 1) w2.heap.size w (w2.alloc (.cells #[.slice o1 zc.length c1, .slice o2 zp.length c2, .slice none 0 0] 29)) (.slice o1 zc.length c1) (.slice o2 zp.length c2) (.slice none 0 0) [] ⟨zc, zp, []⟩ :=
    ⟨⟨kB, HZ2.out, own.below bP, ⟨World.ownsRow_nil _ _ _ _, fun b hb => by cases hb⟩, rfl⟩, HI.out, (bP.block _ sR).trans kR, k2.below bP, u.below bP, hlt, Nat.lt_succ_self _⟩
  clear bP kB kR u k2 own HI HZ2 sR
  go_wp2_with fail
  generalize w2.alloc (.cells #[.slice o1 zc.length c1, .slice o2 zp.length c2, .slice none 0 0] 29) = W3 at *
  generalize w2.heap.size = nB at *
  generalize (⟨zc, zp, []⟩ : Sf) = s0 at *
  generalize zc.length = l1 at *
  generalize zp.length = l2 at *
  refine (l8Do_any (w.heap.size + 1) nB (.slice o1 l1 c1) (.slice o2 l2 c2) _ [] s0 1 ⟨#[98]⟩ ⟨#[]⟩ 0 6 0 _ (by decide) (by decide) h0.inv h0.st).mono ?_
  rintro e w4 ⟨vb, bks, rfl, st, d⟩
  replace h0 := h0.did st (do_inv h0.inv _) d
  generalize (doOp s0 ⟨1, ⟨#[98]⟩, ⟨#[]⟩, 0, 6, 0⟩).1 = s1 at *
  generalize (doOp s0 ⟨1, ⟨#[98]⟩, ⟨#[]⟩, 0, 6, 0⟩).2.1 = r1 at *
  generalize (doOp s0 ⟨1, ⟨#[98]⟩, ⟨#[]⟩, 0, 6, 0⟩).2.2 = r2 at *
  clear st d
  go_wp2_with fail
  refine (below_any c x len cap 24 _ (by omega) h0.kc).mono ?_
  rintro e w5 ⟨m, rfl, hm, u1, k1⟩
  have hm24 := hm.2.1 (by omega)
  obtain ⟨mn, rfl⟩ := Int.eq_ofNat_of_zero_le hm.1
  replace h0 := h0.step u1 k1
  clear u1 k1 hm
  go_wp2_with fail
  go_loopw [5] (fun i' wr => ∃ (k : Nat) (vb : Value) (bks : List Bk) (s : Sf), k ≤ 23 ∧ i' = .int .i64 k ∧ L8 c x len cap (w.heap.size + 1) nB w wr (.slice o1 l1 c1) (.slice o2 l2 c2) vb bks s) (fun i' _ => (intOf i').toNat)
  case atStart => exact ⟨mn, vb, bks, s1, by omega, rfl, h0⟩
  case round =>
    clear h0
    obtain ⟨k, vb, bks, s, hk, rfl, h⟩ := hrel
    by_cases hk0 : 0 < k
    · have hki : (0 : Int) < (k : Int) := by omega
      go_wp2_with fail
      refine (draw7_any c x len cap _ h.kc).mono ?_
      rintro e w6 ⟨o, rfl, fit, u1, k1⟩
      obtain ⟨ok, nm, ot, at_, va, ep⟩ := o
      replace h := h.step u1 k1
      clear u1 k1
      simp only
      have bP : Below w6.heap.size w6 (w6.alloc (.cells #[.int .i64 ok, .string nm, .string ot, .int .i64 at_, .int .i64 va, .int .i64 ep] 31)) := bw_alloc (Below.refl _ _)
      have kO := heap_alloc_new w6 (.cells #[.int .i64 ok, .string nm, .string ot, .int .i64 at_, .int .i64 va, .int .i64 ep] 31)
      replace h := h.below bP
      have hnO : w.heap.size + 1 ≤ w6.heap.size := by have h1 := h.st.lo; have h2 := heap_lt h.st.box; simp at h2; omega
      have HFIT : Hid (OpFit ⟨ok, nm, ot, at_, va, ep⟩) := fit
      clear bP fit
      go_upto_region 7 with fail
      generalize w6.alloc (.cells #[.int .i64 ok, .string nm, .string ot, .int .i64 at_, .int .i64 va, .int .i64 ep] 31) = W7 at *
      generalize w6.heap.size = nO at *
      obtain ⟨ob, kb, rfl⟩ := own_slice h.st.books.row
      have hfew := h.few
      have HNM : Hid _ := h.names
      have s2 := at_cell h.st.box 2
      go_upto_region 8 with fail
      clear s2
      go_cut [41] from 21 to 52 (fun v wx => ∃ bb : Bool, v = .bool bb ∧ (bb = true → 0 < bks.length) ∧ L8 c x len cap (w.heap.size + 1) nB w wx (.slice o1 l1 c1) (.slice o2 l2 c2) (.slice ob bks.length kb) bks s ∧ wx.heap[nO]? = some (.cells #[.int .i64 ok, .string nm, .string ot, .int .i64 at_, .int .i64 va, .int .i64 ep] 31 (0, 0)))
      case first =>
        have p0 := at_cell kO 0
        rcases Nat.eq_zero_or_pos bks.length with hl0 | hpos
        · have hl0' : ¬ (0 : Int) < (bks.length : Int) := by omega
          clear hl0
          go_wp2_with fail
          go_meet
          exact ⟨false, rfl, fun q => (by cases q), h, kO⟩
        have hpos' : (0 : Int) < (bks.length : Int) := by omega
        by_cases hk1 : ok = 1
        · subst hk1
          go_wp2_with fail
          go_meet
          exact ⟨false, rfl, fun q => (by cases q), h, kO⟩
        have hk1' : (ok != 1) = true := by simpa using hk1
        go_wp2_with fail
        refine (once_any c x len cap 4 _ (by omega) h.kc).mono ?_
        rintro e w8 ⟨y, rfl, u1, k1⟩
        have hc7 := h.lt
        have h8 := h.step u1 k1
        have kO8 := (u1.block _ (heap_lt kO) (by omega)).trans kO
        clear u1 k1 h kO p0
        cases y
        · go_wp2_with fail
          go_meet
          exact ⟨true, rfl, fun _ => hpos, h8, kO8⟩
        · go_wp2_with fail
          go_meet
          exact ⟨false, rfl, fun q => (by cases q), h8, kO8⟩
      case rest =>
        clear h kO
        obtain ⟨bb, rfl, hbb, h, kO⟩ := hcut
        go_upto_if 41 with fail
        go_cut [] from 42 to 52 (fun wx => ∃ nm' : ByteArray, nm'.size ≤ 5 ∧ L8 c x len cap (w.heap.size + 1) nB w wx (.slice o1 l1 c1) (.slice o2 l2 c2) (.slice ob bks.length kb) bks s ∧ wx.heap[nO]? = some (.cells #[.int .i64 ok, .string nm', .string ot, .int .i64 at_, .int .i64 va, .int .i64 ep] 31 (0, 0)))
        case first =>
          cases bb
          · go_wp2_with fail
            go_meet
            exact ⟨nm, HFIT.out.nm, h, kO⟩
          · have hpos := hbb rfl
            have hpos' : (0 : Int) < (bks.length : Int) := by omega
            have hd := h.below (W' := wc.drew) ((Below.refl _ _).drew)
            have kOd : wc.drew.heap[nO]? = some (.cells #[.int .i64 ok, .string nm, .string ot, .int .i64 at_, .int .i64 va, .int .i64 ep] 31 (0, 0)) := kO
            have cc2 := at_cell h.st.box 2
            have c2d := at_cell hd.st.box 2
            have hlt2 := h.lt
            have hnb2 := h.nb
            go_wp2_with fail
            go_region_law ((go_simp; go_at_call 44; refine (below_any c x len cap (bks.length : Int) _ (by omega) hd.kc).mono ?_; rintro e w8 ⟨y, rfl, hy, u8, k8⟩; have h8 := hd.step u8 k8; have kO8 := (u8.block _ (heap_lt kOd) (by omega)).trans kOd; have c8 := at_cell h8.st.box 2; have hyn := hy.2.1 hpos'; have hy0 := hy.1; obtain ⟨q, hq⟩ := Int.eq_ofNat_of_zero_le hy.1; subst hq; have hlq : q < bks.length := (by omega); have q0i : (0 : Int) ≤ (q : Int) := (by omega); obtain ⟨gb, cpb, hvb⟩ := h8.st.books.at q hlq; cases hvb; obtain ⟨⟨a0, -⟩, -⟩ := own_five h8.st.books.row q hlq; have oo1 := at_open kO8 1; have oo2 := at_cell kO8 1; dsimp only))
            all_goals
              have hnq := (HNM.out _ (List.getElem_mem hlq)).2
              have h9 := h8.box kO8 hnO 1 (.string (bks[q]'hlq).nm)
              have kO9 := set_at kO8 1 (.string (bks[q]'hlq).nm)
              go_wp2_with fail
              go_meet
              first
              | exact ⟨(bks[q]'hlq).nm, by omega, h9, kO9⟩
              | exact ⟨(bks[q]'hlq).nm, by omega, h9.below ((Below.refl _ _).drew), kO9⟩
        case rest =>
          clear h kO
          obtain ⟨nm', hnm', h, kO⟩ := hcut
          have p0 := at_cell kO 0
          have p1 := at_cell kO 1
          have p2 := at_cell kO 2
          have p3 := at_cell kO 3
          have p4 := at_cell kO 4
          have p5 := at_cell kO 5
          go_wp2_with fail
          clear p0 p1 p2 p3 p4 p5
          refine (l8Do_any (w.heap.size + 1) nB (.slice o1 l1 c1) (.slice o2 l2 c2) _ bks s ok nm' ot at_ va ep _ (by unfold maxLen; omega) (by have := HFIT.out.ot; simp only at this; unfold maxLen; omega) h.inv h.st).mono ?_
          rintro e w9 ⟨vb', bks', rfl, st', d'⟩
          have h9 := h.did st' (do_inv h.inv _) d'
          generalize (doOp s ⟨ok, nm', ot, at_, va, ep⟩).1 = s9 at *
          generalize (doOp s ⟨ok, nm', ot, at_, va, ep⟩).2.1 = r1 at *
          generalize (doOp s ⟨ok, nm', ot, at_, va, ep⟩).2.2 = r2 at *
          clear st' d' h kO
          go_wp2_with fail
          go_roundw
          case rel => exact ⟨k - 1, vb', bks', s9, by omega, by first | go_num | (congr 1; omega), h9⟩
          case measure => simp [intOf]; omega
    · obtain rfl : k = 0 := by omega
      have hnb := h.nb
      have hw : w.heap.size ≤ wr.heap.size := h.u.size
      obtain ⟨ob, kb, rfl⟩ := own_slice h.st.books.row
      have p0 := at_cell h.st.box 0
      have p1 := at_cell h.st.box 1
      have p2 := at_cell h.st.box 2
      have q0 := at_cell h.kR 0
      have q1 := at_cell h.kR 1
      have q2 := at_cell h.kR 2
      have g0 := at_open h.kR 0
      have g1 := at_open h.kR 1
      have g2 := at_open h.kR 2
      have uu : Upto w.heap.size wr (((wr.setCell ⟨w.heap.size, 0, none⟩ (.slice o1 l1 c1)).setCell ⟨w.heap.size, 1, none⟩ (.slice o2 l2 c2)).setCell ⟨w.heap.size, 2, none⟩ (.slice ob bks.length kb)) := (((Upto.refl _ _).setCell ⟨w.heap.size, 0, none⟩ (.inl rfl) _).setCell ⟨w.heap.size, 1, none⟩ (.inl rfl) _).setCell ⟨w.heap.size, 2, none⟩ (.inl rfl) _
      have hP := h.st.pool.upto uu hnb
      have hB : OwnB (w.heap.size + 1) _ (.slice ob bks.length kb) bks := ⟨ownsRow_upto h.st.books.row uu hnb, fun x hx => ownsRow_upto (h.st.books.maps x hx) uu hnb⟩
      have hU := ((h.u.setCell ⟨w.heap.size, 0, none⟩ (.inr (Nat.le_refl _)) (.slice o1 l1 c1)).setCell ⟨w.heap.size, 1, none⟩ (.inr (Nat.le_refl _)) (.slice o2 l2 c2)).setCell ⟨w.heap.size, 2, none⟩ (.inr (Nat.le_refl _)) (.slice ob bks.length kb)
      have hK := h.kc.same (uu.toBelow h.kc.lt (by omega))
      have hR := set_at (set_at (set_at h.kR 0 (.slice o1 l1 c1)) 1 (.slice o2 l2 c2)) 2 (.slice ob bks.length kb)
      have HS : Hid _ := And.intro hR (And.intro hP (And.intro hB (And.intro h.st.eq (And.intro h.inv (And.intro hU hK)))))
      clear hP hB hU hK hR uu h
      go_wp2_with fail
      exact bodyPost_ret (v := .agg #[.slice o1 l1 c1, .slice o2 l2 c2, .slice ob bks.length kb]) (by simp [results, Try.results59, go_sem, at_cell HS.out.1]) rfl ⟨_, _, _, bks, s, rfl, HS.out.2⟩
end Go.Proofs.Ytchlkdhnjejgnaa

