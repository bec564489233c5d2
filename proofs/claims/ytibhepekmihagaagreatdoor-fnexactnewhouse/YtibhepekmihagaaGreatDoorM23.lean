/-
  Contracts and plain laws, one chapter behind the other.
-/
import Derived.Test.YtibhepekmihagaaGreatDoorM19
namespace Go.Proofs.YtibhepekmihagaaGreatDoor
open Go.ChangeShapes Go.WideShapes Go.ChangeAt Go.RowKit Go.Deep Go.Joins

set_option linter.unusedVariables false

set_option maxRecDepth 100000


structure Cl where
  tg : Int
  wt : Bool
  o : Oq

def Cl.zero : Cl := ⟨0, false, Oq.zero⟩

/-- A client's eight cells. -/
def clC (c : Cl) : List Value := [.int .i64 c.tg, .bool c.wt, .int .i64 c.o.k, .string c.o.nm, .string c.o.ot, .int .i64 c.o.at_, .int .i64 c.o.va, .int .i64 c.o.ep]

theorem clC_len (c : Cl) : (clC c).length = 8 := rfl

theorem cl_cells {B : Nat} {w : World} {o : Option Addr} {l : List Cl} (hc : ∀ i x, l[i]? = some x → ∃ g off, o = some ⟨g, off, none⟩ ∧ g < B ∧ ∀ j u, (clC x)[j]? = some u → w.cell? ⟨g, off + i * 8 + j, none⟩ = some u) (i : Nat) (hi : i < l.length) :
    ∃ g off, o = some ⟨g, off, none⟩ ∧ g < B ∧ w.cell? ⟨g, off + i * 8, none⟩ = some (.int .i64 l[i].tg) ∧ w.cell? ⟨g, off + i * 8 + 1, none⟩ = some (.bool l[i].wt) ∧ w.cell? ⟨g, off + i * 8 + 2, none⟩ = some (.int .i64 l[i].o.k) ∧ w.cell? ⟨g, off + i * 8 + 3, none⟩ = some (.string l[i].o.nm) ∧ w.cell? ⟨g, off + i * 8 + 4, none⟩ = some (.string l[i].o.ot) ∧ w.cell? ⟨g, off + i * 8 + 5, none⟩ = some (.int .i64 l[i].o.at_) ∧ w.cell? ⟨g, off + i * 8 + 6, none⟩ = some (.int .i64 l[i].o.va) ∧ w.cell? ⟨g, off + i * 8 + 7, none⟩ = some (.int .i64 l[i].o.ep) := by
  obtain ⟨g, off, e, hg, h⟩ := hc i _ (List.getElem?_eq_getElem hi)
  exact ⟨g, off, e, hg, h 0 _ rfl, h 1 _ rfl, h 2 _ rfl, h 3 _ rfl, h 4 _ rfl, h 5 _ rfl, h 6 _ rfl, h 7 _ rfl⟩

theorem Tryz.infoClient : (Tryz.prog.info? 152).map (fun i => (i.zero, i.size, i.bytes)) = some (some (.agg #[.int .i64 0, .bool false, .int .i64 0, .string ByteArray.empty, .string ByteArray.empty, .int .i64 0, .int .i64 0, .int .i64 0]), 8, 80) := by kernel_rfl

/-- make([]impl.Client, n): a row of zero clients, at the end of memory. -/
theorem made_clients (n : Nat) (hn : n ≤ 1048576) : ∃ M : Array Value, (∀ W : World, (Instr.makeSlice 68 (.int .i64 (n : Int)) (.int .i64 (n : Int))).run Tryz.prog W = .ok (.slice (some ⟨W.heap.size, 0, none⟩) n n) (W.alloc (.cells M 152))) ∧
    ∀ (W : World) (base : Nat), base ≤ W.heap.size → (W.alloc (.cells M 152)).ownsRow base 152 8 (.slice (some ⟨W.heap.size, 0, none⟩) n n) (List.replicate n Cl.zero).length ((List.replicate n Cl.zero).flatMap clC) := by
  obtain ⟨i0, hi, hz0, hz1, hz2⟩ := info_parts Tryz.infoClient
  have e := toList_made (cs := clC) clC_len (by omega) Cl.zero (Value.agg #[.int .i64 0, .bool false, .int .i64 0, .string ByteArray.empty, .string ByteArray.empty, .int .i64 0, .int .i64 0, .int .i64 0]).cells rfl n
  refine ⟨madeCells (Value.agg #[.int .i64 0, .bool false, .int .i64 0, .string ByteArray.empty, .string ByteArray.empty, .int .i64 0, .int .i64 0, .int .i64 0]).cells (n * 8), fun W => ?_, fun W base hb => ?_⟩
  · have h := run_make (P := Tryz.prog) W 68 152 i0 (.agg #[.int .i64 0, .bool false, .int .i64 0, .string ByteArray.empty, .string ByteArray.empty, .int .i64 0, .int .i64 0, .int .i64 0]) Tryz.underlying68 hi hz0 .i64 .i64 (n : Int) (n : Int) (by omega) (by omega) (by rw [hz2]; omega) (by omega)
    rw [hz1, Int.toNat_natCast] at h
    simpa using h
  · have h := World.ownsRow_lit (base := base) (size := 8) (e := 152) W (madeCells (Value.agg #[.int .i64 0, .bool false, .int .i64 0, .string ByteArray.empty, .string ByteArray.empty, .int .i64 0, .int .i64 0, .int .i64 0]).cells (n * 8)) n hb (by unfold maxLen; omega) (by rw [size_madeCells])
    rw [e] at h
    rwa [List.length_replicate]

theorem own_eight {w : World} {base g n cap : Nat} {xs : List Cl} (h : w.ownsRow base 152 8 (.slice (some ⟨g, 0, none⟩) n cap) xs.length (xs.flatMap clC)) (i : Nat) (hi : i < xs.length) :
    (w.cell? ⟨g, i * 8, none⟩ = some (.int .i64 xs[i].tg) ∧ w.cell? ⟨g, i * 8 + 1, none⟩ = some (.bool xs[i].wt) ∧ w.cell? ⟨g, i * 8 + 2, none⟩ = some (.int .i64 xs[i].o.k) ∧ w.cell? ⟨g, i * 8 + 3, none⟩ = some (.string xs[i].o.nm) ∧ w.cell? ⟨g, i * 8 + 4, none⟩ = some (.string xs[i].o.ot) ∧ w.cell? ⟨g, i * 8 + 5, none⟩ = some (.int .i64 xs[i].o.at_) ∧ w.cell? ⟨g, i * 8 + 6, none⟩ = some (.int .i64 xs[i].o.va) ∧ w.cell? ⟨g, i * 8 + 7, none⟩ = some (.int .i64 xs[i].o.ep)) ∧ w.frozen? ⟨g, i * 8, none⟩ = false ∧ w.frozen? ⟨g, i * 8 + 1, none⟩ = false ∧ w.frozen? ⟨g, i * 8 + 2, none⟩ = false ∧ w.frozen? ⟨g, i * 8 + 3, none⟩ = false ∧ w.frozen? ⟨g, i * 8 + 4, none⟩ = false ∧ w.frozen? ⟨g, i * 8 + 5, none⟩ = false ∧ w.frozen? ⟨g, i * 8 + 6, none⟩ = false ∧ w.frozen? ⟨g, i * 8 + 7, none⟩ = false := by
  obtain ⟨a0, b0⟩ := own_cell clC_len h i 0 _ (List.getElem?_eq_getElem hi) (by omega)
  obtain ⟨a1, b1⟩ := own_cell clC_len h i 1 _ (List.getElem?_eq_getElem hi) (by omega)
  obtain ⟨a2, b2⟩ := own_cell clC_len h i 2 _ (List.getElem?_eq_getElem hi) (by omega)
  obtain ⟨a3, b3⟩ := own_cell clC_len h i 3 _ (List.getElem?_eq_getElem hi) (by omega)
  obtain ⟨a4, b4⟩ := own_cell clC_len h i 4 _ (List.getElem?_eq_getElem hi) (by omega)
  obtain ⟨a5, b5⟩ := own_cell clC_len h i 5 _ (List.getElem?_eq_getElem hi) (by omega)
  obtain ⟨a6, b6⟩ := own_cell clC_len h i 6 _ (List.getElem?_eq_getElem hi) (by omega)
  obtain ⟨a7, b7⟩ := own_cell clC_len h i 7 _ (List.getElem?_eq_getElem hi) (by omega)
  exact ⟨⟨a0, a1, a2, a3, a4, a5, a6, a7⟩, b0, b1, b2, b3, b4, b5, b6, b7⟩

set_option maxHeartbeats 1600000 in
theorem eqClient_same (tg : Int) (wt : Bool) (k : Int) (nm ot : ByteArray) (at_ va ep : Int) (w : World) :
    Calls Tryz.prog 117 #[.agg #[.int .i64 tg, .bool wt, .int .i64 k, .string nm, .string ot, .int .i64 at_, .int .i64 va, .int .i64 ep], .agg #[.int .i64 tg, .bool wt, .int .i64 k, .string nm, .string ot, .int .i64 at_, .int .i64 va, .int .i64 ep]] w fun e w' => e = .returned (.bool true) ∧ Below w.heap.size w w' := by
  obtain ⟨W0, hW0, k0, k1, d0, z0⟩ := box2 w #[.int .i64 tg, .bool wt, .int .i64 k, .string nm, .string ot, .int .i64 at_, .int .i64 va, .int .i64 ep] #[.int .i64 tg, .bool wt, .int .i64 k, .string nm, .string ot, .int .i64 at_, .int .i64 va, .int .i64 ep] 152 152
  have HW0 : Hid (W0 = _) := hW0
  have p0 := at_cell k0 0
  have q0 := at_cell k1 0
  have p1 := at_cell k0 1
  have q1 := at_cell k1 1
  have p2 := at_cell k0 2
  have q2 := at_cell k1 2
  have p3 := at_cell k0 3
  have q3 := at_cell k1 3
  have p4 := at_cell k0 4
  have q4 := at_cell k1 4
  have p5 := at_cell k0 5
  have q5 := at_cell k1 5
  have p6 := at_cell k0 6
  have q6 := at_cell k1 6
  have p7 := at_cell k0 7
  have q7 := at_cell k1 7
  have e1 : (tg != tg) = false := by simp
  have e2 : (wt != wt) = false := by cases wt <;> rfl
  clear hW0 z0
  go_enter Tryz.func117, Tryz.ntmps117
  go_upto_region 1 with fail
  rw [← HW0.out]
  clear HW0
  go_wp2_with fail
  refine (eqOp_same k nm ot at_ va ep _).mono ?_
  rintro e w1 ⟨rfl, b1⟩
  replace d0 := bw_call d0 b1
  clear p0 q0 p1 q1 p2 q2 p3 q3 p4 q4 p5 q5 p6 q6 p7 q7
  go_wp2_with fail
  go_ret
  exact ⟨rfl, d0⟩

set_option maxHeartbeats 3200000 in
theorem eqClients_same (v v' : Value) (bs : List Cl) (w : World) (r : ReadsR 8 clC w.heap.size w v bs) (r' : ReadsR 8 clC w.heap.size w v' bs) :
    Calls Tryz.prog 72 #[v, v'] w fun e w' => e = .returned (.bool true) ∧ Below w.heap.size w w' := by
  obtain ⟨o1, cap1, rfl, m1, c1, -⟩ := r
  obtain ⟨o2, cap2, rfl, m2, c2, -⟩ := r'
  have C1 : Hid _ := cl_cells c1
  have C2 : Hid _ := cl_cells c2
  unfold maxLen at m1
  clear c1 c2 m2
  go_enter Tryz.func72, Tryz.ntmps72
  go_wp2
  go_loopw [5] (fun i wr => ∃ k : Nat, k ≤ bs.length ∧ i = .int .i64 k ∧ Below w.heap.size w wr) (fun i _ => bs.length - (intOf i).toNat)
  case atStart => exact ⟨0, Nat.zero_le _, rfl, Below.refl _ _⟩
  case round =>
    obtain ⟨kk, hk, rfl, hb⟩ := hrel
    by_cases hlt : kk < bs.length
    · obtain ⟨g1, of1, rfl, q1, a0, a1, a2, a3, a4, a5, a6, a7⟩ := C1.out kk hlt
      obtain ⟨g2, of2, rfl, q2, b0, b1, b2, b3, b4, b5, b6, b7⟩ := C2.out kk hlt
      generalize bs[kk] = x at a0 a1 a2 a3 a4 a5 a6 a7 b0 b1 b2 b3 b4 b5 b6 b7
      obtain ⟨tg, wt, ⟨k, nm, ot, at_, va, ep⟩⟩ := x
      simp only at a0 a1 a2 a3 a4 a5 a6 a7 b0 b1 b2 b3 b4 b5 b6 b7
      have hne := BelowOf.any wr
      have l1 : g1 < wr.heap.size := Nat.lt_of_lt_of_le q1 hb.size
      have l2 : g2 < wr.heap.size := Nat.lt_of_lt_of_le q2 hb.size
      have HEQ : ∀ q : BelowOf wr, Calls Tryz.prog 117 #[.agg #[.int .i64 tg, .bool wt, .int .i64 k, .string nm, .string ot, .int .i64 at_, .int .i64 va, .int .i64 ep], .agg #[.int .i64 tg, .bool wt, .int .i64 k, .string nm, .string ot, .int .i64 at_, .int .i64 va, .int .i64 ep]] q.w' fun e w' => e = .returned (.bool true) ∧ Below q.w'.heap.size q.w' w' := fun q => eqClient_same tg wt k nm ot at_ va ep q.w'
      have d0 := BelowOf.cell ((hb.cell (p := ⟨g1, of1 + kk * 8, none⟩) q1).trans a0) l1
      have f0 := BelowOf.cell ((hb.cell (p := ⟨g2, of2 + kk * 8, none⟩) q2).trans b0) l2
      have d1 := BelowOf.cell ((hb.cell (p := ⟨g1, of1 + kk * 8 + 1, none⟩) q1).trans a1) l1
      have f1 := BelowOf.cell ((hb.cell (p := ⟨g2, of2 + kk * 8 + 1, none⟩) q2).trans b1) l2
      have d2 := BelowOf.cell ((hb.cell (p := ⟨g1, of1 + kk * 8 + 2, none⟩) q1).trans a2) l1
      have f2 := BelowOf.cell ((hb.cell (p := ⟨g2, of2 + kk * 8 + 2, none⟩) q2).trans b2) l2
      have d3 := BelowOf.cell ((hb.cell (p := ⟨g1, of1 + kk * 8 + 3, none⟩) q1).trans a3) l1
      have f3 := BelowOf.cell ((hb.cell (p := ⟨g2, of2 + kk * 8 + 3, none⟩) q2).trans b3) l2
      have d4 := BelowOf.cell ((hb.cell (p := ⟨g1, of1 + kk * 8 + 4, none⟩) q1).trans a4) l1
      have f4 := BelowOf.cell ((hb.cell (p := ⟨g2, of2 + kk * 8 + 4, none⟩) q2).trans b4) l2
      have d5 := BelowOf.cell ((hb.cell (p := ⟨g1, of1 + kk * 8 + 5, none⟩) q1).trans a5) l1
      have f5 := BelowOf.cell ((hb.cell (p := ⟨g2, of2 + kk * 8 + 5, none⟩) q2).trans b5) l2
      have d6 := BelowOf.cell ((hb.cell (p := ⟨g1, of1 + kk * 8 + 6, none⟩) q1).trans a6) l1
      have f6 := BelowOf.cell ((hb.cell (p := ⟨g2, of2 + kk * 8 + 6, none⟩) q2).trans b6) l2
      have d7 := BelowOf.cell ((hb.cell (p := ⟨g1, of1 + kk * 8 + 7, none⟩) q1).trans a7) l1
      have f7 := BelowOf.cell ((hb.cell (p := ⟨g2, of2 + kk * 8 + 7, none⟩) q2).trans b7) l2
      have g1' : (0 : Int) ≤ (kk : Int) := by omega
      have g2' : (kk : Int) < (bs.length : Int) := by omega
      clear a0 a1 a2 a3 a4 a5 a6 a7 b0 b1 b2 b3 b4 b5 b6 b7 C1 C2
      go_wp2_with fail
      refine wp_region_of (by kernel_rfl) (by kernel_rfl) ?_
      repeat (go_big_quiet_step ((first | (go_at_call 117; exact calls_of (HEQ _)) | rfl)))
      refine wpQuiet_nil ?_
      intro w5 hw5
      obtain ⟨⟨wx, cx⟩, hwx⟩ := hw5
      have b5 : Below wr.heap.size wr w5 := by rw [hwx]; exact cx
      have hb5 := hb.trans (b5.mono hb.size)
      clear hwx cx wx hne d0 d1 d2 d3 d4 d5 d6 d7 f0 f1 f2 f3 f4 f5 f6 f7 HEQ
      go_wp2_with fail
      go_roundw
      case rel => exact ⟨kk + 1, by omega, by go_num, hb5⟩
      case measure => simp [intOf]; omega
    · go_wp2
      go_ret
      exact ⟨rfl, hb⟩
end Go.Proofs.YtibhepekmihagaaGreatDoor

