/-
  Contracts and plain laws, one chapter behind the other.
-/
import Derived.Deep.RegionHeld3
import Derived.Deep.DeepCutAuto
import Derived.Laws.Cover1
import Derived.Test.YtcefcglonooelaaGreatDoorB02
import Derived.Test.YtcefcglonooelaaGreatDoorB04
import Derived.Test.YtcefcglonooelaaGreatDoorB06
import Derived.Test.YtcefcglonooelaaGreatDoorB08
import Derived.Test.YtcefcglonooelaaGreatDoorB21
import Derived.Test.YtcefcglonooelaaGreatDoorB22
namespace Go.Proofs.YtcefcglonooelaaGreatDoor
open Go.RowKit

set_option linter.unusedVariables false

set_option maxRecDepth 100000


def intC (x : Int) : List Value := [.int .i64 x]

theorem intC_len (x : Int) : (intC x).length = 1 := rfl

theorem flat_intC (xs : List Int) : xs.flatMap intC = xs.map (Value.int .i64) := by
  induction xs with
  | nil => rfl
  | cons x t ih => rw [List.flatMap_cons, ih]; rfl

theorem readsK_to {B : Nat} {w : World} {v : Value} {xs : List Int} (h : ReadsR 1 intC B w v xs) : Reads B w v (xs.map (Value.int .i64)) := by
  obtain ⟨o, cap, hv, hm, hc, hr⟩ := h
  refine ⟨o, cap, by rw [List.length_map]; exact hv, by rw [List.length_map]; exact hm, fun i u hi => ?_, by rw [List.length_map]; exact hr⟩
  rw [List.getElem?_map] at hi
  cases hx : xs[i]? with
  | none => rw [hx] at hi; cases hi
  | some x =>
    rw [hx] at hi
    simp only [Option.map_some, Option.some.injEq] at hi
    subst hi
    obtain ⟨g, off, e, hg, hc'⟩ := hc i x hx
    exact ⟨g, off, e, hg, by simpa using hc' 0 _ rfl⟩

/-- A plain: its cells, and the values that it reads. -/
structure Pk where
  nm : ByteArray
  sz : Int
  m : Value
  rs : List Int
  fx : Bool
  ep : Int

def pkC (b : Pk) : List Value := [.string b.nm, .int .i64 b.sz, b.m, .bool b.fx, .int .i64 b.ep]

theorem pkC_len (b : Pk) : (pkC b).length = 5 := rfl

/-- A row of plains that is read, the values too. -/
structure ReadsK (B : Nat) (w : World) (v : Value) (bs : List Pk) : Prop where
  row : ReadsR 5 pkC B w v bs
  maps : ∀ b ∈ bs, ReadsR 1 intC B w b.m b.rs

theorem ReadsK.below {B : Nat} {w w' : World} {v : Value} {bs : List Pk} (h : ReadsK B w v bs) (k : Below B w w') : ReadsK B w' v bs := ⟨h.row.below k, fun b hb => (h.maps b hb).below k⟩

theorem ReadsK.mono {B B' : Nat} {w : World} {v : Value} {bs : List Pk} (h : ReadsK B w v bs) (k : B ≤ B') : ReadsK B' w v bs := ⟨h.row.mono k, fun b hb => (h.maps b hb).mono k⟩
end Go.Proofs.YtcefcglonooelaaGreatDoor

namespace Go.Proofs.YtcefcglonooelaaGreatDoor
open Go.RowKit

set_option linter.unusedVariables false

set_option maxRecDepth 100000


/-- A plain, all of it but where its values lie. -/
structure Pv where
  nm : ByteArray
  sz : Int
  vs : List Int
  fx : Bool
  ep : Int

def Pk.pv (b : Pk) : Pv := ⟨b.nm, b.sz, b.rs, b.fx, b.ep⟩

def valuesB (vs : List Int) : Bool := vs.all (fun v => decide (0 ≤ v) && decide (v ≤ 999))

def plainOk (nm : ByteArray) (sz : Int) (vs : List Int) (ep : Int) : Bool :=
  valuesB vs && Nums.nameB nm.data.toList && (decide (1 ≤ sz) && decide (sz ≤ 16)) && (decide (0 ≤ ep) && decide (ep ≤ 1000)) && decide ((vs.length : Int) = sz)

def Pv.ok (p : Pv) : Bool := plainOk p.nm p.sz p.vs p.ep

def plainsOk (bs : List Pv) : Bool := decide (bs.length ≤ 6) && bs.all Pv.ok && sortedB (bs.map Pv.nm)

theorem plains_no_many {bs : List Pv} (h : 6 < bs.length) : plainsOk bs = false := by
  have h6 : ¬ bs.length ≤ 6 := by omega
  simp [plainsOk, h6]

theorem plains_no_one {bs : List Pv} (i : Nat) (hi : i < bs.length) (h : bs[i].ok = false) : plainsOk bs = false := by
  have : bs.all Pv.ok = false := by rw [List.all_eq_false]; exact ⟨bs[i], List.getElem_mem hi, by rw [h]; decide⟩
  simp [plainsOk, this]

theorem plains_no_order {bs : List Pv} (i : Nat) (hi : i + 1 < bs.length) (h : ltB bs[i].nm bs[i + 1].nm = false) : plainsOk bs = false := by
  have : sortedB (bs.map Pv.nm) = false := sorted_not _ i (by simpa using hi) (by simpa using h)
  simp [plainsOk, this]

theorem plains_by {bs : List Pv} (h3 : ∀ (i : Nat) (hi : i < bs.length), bs[i].ok = true) (h4 : ∀ (i : Nat) (hi : i + 1 < bs.length), ltB (bs[i]'(by omega)).nm bs[i + 1].nm = true) : plainsOk bs = decide (bs.length ≤ 6) := by
  have h5 : sortedB (bs.map Pv.nm) = true := sorted_adj _ (fun j h1 => by simpa using h4 j (by simpa using h1))
  have h6 : bs.all Pv.ok = true := List.all_eq_true.2 (fun b hb => by obtain ⟨j, hj, rfl⟩ := List.getElem_of_mem hb; exact h3 j hj)
  simp [plainsOk, h5, h6]

theorem values_no {vs : List Int} (i : Nat) (hi : i < vs.length) (h : (decide (0 ≤ vs[i]) && decide (vs[i] ≤ 999)) = false) : valuesB vs = false := by
  rw [valuesB, List.all_eq_false]
  exact ⟨vs[i], List.getElem_mem hi, by rw [h]; decide⟩

theorem values_yes {vs : List Int} (h : ∀ (i : Nat) (hi : i < vs.length), (decide (0 ≤ vs[i]) && decide (vs[i] ≤ 999)) = true) : valuesB vs = true := by
  rw [valuesB, List.all_eq_true]
  intro x hx
  obtain ⟨j, hj, rfl⟩ := List.getElem_of_mem hx
  exact h j hj

/-- The same as books without pages. -/
def Pv.pb (p : Pv) : Pb := ⟨p.nm, p.sz, [], p.fx, p.ep⟩

def rightVs (p : Pv) : Bool := decide ((p.vs.length : Int) = p.sz) && valuesB p.vs

theorem ok_parts (p : Pv) : p.ok = (p.pb.ok && rightVs p) := by
  have e : p.pb.ok = (Nums.nameB p.nm.data.toList && (decide (1 ≤ p.sz) && decide (p.sz ≤ 16)) && (decide (0 ≤ p.ep) && decide (p.ep ≤ 1000))) := by
    show bookOk p.nm p.sz [] p.ep = _
    rw [bookOk, show mapOk [] = true from rfl, endsBy_nil, Bool.and_true, Bool.and_true]
  rw [e, Pv.ok, plainOk, rightVs]
  generalize (decide (1 ≤ p.sz) && decide (p.sz ≤ 16)) = x1
  generalize (decide (0 ≤ p.ep) && decide (p.ep ≤ 1000)) = x2
  generalize Nums.nameB p.nm.data.toList = x3
  generalize valuesB p.vs = x4
  generalize decide ((p.vs.length : Int) = p.sz) = x5
  cases x1 <;> cases x2 <;> cases x3 <;> cases x4 <;> cases x5 <;> rfl

theorem plainsOk_by (bs : List Pv) : plainsOk bs = (decide (bs.length ≤ 6) && ((bs.map Pv.pb).all Pb.ok && sortedB ((bs.map Pv.pb).map Pb.nm)) && bs.all rightVs) := by
  have e1 : bs.all Pv.ok = ((bs.map Pv.pb).all Pb.ok && bs.all rightVs) := by
    induction bs with
    | nil => rfl
    | cons b t ih =>
      simp only [List.all_cons, List.map_cons, ih, ok_parts]
      cases b.pb.ok <;> cases rightVs b <;> cases ((t.map Pv.pb).all Pb.ok) <;> cases (t.all rightVs) <;> rfl
  have e2 : (bs.map Pv.pb).map Pb.nm = bs.map Pv.nm := by rw [List.map_map]; rfl
  rw [plainsOk, e1, e2]
  generalize decide (bs.length ≤ 6) = x1
  generalize (bs.map Pv.pb).all Pb.ok = x2
  generalize bs.all rightVs = x3
  generalize sortedB (bs.map Pv.nm) = x4
  cases x1 <;> cases x2 <;> cases x3 <;> cases x4 <;> rfl

/-- One cell of each value. -/
theorem one_cellK {B : Nat} {w : World} {o : Option Addr} {vs : List Int} (hc : ∀ i x, vs[i]? = some x → ∃ g off, o = some ⟨g, off, none⟩ ∧ g < B ∧ ∀ j u, (intC x)[j]? = some u → w.cell? ⟨g, off + i * 1 + j, none⟩ = some u) (i : Nat) (hi : i < vs.length) :
    ∃ g off, o = some ⟨g, off, none⟩ ∧ g < B ∧ w.cell? ⟨g, off + i, none⟩ = some (.int .i64 vs[i]) := by
  obtain ⟨g, off, e, hg, hx⟩ := hc i vs[i] (List.getElem?_eq_getElem hi)
  exact ⟨g, off, e, hg, by simpa using hx 0 _ rfl⟩
end Go.Proofs.YtcefcglonooelaaGreatDoor

namespace Go.Proofs.YtcefcglonooelaaGreatDoor
set_option linter.unusedVariables false

set_option maxRecDepth 100000


def valAt (ps : List Int) (rs : List (Int × Int × Int)) (k : Nat) : Int := if (pages rs).getD k 0 < 0 then 0 else ps.getD ((pages rs).getD k 0).toNat 0

def shownV (ps : List Int) (rs : List (Int × Int × Int)) (n : Nat) : List Int := (List.range n).map (valAt ps rs)

theorem shownV_succ (ps : List Int) (rs : List (Int × Int × Int)) (n : Nat) : shownV ps rs (n + 1) = shownV ps rs n ++ [valAt ps rs n] := by simp [shownV, List.range_succ]

theorem shownV_len (ps : List Int) (rs : List (Int × Int × Int)) (n : Nat) : (shownV ps rs n).length = n := by simp [shownV]

def shownP (ps : List Int) (b : Pb) : Pv := ⟨b.nm, b.sz, shownV ps b.rs b.sz.toNat, b.fx, b.ep⟩

theorem shown_parts {s : Sf} (h : ShInv s) (i : Nat) (hi : i < s.bs.length) : mapOk s.bs[i].rs = true ∧ (1 ≤ s.bs[i].sz ∧ s.bs[i].sz ≤ 16) ∧ ∀ k, k < 16 → -1 ≤ (pages s.bs[i].rs).getD k 0 ∧ (pages s.bs[i].rs).getD k 0 < s.ps.length := by
  obtain ⟨-, hs, -, hm, -⟩ := book_parts (h.oks _ (List.getElem_mem hi))
  refine ⟨hm, hs, fun k hk => ⟨(pages_range _ hm k hk).1, ?_⟩⟩
  by_cases h0 : 0 ≤ (pages s.bs[i].rs).getD k 0
  · have hl : k < (pages s.bs[i].rs).length := by rw [pages_length]; exact hk
    have e : (pages s.bs[i].rs).getD k 0 = (pages s.bs[i].rs)[k] := by simp [hl]
    have := (h.page i hi _ (by rw [e]; exact List.getElem_mem hl) h0).1
    have h2 := h.cells.p
    omega
  · have := h.cells.p
    have := h.n1
    omega
end Go.Proofs.YtcefcglonooelaaGreatDoor

namespace Go.Proofs.YtcefcglonooelaaGreatDoor
open Go.RowKit

set_option linter.unusedVariables false

set_option maxRecDepth 100000


/-- All of a book but where its map lies. -/
def bareK (b : Pk) : ByteArray × Int × List Int × Bool × Int := (b.nm, b.sz, b.rs, b.fx, b.ep)

theorem bare_len {bs ms : List Pk} (h : ms.map bareK = bs.map bareK) : ms.length = bs.length := by simpa using congrArg List.length h

theorem bare_at {bs ms : List Pk} (h : ms.map bareK = bs.map bareK) (k : Nat) (h1 : k < ms.length) (h2 : k < bs.length) : bareK ms[k] = bareK bs[k] := by
  have e : (ms.map bareK)[k]? = (bs.map bareK)[k]? := by rw [h]
  simpa [h1, h2] using e

/-- A book's five cells in a row. -/
theorem five_cellsK {B : Nat} {w : World} {o : Option Addr} {bs : List Pk} (hc : ∀ i x, bs[i]? = some x → ∃ g off, o = some ⟨g, off, none⟩ ∧ g < B ∧ ∀ j u, (pkC x)[j]? = some u → w.cell? ⟨g, off + i * 5 + j, none⟩ = some u) (i : Nat) (hi : i < bs.length) :
    ∃ g off, o = some ⟨g, off, none⟩ ∧ g < B ∧ w.cell? ⟨g, off + i * 5, none⟩ = some (.string bs[i].nm) ∧ w.cell? ⟨g, off + i * 5 + 1, none⟩ = some (.int .i64 bs[i].sz) ∧ w.cell? ⟨g, off + i * 5 + 2, none⟩ = some bs[i].m ∧ w.cell? ⟨g, off + i * 5 + 3, none⟩ = some (.bool bs[i].fx) ∧ w.cell? ⟨g, off + i * 5 + 4, none⟩ = some (.int .i64 bs[i].ep) := by
  obtain ⟨g, off, e, hg, hx⟩ := hc i bs[i] (List.getElem?_eq_getElem hi)
  exact ⟨g, off, e, hg, hx 0 _ rfl, hx 1 _ rfl, hx 2 _ rfl, hx 3 _ rfl, hx 4 _ rfl⟩

theorem Tryz.infoPlain : (Tryz.prog.info? 51).map (fun i => (i.zero, i.size, i.bytes)) = some (some (.agg #[.string ByteArray.empty, .int .i64 0, .slice none 0 0, .bool false, .int .i64 0]), 5, 64) := by kernel_rfl

/-- A whole book is written. -/
theorem own_plain {w : World} {base g n cap : Nat} {xs : List Pk} (h : w.ownsRow base 51 5 (.slice (some ⟨g, 0, none⟩) n cap) xs.length (xs.flatMap pkC)) (i : Nat) (hi : i < xs.length) (y : Pk) :
    (((((w.setCell ⟨g, i * 5, none⟩ (.string y.nm)).setCell ⟨g, i * 5 + 1, none⟩ (.int .i64 y.sz)).setCell ⟨g, i * 5 + 2, none⟩ y.m).setCell ⟨g, i * 5 + 3, none⟩ (.bool y.fx)).setCell ⟨g, i * 5 + 4, none⟩ (.int .i64 y.ep)).ownsRow base 51 5 (.slice (some ⟨g, 0, none⟩) n cap) (xs.set i y).length ((xs.set i y).flatMap pkC) := by
  obtain ⟨x, hx⟩ : ∃ x, xs[i] = x := ⟨_, rfl⟩
  have hxi : xs[i]? = some x := by rw [List.getElem?_eq_getElem hi, hx]
  have h1 := own_put pkC_len h i 0 x ⟨y.nm, x.sz, x.m, x.rs, x.fx, x.ep⟩ (.string y.nm) hxi (by omega) rfl
  have h2 := own_put pkC_len h1 i 1 ⟨y.nm, x.sz, x.m, x.rs, x.fx, x.ep⟩ ⟨y.nm, y.sz, x.m, x.rs, x.fx, x.ep⟩ (.int .i64 y.sz) (by simp [hi]) (by omega) rfl
  have h3 := own_put pkC_len h2 i 2 ⟨y.nm, y.sz, x.m, x.rs, x.fx, x.ep⟩ ⟨y.nm, y.sz, y.m, x.rs, x.fx, x.ep⟩ y.m (by simp [hi]) (by omega) rfl
  have h4 := own_put pkC_len h3 i 3 ⟨y.nm, y.sz, y.m, x.rs, x.fx, x.ep⟩ ⟨y.nm, y.sz, y.m, x.rs, y.fx, x.ep⟩ (.bool y.fx) (by simp [hi]) (by omega) rfl
  have h5 := own_put pkC_len h4 i 4 ⟨y.nm, y.sz, y.m, x.rs, y.fx, x.ep⟩ y (.int .i64 y.ep) (by simp [hi]) (by omega) rfl
  rw [List.set_set, List.set_set, List.set_set, List.set_set] at h5
  exact h5

theorem own_fiveK {w : World} {base g n cap : Nat} {xs : List Pk} (h : w.ownsRow base 51 5 (.slice (some ⟨g, 0, none⟩) n cap) xs.length (xs.flatMap pkC)) (i : Nat) (hi : i < xs.length) :
    (w.cell? ⟨g, i * 5, none⟩ = some (.string xs[i].nm) ∧ w.cell? ⟨g, i * 5 + 1, none⟩ = some (.int .i64 xs[i].sz) ∧ w.cell? ⟨g, i * 5 + 2, none⟩ = some xs[i].m ∧ w.cell? ⟨g, i * 5 + 3, none⟩ = some (.bool xs[i].fx) ∧ w.cell? ⟨g, i * 5 + 4, none⟩ = some (.int .i64 xs[i].ep)) ∧ w.frozen? ⟨g, i * 5, none⟩ = false ∧ w.frozen? ⟨g, i * 5 + 1, none⟩ = false ∧ w.frozen? ⟨g, i * 5 + 2, none⟩ = false ∧ w.frozen? ⟨g, i * 5 + 3, none⟩ = false ∧ w.frozen? ⟨g, i * 5 + 4, none⟩ = false := by
  obtain ⟨a0, b0⟩ := own_cell pkC_len h i 0 _ (List.getElem?_eq_getElem hi) (by omega)
  obtain ⟨a1, b1⟩ := own_cell pkC_len h i 1 _ (List.getElem?_eq_getElem hi) (by omega)
  obtain ⟨a2, b2⟩ := own_cell pkC_len h i 2 _ (List.getElem?_eq_getElem hi) (by omega)
  obtain ⟨a3, b3⟩ := own_cell pkC_len h i 3 _ (List.getElem?_eq_getElem hi) (by omega)
  obtain ⟨a4, b4⟩ := own_cell pkC_len h i 4 _ (List.getElem?_eq_getElem hi) (by omega)
  exact ⟨⟨a0, a1, a2, a3, a4⟩, b0, b1, b2, b3, b4⟩

/-- A row of books of one's own: the row, and each map. -/
structure OwnK (base : Nat) (w : World) (v : Value) (bs : List Pk) : Prop where
  row : w.ownsRow base 51 5 v bs.length (bs.flatMap pkC)
  maps : ∀ b ∈ bs, w.ownsRow base 2 1 b.m b.rs.length (b.rs.flatMap intC)

theorem OwnK.reads {base : Nat} {w : World} {v : Value} {bs : List Pk} (h : OwnK base w v bs) : ReadsK w.heap.size w v bs := ⟨ReadsR.of_own pkC_len h.row, fun b hb => ReadsR.of_own intC_len (h.maps b hb)⟩

theorem OwnK.below {base : Nat} {w w' : World} {v : Value} {bs : List Pk} (h : OwnK base w v bs) (k : Below w.heap.size w w') : OwnK base w' v bs := ⟨owns_below h.row k, fun b hb => owns_below (h.maps b hb) k⟩

theorem OwnK.mono {base base' : Nat} {w : World} {v : Value} {bs : List Pk} (h : OwnK base w v bs) (k : base' ≤ base) : OwnK base' w v bs := ⟨owns_mono h.row k, fun b hb => owns_mono (h.maps b hb) k⟩

/-- No two maps lie in one block. -/
def ApartK (ms : List Pk) : Prop := ms.Pairwise (fun a b => ∀ g, a.m.ownBlock = some g → b.m.ownBlock ≠ some g)

theorem ApartK.snoc {ms : List Pk} (h : ApartK ms) (y : Pk) (hy : ∀ b ∈ ms, ∀ g, b.m.ownBlock = some g → y.m.ownBlock ≠ some g) : ApartK (ms ++ [y]) :=
  List.pairwise_append.2 ⟨h, List.pairwise_singleton _ _, fun a ha b hb => by simp only [List.mem_singleton] at hb; subst hb; exact hy a ha⟩
end Go.Proofs.YtcefcglonooelaaGreatDoor

namespace Go.Proofs.YtcefcglonooelaaGreatDoor
open Go.RowKit

set_option linter.unusedVariables false


set_option maxHeartbeats 1600000 in
theorem l9Ok_any (nm : ByteArray) (sz : Int) (m : Value) (rs : List Int) (fx : Bool) (ep : Int) (w : World) (hn : nm.size ≤ maxLen) (r : ReadsR 1 intC w.heap.size w m rs) :
    Calls Tryz.prog 48 #[.agg #[.string nm, .int .i64 sz, m, .bool fx, .int .i64 ep]] w fun e w' => e = .returned (.bool (plainOk nm sz rs ep)) ∧ Below w.heap.size w w' := by
  obtain ⟨o, cap, rfl, hm, hc, -⟩ := r
  have C1 : Hid _ := one_cellK hc
  obtain ⟨W0, hW0, k0, d0, z0⟩ := box1 w #[.string nm, .int .i64 sz, .slice o rs.length cap, .bool fx, .int .i64 ep] 51
  have HW0 : Hid (W0 = _) := hW0
  have HM := hm
  unfold maxLen at hm
  clear hW0 hc
  go_enter Tryz.func48, Tryz.ntmps48
  go_wp2_with fail
  rw [← HW0.out]
  clear HW0
  have p0 := at_cell k0 0
  have p1 := at_cell k0 1
  have p2 := at_cell k0 2
  have p4 := at_cell k0 4
  go_loopw [3] (fun i wr => ∃ k : Nat, k ≤ rs.length ∧ i = .int .i64 k ∧ (∀ j (hj : j < rs.length), j < k → (decide (0 ≤ rs[j]) && decide (rs[j] ≤ 999)) = true) ∧ wr = W0) (fun i _ => rs.length - (intOf i).toNat)
  case atStart => exact ⟨0, Nat.zero_le _, rfl, fun j _ h => by omega, rfl⟩
  case round =>
    obtain ⟨k, hk, rfl, hall, rfl⟩ := hrel
    have HA : Hid _ := hall
    clear hall
    by_cases hlt : k < rs.length
    · obtain ⟨g, off, rfl, hg, c0⟩ := C1.out k hlt
      replace c0 := (d0.cell (p := ⟨g, off + k, none⟩) hg).trans c0
      obtain ⟨x, hx⟩ : ∃ x, rs[k] = x := ⟨_, rfl⟩
      have HX : Hid (rs[k] = x) := hx
      rw [hx] at c0
      clear hx
      have i0 : (0 : Int) ≤ (k : Int) := by omega
      have i1 : (k : Int) < (rs.length : Int) := by omega
      go_wp2_with fail
      refine (l1In_any x 0 999 _).mono ?_
      rintro e w' ⟨rfl, rfl⟩
      cases hv : (decide (0 ≤ x) && decide (x ≤ 999))
      · have HV : Hid (plainOk nm sz rs ep = false) := by
          have := values_no k hlt (by rw [HX.out]; exact hv)
          simp [Hid, plainOk, this]
        clear hv c0 p0 p1 p2 p4
        go_wp2_with fail
        go_ret
        exact ⟨ret_bool HV.out.symm, d0⟩
      · have HN : Hid (∀ j (hj : j < rs.length), j < k + 1 → (decide (0 ≤ rs[j]) && decide (rs[j] ≤ 999)) = true) := fun j hj hjk => by
          rcases Nat.lt_or_ge j k with y | y
          · exact HA.out j hj y
          · obtain rfl : j = k := by omega
            rw [HX.out]; exact hv
        clear hv c0
        go_wp2_with fail
        go_roundw
        case rel => exact ⟨k + 1, by omega, by go_num, HN.out, trivial⟩
        case measure => simp [intOf]; omega
    · have HV : Hid (valuesB rs = true) := values_yes (fun j hj => HA.out j hj (by omega))
      have i1 : ¬ (k : Int) < (rs.length : Int) := by omega
      clear HA C1
      go_wp2_with fail
      refine (specName_any nm _ hn).mono ?_
      rintro e w' ⟨rfl, rfl⟩
      cases h1 : Nums.nameB nm.data.toList
      · have HV : Hid (plainOk nm sz rs ep = false) := by simp [Hid, plainOk, h1]
        clear h1 k0
        go_wp2_with fail
        go_ret
        exact ⟨ret_bool HV.out.symm, d0⟩
      have H1 : Hid _ := h1
      clear h1
      go_wp2_with fail
      refine (l1In_any sz 1 16 _).mono ?_
      rintro e w' ⟨rfl, rfl⟩
      cases h2 : (decide (1 ≤ sz) && decide (sz ≤ 16))
      · have HV : Hid (plainOk nm sz rs ep = false) := by simp [Hid, plainOk, h2]
        clear h2 k0
        go_wp2_with fail
        go_ret
        exact ⟨ret_bool HV.out.symm, d0⟩
      have H2 : Hid _ := h2
      clear h2
      go_wp2_with fail
      refine (l1In_any ep 0 1000 _).mono ?_
      rintro e w' ⟨rfl, rfl⟩
      cases h3 : (decide (0 ≤ ep) && decide (ep ≤ 1000))
      · have HV : Hid (plainOk nm sz rs ep = false) := by simp [Hid, plainOk, h3]
        clear h3 k0
        go_wp2_with fail
        go_ret
        exact ⟨ret_bool HV.out.symm, d0⟩
      have HP : Hid (plainOk nm sz rs ep = decide ((rs.length : Int) = sz)) := by rw [Hid, plainOk, HV.out, H1.out, H2.out, h3]; rfl
      have hwl : IntKind.i64.wrap (rs.length : Int) = (rs.length : Int) := by rw [IntKind.wrap_i64]; omega
      clear h3 k0
      go_wp2_with fail
      go_ret
      exact ⟨ret_bool (by rw [HP.out]; first | rfl | simp), d0⟩

set_option maxRecDepth 100000 in
set_option maxHeartbeats 6400000 in
theorem specPlainsOk_any (vb : Value) (bks : List Pk) (w : World) (hn : ∀ b ∈ bks, b.nm.size ≤ maxLen) (rb : ReadsK w.heap.size w vb bks) :
    Calls Tryz.prog 14 #[vb] w fun e w' => e = .returned (.bool (plainsOk (bks.map Pk.pv))) ∧ Below w.heap.size w w' := by
  have HN : Hid _ := hn
  obtain ⟨ob, cpb, f3, mb, cb, -⟩ := rb.row
  subst f3
  unfold maxLen at mb
  have CB : Hid _ := five_cellsK cb
  have RM : Hid _ := rb.maps
  clear hn rb cb
  obtain ⟨bs, hbs⟩ : ∃ bs, bks.map Pk.pv = bs := ⟨_, rfl⟩
  have hbl : bs.length = bks.length := by rw [← hbs, List.length_map]
  have HAT : Hid (∀ (i : Nat) (h1 : i < bks.length) (h2 : i < bs.length), bs[i] = bks[i].pv) := fun i h1 h2 => by subst hbs; simp
  rw [hbs]
  have HBL : Hid (bs.length = bks.length) := hbl
  clear hbs hbl
  go_enter Tryz.func14, Tryz.ntmps14
  go_wp2_with fail
  go_loopw [3] (fun i wr => ∃ q : Nat, q ≤ bks.length ∧ i = .int .i64 q ∧ (∀ j (hj : j < bs.length), j < q → bs[j].ok = true) ∧ (∀ j (hj : j + 1 < bs.length), j + 1 < q → ltB (bs[j]'(by omega)).nm bs[j + 1].nm = true) ∧ Below w.heap.size w wr) (fun i _ => bks.length - (intOf i).toNat)
  case atStart => exact ⟨0, Nat.zero_le _, rfl, fun j _ h => by omega, fun j _ h => by omega, Below.refl _ _⟩
  case round =>
    obtain ⟨q, hq, rfl, hoks, hsrt, hb⟩ := hrel
    have HOKS : Hid _ := hoks
    have HSRT : Hid _ := hsrt
    clear hoks hsrt
    by_cases hlt : q < bks.length
    · obtain ⟨g, off, rfl, hg, a0, a1, a2, a3, a4⟩ := CB.out q hlt
      have hltb : q < bs.length := by have := HBL.out; omega
      have rm := (RM.out bks[q] (List.getElem_mem hlt)).below hb
      have hnm := HN.out bks[q] (List.getElem_mem hlt)
      have hat := HAT.out q hlt hltb
      have HPREV : Hid (∀ q', q = q' + 1 → ∃ (h : q' < bs.length), wr.cell? ⟨g, off + q' * 5, none⟩ = some (.string bs[q'].nm)) := fun q' e => by
        have hl' : q' < bks.length := by omega
        obtain ⟨g', off', e', hg', c0, -⟩ := CB.out q' hl'
        cases e'
        have hl2 : q' < bs.length := by have := HBL.out; omega
        refine ⟨hl2, ?_⟩
        rw [HAT.out q' hl' hl2]
        exact (hb.cell (p := ⟨g, off + q' * 5, none⟩) hg).trans c0
      obtain ⟨x, hx⟩ : ∃ x, bks[q] = x := ⟨_, rfl⟩
      rw [hx] at a0 a1 a2 a3 a4 rm hnm hat
      clear hx
      obtain ⟨nm, sz, m, rs, fx, ep⟩ := x
      simp only at a0 a1 a2 a3 a4 rm hnm
      obtain ⟨o', cap', hm'⟩ := rm.form
      subst hm'
      have lg : g < wr.heap.size := Nat.lt_of_lt_of_le hg hb.size
      have hne := BelowOf.any wr
      have c0 := BelowOf.cell ((hb.cell (p := ⟨g, off + q * 5, none⟩) hg).trans a0) lg
      have c1 := BelowOf.cell ((hb.cell (p := ⟨g, off + q * 5 + 1, none⟩) hg).trans a1) lg
      have c2 := BelowOf.cell ((hb.cell (p := ⟨g, off + q * 5 + 2, none⟩) hg).trans a2) lg
      have c3 := BelowOf.cell ((hb.cell (p := ⟨g, off + q * 5 + 3, none⟩) hg).trans a3) lg
      have c4 := BelowOf.cell ((hb.cell (p := ⟨g, off + q * 5 + 4, none⟩) hg).trans a4) lg
      obtain ⟨okv, hok⟩ : ∃ x, plainOk nm sz rs ep = x := ⟨_, rfl⟩
      have HOK : Hid (plainOk nm sz rs ep = okv) := hok
      have HBO : Hid (bs[q].ok = okv) := by rw [Hid, hat]; exact hok
      have HBN : Hid (bs[q].nm = nm) := by rw [Hid, hat]; rfl
      have H52 : ∀ z : BelowOf wr, Calls Tryz.prog 48 #[.agg #[.string nm, .int .i64 sz, .slice o' rs.length cap', .bool fx, .int .i64 ep]] z.w' fun e w' => e = .returned (.bool okv) ∧ Below z.w'.heap.size z.w' w' := fun z => by have h := l9Ok_any nm sz _ rs fx ep z.w' hnm (rm.of hb.size z); rwa [HOK.out] at h
      have i0 : (0 : Int) ≤ (q : Int) := by omega
      have i1 : (q : Int) < (bks.length : Int) := by omega
      clear hok hat a0 a1 a2 a3 a4
      go_upto_region 4 with fail
      go_cut [33] (fun v wx => ∃ y : Bool, v = .bool y ∧ (y = true → plainsOk bs = false) ∧ (y = false → okv = true ∧ ∀ q', q = q' + 1 → ∀ (h : q' < bs.length), ltB bs[q'].nm nm = true) ∧ Below wr.heap.size wr wx)
      case first =>
        cases okv
        · have HV : Hid _ := plains_no_one q hltb HBO.out
          refine wp_region_of (by kernel_rfl) (by kernel_rfl) ?_
          repeat (go_big_quiet_step ((first | (go_at_call 48; exact calls_of (H52 _)) | rfl)))
          refine wpQuiet_nil ?_
          intro w5 hw5
          obtain ⟨⟨wx, cx⟩, hwx⟩ := hw5
          have b5 : Below wr.heap.size wr w5 := by rw [hwx]; exact cx
          clear hwx cx wx
          go_wp2_with fail
          go_meet
          exact ⟨true, rfl, fun _ => HV.out, (fun h => by cases h), b5⟩
        · rcases Nat.eq_zero_or_pos q with hq0 | hqp
          · have j2 : decide (0 < q) = false := decide_eq_false (by omega)
            have HQ0 : Hid (q = 0) := hq0
            clear hq0
            refine wp_region_of (by kernel_rfl) (by kernel_rfl) ?_
            repeat (go_big_quiet_step ((first | (go_at_call 48; exact calls_of (H52 _)) | rfl)))
            refine wpQuiet_nil ?_
            intro w5 hw5
            obtain ⟨⟨wx, cx⟩, hwx⟩ := hw5
            have b5 : Below wr.heap.size wr w5 := by rw [hwx]; exact cx
            clear hwx cx wx
            go_wp2_with fail
            go_meet
            exact ⟨false, rfl, (fun h => by cases h), (fun _ => ⟨by first | rfl | trivial, fun q' h => by have := HQ0.out; omega⟩), b5⟩
          · obtain ⟨q', hqq⟩ : ∃ q', q = q' + 1 := ⟨q - 1, by omega⟩
            have HQQ : Hid (q = q' + 1) := hqq
            obtain ⟨hl2, cp⟩ := HPREV.out q' hqq
            have cP := BelowOf.cell cp lg
            obtain ⟨pn, hpn⟩ : ∃ x, bs[q'].nm = x := ⟨_, rfl⟩
            have HPN : Hid (bs[q'].nm = pn) := hpn
            rw [hpn] at cP
            have hw1 : IntKind.i64.wrap ((q : Int) - 1) = q' := by rw [IntKind.wrap_i64]; omega
            have hw2 : (q : Int) - 1 = q' := by omega
            have hw3 : IntKind.i64.wrap (q' : Int) = q' := by rw [IntKind.wrap_i64]; omega
            have j0 : (0 : Int) ≤ (q' : Int) := by omega
            have j1 : (q' : Int) < (bks.length : Int) := by omega
            have j2 : decide (0 < q) = true := decide_eq_true (by omega)
            have HGT : Hid (ltB pn nm = !(ltB nm pn || (nm.toList == pn.toList))) := ltB_gt pn nm
            obtain ⟨ly, hly⟩ : ∃ y, Op.bytesLess nm.toList pn.toList = y := ⟨_, rfl⟩
            obtain ⟨ey, hey⟩ : ∃ y, (nm.toList == pn.toList) = y := ⟨_, rfl⟩
            have HLY : Hid (ltB nm pn = ly ∧ (nm.toList == pn.toList) = ey) := ⟨hly, hey⟩
            clear hpn cp hqq hqp
            refine wp_region_of (by kernel_rfl) (by kernel_rfl) ?_
            repeat (go_big_quiet_step ((first | (go_at_call 48; exact calls_of (H52 _)) | rfl)))
            refine wpQuiet_nil ?_
            intro w5 hw5
            obtain ⟨⟨wx, cx⟩, hwx⟩ := hw5
            have b5 : Below wr.heap.size wr w5 := by rw [hwx]; exact cx
            clear hwx cx wx
            go_wp2_with fail
            go_meet
            refine ⟨(ly || ey), rfl, fun h => ?_, fun h => ⟨by first | rfl | trivial, fun q'' e hh => ?_⟩, b5⟩
            · have hf : ltB pn nm = false := by rw [HGT.out, HLY.out.1, HLY.out.2, h]; rfl
              have hq1 := HQQ.out
              subst hq1
              exact plains_no_order q' hltb (by rw [HPN.out, HBN.out]; exact hf)
            · obtain rfl : q'' = q' := by have := HQQ.out; omega
              rw [HPN.out, HGT.out, HLY.out.1, HLY.out.2, h]; rfl
      case rest =>
        obtain ⟨y, rfl, hy1, hy2, b5⟩ := hcut
        have hbc := bw_call hb b5
        clear c0 c1 c2 c3 c4 H52 hne HPREV
        cases y
        · obtain ⟨hokv, hord⟩ := hy2 rfl
          have HO : Hid (∀ j (hj : j < bs.length), j < q + 1 → bs[j].ok = true) := fun j hj hjq => by
            rcases Nat.lt_or_ge j q with y | y
            · exact HOKS.out j hj y
            · obtain rfl : j = q := by omega
              exact HBO.out.trans hokv
          have HS : Hid (∀ j (hj : j + 1 < bs.length), j + 1 < q + 1 → ltB (bs[j]'(by omega)).nm bs[j + 1].nm = true) := fun j hj hjq => by
            rcases Nat.lt_or_ge (j + 1) q with y | y
            · exact HSRT.out j hj y
            · obtain rfl : q = j + 1 := by omega
              rw [HBN.out]
              exact hord j rfl (by omega)
          clear hy1 hy2 hord hokv HOKS HSRT HOK HBO
          go_wp2_with fail
          go_roundw
          case rel => exact ⟨q + 1, by omega, by go_num, HO.out, HS.out, hbc⟩
          case measure => simp [intOf]; omega
        · have HV : Hid _ := hy1 rfl
          clear hy1 hy2
          go_wp2_with fail
          go_ret
          exact ⟨ret_bool HV.out.symm, hbc⟩
    · have HV : Hid (plainsOk bs = decide (bks.length ≤ 6)) := by
        rw [Hid, plains_by (fun j hj => HOKS.out j hj (by have := HBL.out; omega)) (fun j hj => HSRT.out j hj (by have := HBL.out; omega)), HBL.out]
      have i1 : ¬ (q : Int) < (bks.length : Int) := by omega
      clear HOKS HSRT HAT CB RM HN
      go_wp2_with fail
      go_ret
      exact ⟨ret_bool (by rw [HV.out]; exact decide_eq_decide.2 (by omega)), hb⟩
end Go.Proofs.YtcefcglonooelaaGreatDoor

namespace Go.Proofs.YtcefcglonooelaaGreatDoor
open Go.RowKit

set_option linter.unusedVariables false

set_option maxRecDepth 100000


theorem sizeOk_any (x : Int) (w : World) :
    Calls Tryz.prog 133 #[.int .i64 x] w fun e w' => e = .returned (.bool (decide (1 ≤ x) && decide (x ≤ 16))) ∧ w' = w := by
  by_cases h : (1 : Int) ≤ x
  · go_enter Tryz.func133, Tryz.ntmps133
    go_wp2
    go_ret
    exact ⟨ret_bool (by simp [h]), rfl⟩
  · go_enter Tryz.func133, Tryz.ntmps133
    go_wp2
    go_ret
    exact ⟨ret_bool (by simp; omega), rfl⟩

theorem epochOk_any (x : Int) (w : World) :
    Calls Tryz.prog 136 #[.int .i64 x] w fun e w' => e = .returned (.bool (decide (0 ≤ x) && decide (x ≤ 1000))) ∧ w' = w := by
  by_cases h : (0 : Int) ≤ x
  · go_enter Tryz.func136, Tryz.ntmps136
    go_wp2
    go_ret
    exact ⟨ret_bool (by simp [h]), rfl⟩
  · go_enter Tryz.func136, Tryz.ntmps136
    go_wp2
    go_ret
    exact ⟨ret_bool (by simp; omega), rfl⟩

set_option maxHeartbeats 800000 in
theorem implEndsBy_any (v : Value) (rs : List (Int × Int × Int)) (sz : Int) (w : World) (hok : mapOk rs = true) (r : ReadsR 3 runC w.heap.size w v rs) :
    Calls Tryz.prog 135 #[v, .int .i64 sz] w fun e w' => e = .returned (.bool (endsBy rs sz)) ∧ Below w.heap.size w w' := by
  obtain ⟨o, cap, rfl, hm, hc, -⟩ := r
  rcases Nat.eq_zero_or_pos rs.length with h0 | hpos
  · have HE : Hid (endsBy rs sz = true) := by rw [Hid, List.length_eq_zero_iff.1 h0]; rfl
    rw [h0]
    clear hok hc h0 hm
    go_enter Tryz.func135, Tryz.ntmps135
    go_wp2_with fail
    go_ret
    exact ⟨ret_bool HE.out.symm, Below.refl _ _⟩
  · obtain ⟨k, hk⟩ : ∃ k, rs.length = k + 1 := ⟨rs.length - 1, by omega⟩
    have hlt : k < rs.length := by omega
    obtain ⟨g, off, rfl, hg, a0, a1, a2⟩ := three_cells hc k hlt
    have HE : Hid _ := endsBy_at rs sz k hk
    have hin := map_in rs hok k hlt
    generalize rs[k] = x at a0 a1 a2 HE hin
    obtain ⟨f, c, p⟩ := x
    simp only at a0 a1 a2 HE hin
    have hw1 : IntKind.i64.wrap ((k : Int) + 1 - 1) = k := by unfold maxLen at hm; rw [IntKind.wrap_i64]; omega
    have hw2 : (k : Int) + 1 - 1 = k := by omega
    have hw4 : IntKind.i64.wrap (k : Int) = k := by unfold maxLen at hm; rw [IntKind.wrap_i64]; omega
    have hw3 : IntKind.i64.wrap (f + c) = f + c := by rw [IntKind.wrap_i64]; omega
    have hi0 : (0 : Int) ≤ (k : Int) := by omega
    have hi1 : (k : Int) < (k : Int) + 1 := by omega
    have hz : ((k : Int) + 1 == 0) = false := by rw [beq_eq_false_iff_ne]; omega
    rw [hk]
    clear hok hc hpos hin hk
    go_enter Tryz.func135, Tryz.ntmps135
    go_wp2_with fail
    go_ret
    exact ⟨ret_bool (by rw [HE.out]), by go_grown⟩

set_option maxHeartbeats 1600000 in
theorem implBookOk_any (nm : ByteArray) (sz : Int) (m : Value) (rs : List (Int × Int × Int)) (fx : Bool) (ep : Int) (w : World) (hn : nm.size ≤ maxLen) (hfit : FitRuns rs) (r : ReadsR 3 runC w.heap.size w m rs) :
    Calls Tryz.prog 86 #[.agg #[.string nm, .int .i64 sz, m, .bool fx, .int .i64 ep]] w fun e w' => e = .returned (.bool (bookOk nm sz rs ep)) ∧ Below w.heap.size w w' := by
  obtain ⟨o, cap, rfl⟩ := r.form
  obtain ⟨W0, hW0, k0, d0, z0⟩ := box1 w #[.string nm, .int .i64 sz, .slice o rs.length cap, .bool fx, .int .i64 ep] 87
  have r0 := (r.below d0).mono d0.size
  have HW0 : Hid (W0 = _) := hW0
  have p0 := at_cell k0 0
  have p1 := at_cell k0 1
  have p2 := at_cell k0 2
  clear hW0 r
  go_enter Tryz.func86, Tryz.ntmps86
  go_wp2_with fail
  rw [← HW0.out]
  clear HW0
  refine (implName_any nm _ hn).mono ?_
  rintro e w' ⟨rfl, rfl⟩
  cases h1 : Nums.nameB nm.data.toList
  · have HV : Hid (bookOk nm sz rs ep = false) := by simp [Hid, bookOk, h1]
    clear h1 k0
    go_wp2_with fail
    go_ret
    exact ⟨ret_bool HV.out.symm, d0⟩
  have H1 : Hid _ := h1
  clear h1
  go_wp2_with fail
  refine (sizeOk_any sz _).mono ?_
  rintro e w' ⟨rfl, rfl⟩
  cases h2 : (decide (1 ≤ sz) && decide (sz ≤ 16))
  · have HV : Hid (bookOk nm sz rs ep = false) := by simp [Hid, bookOk, h2]
    clear h2 k0
    go_wp2_with fail
    go_ret
    exact ⟨ret_bool HV.out.symm, d0⟩
  have H2 : Hid _ := h2
  clear h2
  go_wp2_with fail
  refine (implMapOk_any _ rs _ hfit r0).mono ?_
  rintro e w1 ⟨rfl, b1⟩
  replace k0 := (b1.block _ (by omega)).trans k0
  replace d0 := bw_call d0 b1
  replace r0 := (r0.below b1).mono b1.size
  have z1 := b1.size
  clear p0 p1 p2 b1
  cases h4 : mapOk rs
  · have HV : Hid (bookOk nm sz rs ep = false) := by simp [Hid, bookOk, h4]
    clear h4 k0 r0
    go_wp2_with fail
    go_ret
    exact ⟨ret_bool HV.out.symm, d0⟩
  have p1 := at_cell k0 1
  have p2 := at_cell k0 2
  have H4 : Hid _ := h4
  clear h4
  go_wp2_with fail
  clear p1 p2
  refine (implEndsBy_any _ rs sz _ H4.out r0).mono ?_
  rintro e w2 ⟨rfl, b1⟩
  replace k0 := (b1.block _ (by omega)).trans k0
  replace d0 := bw_call d0 b1
  clear b1 r0
  cases h5 : endsBy rs sz
  · have HV : Hid (bookOk nm sz rs ep = false) := by simp [Hid, bookOk, h5]
    clear h5 k0
    go_wp2_with fail
    go_ret
    exact ⟨ret_bool HV.out.symm, d0⟩
  have HV : Hid (bookOk nm sz rs ep = (decide (0 ≤ ep) && decide (ep ≤ 1000))) := by rw [Hid, bookOk, H1.out, H2.out, H4.out, h5]; simp
  have p4 := at_cell k0 4
  clear h5 H1 H2 H4 k0
  go_wp2_with fail
  refine (epochOk_any ep _).mono ?_
  rintro e w' ⟨rfl, rfl⟩
  go_wp2_with fail
  go_ret
  exact ⟨ret_bool HV.out.symm, d0⟩
end Go.Proofs.YtcefcglonooelaaGreatDoor

