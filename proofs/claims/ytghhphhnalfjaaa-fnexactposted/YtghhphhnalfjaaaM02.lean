/-
  Contracts and plain laws, one chapter behind the other.
-/
import Derived.WalkKit
import Derived.Laws.MakeOwn
import Derived.Laws.StructEq
import Derived.BigQuiet
import Derived.Deep.Cut
import Derived.Deep.WholeRow
import Derived.Deep.DeepCutAuto
import Derived.Deep.RegionHeld3
import Derived.Deep.RegionLaw
import Derived.Test.YtghhphhnalfjaaaM01
namespace Go.Proofs.Ytghhphhnalfjaaa
set_option linter.unusedVariables false

set_option maxRecDepth 100000


structure Ent where
  sq : Int
  cl : Int
  tg : Int
  o : Oq

def Ent.zero : Ent := ⟨0, 0, 0, Oq.zero⟩

/-- An entry's nine cells. -/
def entC (e : Ent) : List Value := [.int .i64 e.sq, .int .i64 e.cl, .int .i64 e.tg, .int .i64 e.o.k, .string e.o.nm, .string e.o.ot, .int .i64 e.o.at_, .int .i64 e.o.va, .int .i64 e.o.ep]

def entOk (e : Ent) : Bool := inB e.sq 1 1000 && inB e.tg 1 1000 && inB e.cl 0 3 && changes e.o

def oqEq (x y : Oq) : Bool := decide (x.k = y.k) && decide (x.nm = y.nm) && decide (x.ot = y.ot) && decide (x.at_ = y.at_) && decide (x.va = y.va) && decide (x.ep = y.ep)

def entEq (x y : Ent) : Bool := decide (x.sq = y.sq) && decide (x.cl = y.cl) && decide (x.tg = y.tg) && oqEq x.o y.o

theorem oqEq_iff (x y : Oq) : oqEq x y = true ↔ x = y := by
  cases x; cases y
  simp [oqEq, and_assoc]

theorem entEq_iff (x y : Ent) : entEq x y = true ↔ x = y := by
  cases x; cases y
  simp [entEq, oqEq_iff, and_assoc]
end Go.Proofs.Ytghhphhnalfjaaa

namespace Go.Proofs.Ytghhphhnalfjaaa
open Nums

set_option linter.unusedVariables false

set_option maxRecDepth 100000


def repOk (c v : Int) : Bool := inB c 0 9 && inB v 0 1000 && (decide (c = 0) || decide (v = 0))

/-- As the program asks: the highest first. -/
theorem repOk_by (c v : Int) : repOk c v = (inB c 0 9 && inB v 0 (if c = 0 then 1000 else 0)) := by
  unfold repOk
  by_cases h : c = 0
  · rw [if_pos h]
    simp [h]
  · rw [if_neg h, Bool.eq_iff_iff]
    simp only [Bool.and_eq_true, inB_iff, Bool.or_eq_true, decide_eq_true_eq]
    omega
end Go.Proofs.Ytghhphhnalfjaaa

namespace Go.Proofs.Ytghhphhnalfjaaa
set_option linter.unusedVariables false

set_option maxRecDepth 100000


structure Mg where
  kd : Int
  ds : Int
  vw : Int
  e : Ent
  s : Int
  rc : Int
  rv : Int

def Mg.zero : Mg := ⟨0, 0, 0, Ent.zero, 0, 0, 0⟩

/-- A letter's fifteen cells. -/
def mgC (m : Mg) : List Value := [.int .i64 m.kd, .int .i64 m.ds, .int .i64 m.vw, .int .i64 m.e.sq, .int .i64 m.e.cl, .int .i64 m.e.tg, .int .i64 m.e.o.k, .string m.e.o.nm, .string m.e.o.ot, .int .i64 m.e.o.at_, .int .i64 m.e.o.va, .int .i64 m.e.o.ep, .int .i64 m.s, .int .i64 m.rc, .int .i64 m.rv]

theorem mgC_len (m : Mg) : (mgC m).length = 15 := rfl

def asked (e : Ent) : Bool := decide (e.sq = 0) && inB e.tg 1 1000 && inB e.cl 0 3 && opOk e.o

def repEq (c v c1 v1 : Int) : Bool := decide (c = c1) && decide (v = v1)

def kindOk (m : Mg) : Bool :=
  if m.kd = 1 then asked m.e && decide (m.s = 0) && repEq m.rc m.rv 0 0
  else if m.kd = 2 then entOk m.e && decide (m.s = 0) && repEq m.rc m.rv 0 0
  else if m.kd = 3 then entEq m.e Ent.zero && inB m.s 1 120 && repEq m.rc m.rv 0 0
  else if m.kd = 4 then asked m.e && decide (m.ds = m.e.cl) && inB m.s 0 120 && repOk m.rc m.rv
  else false

def msgOk (m : Mg) : Bool := inB m.ds 0 3 && inB m.vw 1 1000 && kindOk m

/-- What its kind tells. -/
def told (m : Mg) : Mg :=
  if m.kd = 1 ∨ m.kd = 2 then ⟨m.kd, m.ds, m.vw, m.e, 0, 0, 0⟩
  else if m.kd = 3 then ⟨m.kd, m.ds, m.vw, Ent.zero, m.s, 0, 0⟩
  else if m.kd = 4 then m
  else ⟨m.kd, m.ds, m.vw, Ent.zero, 0, 0, 0⟩

def mgEq (x y : Mg) : Bool := decide (x.kd = y.kd) && decide (x.ds = y.ds) && decide (x.vw = y.vw) && entEq x.e y.e && decide (x.s = y.s) && repEq x.rc x.rv y.rc y.rv

theorem mgEq_iff (x y : Mg) : mgEq x y = true ↔ x = y := by
  cases x; cases y
  simp [mgEq, repEq, entEq_iff, and_assoc]

def kindBy (m : Mg) : Bool :=
  if m.kd = 1 then inB m.ds 0 3 && asked m.e
  else if m.kd = 2 then inB m.ds 0 3 && entOk m.e
  else if m.kd = 3 then inB m.ds 0 3 && inB m.s 1 120
  else if m.kd = 4 then decide (m.ds = m.e.cl) && asked m.e && inB m.s 0 120 && repOk m.rc m.rv
  else false

def msgBy (m : Mg) : Bool := mgEq m (told m) && inB m.vw 1 1000 && kindBy m

theorem msgOk_by (m : Mg) : msgOk m = msgBy m := by
  obtain ⟨kd, ds, vw, e, s, rc, rv⟩ := m
  by_cases h1 : kd = 1
  · subst h1
    simp only [msgOk, msgBy, kindOk, kindBy, told, mgEq, repEq, if_true, true_or, (entEq_iff e e).2 rfl]
    simp only [decide_true, Bool.true_and]
    cases inB ds 0 3 <;> cases inB vw 1 1000 <;> cases asked e <;> simp
  by_cases h2 : kd = 2
  · subst h2
    simp only [msgOk, msgBy, kindOk, kindBy, told, mgEq, repEq, if_true, or_true, (entEq_iff e e).2 rfl]
    simp only [decide_true, Bool.true_and]
    cases inB ds 0 3 <;> cases inB vw 1 1000 <;> cases entOk e <;> simp
  by_cases h3 : kd = 3
  · subst h3
    simp only [msgOk, msgBy, kindOk, kindBy, told, mgEq, repEq]
    cases inB ds 0 3 <;> cases inB vw 1 1000 <;> cases inB s 1 120 <;> simp
  by_cases h4 : kd = 4
  · subst h4
    simp only [msgOk, msgBy, kindOk, kindBy, told, mgEq, repEq]
    by_cases ht : ds = e.cl
    · subst ht
      have hc : asked e = true → inB e.cl 0 3 = true := by
        intro h
        simp only [asked, Bool.and_eq_true] at h
        exact h.1.2
      cases ha : asked e
      · simp
      · rw [hc ha]
        cases inB vw 1 1000 <;> simp [(entEq_iff e e).2 rfl]
    · simp [ht]
  · simp [msgOk, msgBy, kindOk, kindBy, h1, h2, h3, h4]
end Go.Proofs.Ytghhphhnalfjaaa

namespace Go.Proofs.Ytghhphhnalfjaaa
open Go.RowKit

set_option linter.unusedVariables false

set_option maxRecDepth 100000


/-- A cell of a block is written. -/
theorem set_at {W : World} {b : Nat} {cs : Array Value} {t : TypeId} (h : W.heap[b]? = some (.cells cs t (0, 0))) (i : Nat) (x : Value) : (W.setCell ⟨b, i, none⟩ x).heap[b]? = some (.cells (cs.setIfInBounds i x) t (0, 0)) := by
  obtain ⟨hlt, hk⟩ := Array.getElem?_eq_some_iff.1 h
  show (W.heap.modify b _)[b]? = _
  rw [Array.getElem?_eq_getElem (by rw [Array.size_modify]; exact hlt), Array.getElem_modify_self, hk]
  rfl
end Go.Proofs.Ytghhphhnalfjaaa

namespace Go.Proofs.Ytghhphhnalfjaaa
set_option linter.unusedVariables false

set_option maxRecDepth 100000


/-- A number of 64 bits; runs of such. -/
def I64 (x : Int) : Prop := -9223372036854775808 ≤ x ∧ x ≤ 9223372036854775807

/-- Is the run right, behind places that end at e, behind a run that is pv? -/
def runOk (e : Int) (pv : Option (Int × Int × Int)) (r : Int × Int × Int) : Bool :=
  decide (e ≤ r.1) && (decide (1 ≤ r.2.1) && decide (r.2.1 ≤ 16)) && decide (r.1 ≤ 16 - r.2.1) && (decide (0 ≤ r.2.2) && decide (r.2.2 ≤ 24 - r.2.1)) &&
    !(match pv with | none => false | some q => decide (r.1 = e) && decide (r.2.2 = q.2.2 + q.2.1))

def okFrom : Int → Option (Int × Int × Int) → List (Int × Int × Int) → Bool
  | _, _, [] => true
  | e, pv, r :: rs => runOk e pv r && okFrom (r.1 + r.2.1) (some r) rs

def mapOk (rs : List (Int × Int × Int)) : Bool := okFrom 0 none rs && decide (rs.length ≤ 16)
end Go.Proofs.Ytghhphhnalfjaaa

namespace Go.Proofs.Ytghhphhnalfjaaa
open Go.RowKit

set_option linter.unusedVariables false

set_option maxRecDepth 100000


/-- A slice that is read, each element by its k cells. -/
def ReadsR {α : Type} (k : Nat) (cs : α → List Value) (B : Nat) (w : World) (v : Value) (xs : List α) : Prop :=
  ∃ o cap, v = .slice o xs.length cap ∧ xs.length ≤ maxLen ∧ (∀ i x, xs[i]? = some x → ∃ g off, o = some ⟨g, off, none⟩ ∧ g < B ∧ ∀ j u, (cs x)[j]? = some u → w.cell? ⟨g, off + i * k + j, none⟩ = some u) ∧ xs.length ≤ cap

theorem ReadsR.below {α : Type} {k : Nat} {cs : α → List Value} {B : Nat} {w w' : World} {v : Value} {xs : List α} (h : ReadsR k cs B w v xs) (b : Below B w w') : ReadsR k cs B w' v xs := by
  obtain ⟨o, cap, hv, hm, hc, hr⟩ := h
  refine ⟨o, cap, hv, hm, fun i x hi => ?_, hr⟩
  obtain ⟨g, off, e, hg, hx⟩ := hc i x hi
  exact ⟨g, off, e, hg, fun j u hj => (b.cell (p := ⟨g, off + i * k + j, none⟩) hg).trans (hx j u hj)⟩

theorem ReadsR.mono {α : Type} {k : Nat} {cs : α → List Value} {B B' : Nat} {w : World} {v : Value} {xs : List α} (h : ReadsR k cs B w v xs) (b : B ≤ B') : ReadsR k cs B' w v xs := by
  obtain ⟨o, cap, hv, hm, hc, hr⟩ := h
  refine ⟨o, cap, hv, hm, fun i x hi => ?_, hr⟩
  obtain ⟨g, off, e, hg, hx⟩ := hc i x hi
  exact ⟨g, off, e, Nat.lt_of_lt_of_le hg b, hx⟩

theorem ReadsR.nil {α : Type} (k : Nat) (cs : α → List Value) (B : Nat) (w : World) : ReadsR k cs B w (.slice none 0 0) [] := ⟨Option.none, 0, rfl, Nat.zero_le _, fun j u hj => by simp at hj, Nat.le_refl _⟩

theorem ReadsR.form {α : Type} {k : Nat} {cs : α → List Value} {B : Nat} {w : World} {v : Value} {xs : List α} (h : ReadsR k cs B w v xs) : ∃ o cap, v = .slice o xs.length cap := by
  obtain ⟨o, cap, hv, _⟩ := h
  exact ⟨o, cap, hv⟩

theorem ReadsR.of {α : Type} {k : Nat} {cs : α → List Value} {B : Nat} {W : World} {v : Value} {xs : List α} (h : ReadsR k cs B W v xs) (y : B ≤ W.heap.size) (p : BelowOf W) : ReadsR k cs p.w'.heap.size p.w' v xs := ((h.mono y).below p.h).mono p.h.size

theorem flat_length {α : Type} {k : Nat} {cs : α → List Value} (hk : ∀ x, (cs x).length = k) (xs : List α) : (xs.flatMap cs).length = xs.length * k := by
  induction xs with
  | nil => simp
  | cons x xs ih => rw [List.flatMap_cons, List.length_append, hk, ih, List.length_cons, Nat.add_mul, Nat.one_mul, Nat.add_comm]

theorem flat_get {α : Type} {k : Nat} {cs : α → List Value} (hk : ∀ x, (cs x).length = k) (xs : List α) (i j : Nat) (x : α) (hi : xs[i]? = some x) (hj : j < k) : (xs.flatMap cs)[i * k + j]? = (cs x)[j]? := by
  induction xs generalizing i with
  | nil => simp at hi
  | cons y ys ih =>
    rw [List.flatMap_cons]
    match i, hi with
    | 0, hi =>
      simp at hi
      subst hi
      rw [Nat.zero_mul, Nat.zero_add, List.getElem?_append_left (by rw [hk]; exact hj)]
    | i + 1, hi =>
      rw [List.getElem?_append_right (by rw [hk, Nat.add_mul]; omega), hk, Nat.add_mul, Nat.one_mul, show i * k + k + j - k = i * k + j by omega]
      exact ih i (by simpa using hi)

theorem flat_set {α : Type} {k : Nat} {cs : α → List Value} (hk : ∀ x, (cs x).length = k) (xs : List α) (i j : Nat) (x y : α) (u : Value) (hi : xs[i]? = some x) (hj : j < k) (hy : (cs x).set j u = cs y) : (xs.flatMap cs).set (i * k + j) u = (xs.set i y).flatMap cs := by
  induction xs generalizing i with
  | nil => simp at hi
  | cons z zs ih =>
    rw [List.flatMap_cons]
    match i, hi with
    | 0, hi =>
      simp at hi
      subst hi
      rw [Nat.zero_mul, Nat.zero_add, List.set_append_left _ _ (by rw [hk]; exact hj), hy, List.set_cons_zero, List.flatMap_cons]
    | i + 1, hi =>
      rw [List.set_append_right _ _ (by rw [hk, Nat.add_mul]; omega), hk, Nat.add_mul, Nat.one_mul, show i * k + k + j - k = i * k + j by omega, ih i (by simpa using hi), List.set_cons_succ, List.flatMap_cons]

theorem ReadsR.of_own {α : Type} {k : Nat} {cs : α → List Value} (hk : ∀ x, (cs x).length = k) {w : World} {base : Nat} {e : TypeId} {v : Value} {xs : List α} (h : w.ownsRow base e k v xs.length (xs.flatMap cs)) : ReadsR k cs w.heap.size w v xs := by
  rcases h.2 with ⟨rfl, hn⟩ | ⟨g, cap, cur, rfl, hg, hh, hnc, hcm, hcs, htk⟩
  · have : xs = [] := List.length_eq_zero_iff.1 hn
    subst this
    exact ReadsR.nil _ _ _ _
  · refine ⟨some ⟨g, 0, none⟩, cap, rfl, Nat.le_trans hnc hcm, fun i x hi => ⟨g, 0, rfl, heap_lt hh, fun j u hj => ?_⟩, hnc⟩
    have hi' := (List.getElem?_eq_some_iff.1 hi).1
    have hj' : j < k := by have := (List.getElem?_eq_some_iff.1 hj).1; rw [hk] at this; exact this
    have hlt : i * k + j < xs.length * k := by
      have h1 : (i + 1) * k ≤ xs.length * k := Nat.mul_le_mul_right _ hi'
      rw [Nat.add_mul, Nat.one_mul] at h1
      omega
    rw [Nat.zero_add, h.cellAt (i * k + j) hlt, flat_get hk xs i j x hi hj', hj]

/-- One element's cell is written. -/
theorem own_put {α : Type} {k : Nat} {cs : α → List Value} (hk : ∀ x, (cs x).length = k) {w : World} {base g n cap : Nat} {e : TypeId} {xs : List α} (h : w.ownsRow base e k (.slice (some ⟨g, 0, none⟩) n cap) xs.length (xs.flatMap cs)) (i j : Nat) (x y : α) (u : Value) (hi : xs[i]? = some x) (hj : j < k) (hy : (cs x).set j u = cs y) :
    (w.setCell ⟨g, i * k + j, none⟩ u).ownsRow base e k (.slice (some ⟨g, 0, none⟩) n cap) (xs.set i y).length ((xs.set i y).flatMap cs) := by
  have hn : n = xs.length := by
    rcases h.2 with ⟨h', _⟩ | ⟨g', cap', cur, h', _⟩
    · cases h'
    · simp only [Value.slice.injEq] at h'
      exact h'.2.1
  subst hn
  have := (h.stored (i * k + j) u).1
  rw [flat_set hk xs i j x y u hi hj hy] at this
  rwa [List.length_set]

theorem own_cell {α : Type} {k : Nat} {cs : α → List Value} (hk : ∀ x, (cs x).length = k) {w : World} {base g n cap : Nat} {e : TypeId} {xs : List α} (h : w.ownsRow base e k (.slice (some ⟨g, 0, none⟩) n cap) xs.length (xs.flatMap cs)) (i j : Nat) (x : α) (hi : xs[i]? = some x) (hj : j < k) :
    w.cell? ⟨g, i * k + j, none⟩ = (cs x)[j]? ∧ w.frozen? ⟨g, i * k + j, none⟩ = false := by
  have hn : n = xs.length := by
    rcases h.2 with ⟨h', _⟩ | ⟨g', cap', cur, h', _⟩
    · cases h'
    · simp only [Value.slice.injEq] at h'
      exact h'.2.1
  subst hn
  have hi' := (List.getElem?_eq_some_iff.1 hi).1
  have h1 : (i + 1) * k ≤ xs.length * k := Nat.mul_le_mul_right _ hi'
  rw [Nat.add_mul, Nat.one_mul] at h1
  exact ⟨(h.cellAt (i * k + j) (by omega)).trans (flat_get hk xs i j x hi hj), h.frozenAt _⟩

/-- make([]T, n): n times the same cells. -/
theorem toList_made {α : Type} {k : Nat} {cs : α → List Value} (hk : ∀ x, (cs x).length = k) (hpos : 0 < k) (x : α) (z : Array Value) (hz : z.toList = cs x) (n : Nat) : (madeCells z (n * k)).toList = (List.replicate n x).flatMap cs := by
  have hs : z.size = k := by rw [← Array.length_toList, hz, hk]
  apply List.ext_getElem?
  intro j
  by_cases hj : j < n * k
  · have hd : j / k < n := Nat.div_lt_of_lt_mul (by rw [Nat.mul_comm]; exact hj)
    have hr : j % k < k := Nat.mod_lt _ hpos
    have he : j / k * k + j % k = j := by rw [Nat.mul_comm]; exact Nat.div_add_mod j k
    have h1 := flat_get hk (List.replicate n x) (j / k) (j % k) x (by simp [hd]) hr
    rw [he] at h1
    rw [h1, ← hz]
    have hr2 : j % k < z.size := by omega
    rw [Array.getElem?_toList, Array.getElem?_toList, Array.getElem?_eq_getElem hr2, madeCells, Array.getElem?_map, Array.getElem?_range, if_pos hj]
    simp [hs, getElem!_pos z (j % k) hr2]
  · have h2 := flat_length hk (List.replicate n x)
    rw [List.length_replicate] at h2
    rw [List.getElem?_eq_none (by rw [Array.length_toList, size_madeCells]; omega), List.getElem?_eq_none (by omega)]
end Go.Proofs.Ytghhphhnalfjaaa

namespace Go.Proofs.Ytghhphhnalfjaaa
open Go.RowKit

set_option linter.unusedVariables false

set_option maxRecDepth 100000


set_option maxHeartbeats 1600000 in
theorem specEntryOk_any (sq cl tg k : Int) (nm ot : ByteArray) (at_ va ep : Int) (w : World) (hn : nm.size ≤ maxLen) (ho : ot.size ≤ maxLen) :
    Calls Try.prog 54 #[.agg #[.int .i64 sq, .int .i64 cl, .int .i64 tg, .int .i64 k, .string nm, .string ot, .int .i64 at_, .int .i64 va, .int .i64 ep]] w fun e w' => e = .returned (.bool (entOk ⟨sq, cl, tg, ⟨k, nm, ot, at_, va, ep⟩⟩)) ∧ Below w.heap.size w w' := by
  obtain ⟨W0, hW0, k0, d0, z0⟩ := box1 w #[.int .i64 sq, .int .i64 cl, .int .i64 tg, .int .i64 k, .string nm, .string ot, .int .i64 at_, .int .i64 va, .int .i64 ep] 34
  have HW0 : Hid (W0 = _) := hW0
  have p0 := at_cell k0 0
  have p1 := at_cell k0 1
  have p2 := at_cell k0 2
  have p3 := at_cell k0 3
  have p4 := at_cell k0 4
  have p5 := at_cell k0 5
  have p6 := at_cell k0 6
  have p7 := at_cell k0 7
  have p8 := at_cell k0 8
  have HB : Hid (entOk ⟨sq, cl, tg, ⟨k, nm, ot, at_, va, ep⟩⟩ = ((decide (1 ≤ sq) && decide (sq ≤ 1000)) && (decide (1 ≤ tg) && decide (tg ≤ 1000)) && (decide (0 ≤ cl) && decide (cl ≤ 3)) && changes ⟨k, nm, ot, at_, va, ep⟩)) := rfl
  clear hW0 z0 k0
  go_enter Try.func54, Try.ntmps54
  go_wp2_with fail
  rw [← HW0.out]
  clear HW0
  refine (l1In_any sq 1 1000 _).mono ?_
  rintro e w' ⟨rfl, rfl⟩
  generalize (decide (1 ≤ sq) && decide (sq ≤ 1000)) = c0 at *
  cases c0
  · go_wp2_with fail
    go_ret
    exact ⟨ret_bool (by rw [HB.out]; rfl), d0⟩
  go_wp2_with fail
  refine (l1In_any tg 1 1000 _).mono ?_
  rintro e w' ⟨rfl, rfl⟩
  generalize (decide (1 ≤ tg) && decide (tg ≤ 1000)) = c1 at *
  cases c1
  · go_wp2_with fail
    go_ret
    exact ⟨ret_bool (by rw [HB.out]; rfl), d0⟩
  go_wp2_with fail
  refine (l1In_any cl 0 3 _).mono ?_
  rintro e w' ⟨rfl, rfl⟩
  generalize (decide (0 ≤ cl) && decide (cl ≤ 3)) = c2 at *
  cases c2
  · go_wp2_with fail
    go_ret
    exact ⟨ret_bool (by rw [HB.out]; rfl), d0⟩
  go_wp2_with fail
  refine (specChanges_any k nm ot at_ va ep _ hn ho).mono ?_
  rintro e w1 ⟨rfl, b1⟩
  replace d0 := bw_call d0 b1
  generalize changes ⟨k, nm, ot, at_, va, ep⟩ = c3 at *
  go_wp2_with fail
  go_ret
  exact ⟨ret_bool (by rw [HB.out]; rfl), d0⟩

/-- Numbers of 64 bits, texts that can be. -/
def FitEnt (e : Ent) : Prop := (e.o.nm.size ≤ maxLen ∧ e.o.ot.size ≤ maxLen) ∧ I64 e.sq ∧ I64 e.cl ∧ I64 e.tg ∧ I64 e.o.k ∧ I64 e.o.at_ ∧ I64 e.o.va ∧ I64 e.o.ep
end Go.Proofs.Ytghhphhnalfjaaa

namespace Go.Proofs.Ytghhphhnalfjaaa
open Go.RowKit

set_option linter.unusedVariables false

set_option maxRecDepth 100000


theorem text_iff (a b : ByteArray) : a.toList = b.toList ↔ a = b := by
  constructor
  · intro h
    apply ext_list
    rwa [ByteArray.toList_eq, ByteArray.toList_eq] at h
  · rintro rfl; rfl

theorem ent_equal (sq cl tg k : Int) (nm ot : ByteArray) (at_ va ep : Int) (sq1 cl1 tg1 k1 : Int) (nm1 ot1 : ByteArray) (at_1 va1 ep1 : Int) (w : World) : (Op.equalIn 10000 34 (.agg #[.int .i64 sq, .int .i64 cl, .int .i64 tg, .int .i64 k, .string nm, .string ot, .int .i64 at_, .int .i64 va, .int .i64 ep]) (.agg #[.int .i64 sq1, .int .i64 cl1, .int .i64 tg1, .int .i64 k1, .string nm1, .string ot1, .int .i64 at_1, .int .i64 va1, .int .i64 ep1])).run Try.prog w = .ok (entEq ⟨sq, cl, tg, ⟨k, nm, ot, at_, va, ep⟩⟩ ⟨sq1, cl1, tg1, ⟨k1, nm1, ot1, at_1, va1, ep1⟩⟩) w := by
  go_simp
  simp only [entEq, oqEq, text_iff]
  repeat' split
  all_goals simp [*]
end Go.Proofs.Ytghhphhnalfjaaa

namespace Go.Proofs.Ytghhphhnalfjaaa
open Go.RowKit

set_option linter.unusedVariables false

set_option maxRecDepth 100000


theorem specReplyOk_any (c v : Int) (w : World) :
    Calls Try.prog 55 #[.agg #[.int .i64 c, .int .i64 v]] w fun e w' => e = .returned (.bool (repOk c v)) ∧ Below w.heap.size w w' := by
  obtain ⟨W0, hW0, k0, d0, z0⟩ := box1 w #[.int .i64 c, .int .i64 v] 36
  have HW0 : Hid (W0 = _) := hW0
  have p0 := at_cell k0 0
  have p1 := at_cell k0 1
  have HB : Hid (repOk c v = (inB c 0 9 && inB v 0 1000 && (decide (c = 0) || decide (v = 0)))) := rfl
  clear hW0 k0
  go_enter Try.func55, Try.ntmps55
  go_wp2_with fail
  rw [← HW0.out]
  clear HW0
  refine (l1In_any c 0 9 _).mono ?_
  rintro e w' ⟨rfl, rfl⟩
  have HI : Hid (inB c 0 9 = (decide (0 ≤ c) && decide (c ≤ 9))) := rfl
  rw [← HI.out]
  generalize inB c 0 9 = b0 at *
  cases b0
  · go_wp2_with fail
    go_ret
    exact ⟨ret_bool (by rw [HB.out]; rfl), d0⟩
  go_wp2_with fail
  refine (l1In_any v 0 1000 _).mono ?_
  rintro e w' ⟨rfl, rfl⟩
  have HI2 : Hid (inB v 0 1000 = (decide (0 ≤ v) && decide (v ≤ 1000))) := rfl
  rw [← HI2.out]
  generalize inB v 0 1000 = b1 at *
  cases b1
  · go_wp2_with fail
    go_ret
    exact ⟨ret_bool (by rw [HB.out]; rfl), d0⟩
  clear HI HI2
  by_cases h0 : c = 0
  · subst h0
    go_wp2_with fail
    go_ret
    exact ⟨ret_bool (by rw [HB.out]; rfl), d0⟩
  · go_wp2_with fail
    go_ret
    exact ⟨ret_bool (by rw [HB.out, Bool.eq_iff_iff]; simp [h0]), d0⟩
end Go.Proofs.Ytghhphhnalfjaaa

namespace Go.Proofs.Ytghhphhnalfjaaa
open Go.RowKit

set_option linter.unusedVariables false

set_option maxRecDepth 100000


theorem cell_lt15 {w : World} {a : Addr} {v : Value} (h : w.cell? a = some v) : a.block < w.heap.size := by
  rcases Nat.lt_or_ge a.block w.heap.size with q | q
  · exact q
  · simp [World.cell?, Array.getElem?_eq_none q] at h

theorem rep_eq15 (c v c1 v1 : Int) (w : World) : (Op.equalIn 10000 36 (.agg #[.int .i64 c, .int .i64 v]) (.agg #[.int .i64 c1, .int .i64 v1])).run Try.prog w = .ok (repEq c v c1 v1) w := by
  go_simp
  simp only [repEq]
  repeat' split
  all_goals simp [*]

set_option maxHeartbeats 1600000 in
theorem l15Asked_any (sq cl tg k : Int) (nm ot : ByteArray) (at_ va ep : Int) (w : World) (hn : nm.size ≤ maxLen) (ho : ot.size ≤ maxLen) :
    Calls Try.prog 53 #[.agg #[.int .i64 sq, .int .i64 cl, .int .i64 tg, .int .i64 k, .string nm, .string ot, .int .i64 at_, .int .i64 va, .int .i64 ep]] w fun e w' => e = .returned (.bool (asked ⟨sq, cl, tg, ⟨k, nm, ot, at_, va, ep⟩⟩)) ∧ Below w.heap.size w w' := by
  obtain ⟨W0, hW0, k0, d0, z0⟩ := box1 w #[.int .i64 sq, .int .i64 cl, .int .i64 tg, .int .i64 k, .string nm, .string ot, .int .i64 at_, .int .i64 va, .int .i64 ep] 34
  have HW0 : Hid (W0 = _) := hW0
  have p0 := at_cell k0 0
  have p1 := at_cell k0 1
  have p2 := at_cell k0 2
  have p3 := at_cell k0 3
  have p4 := at_cell k0 4
  have p5 := at_cell k0 5
  have p6 := at_cell k0 6
  have p7 := at_cell k0 7
  have p8 := at_cell k0 8
  have HB : Hid (asked ⟨sq, cl, tg, ⟨k, nm, ot, at_, va, ep⟩⟩ = (decide (sq = 0) && (decide (1 ≤ tg) && decide (tg ≤ 1000)) && (decide (0 ≤ cl) && decide (cl ≤ 3)) && opOk ⟨k, nm, ot, at_, va, ep⟩)) := rfl
  clear hW0 z0 k0
  go_enter Try.func53, Try.ntmps53
  by_cases h0 : sq = 0
  case neg =>
    have HV : Hid (asked ⟨sq, cl, tg, ⟨k, nm, ot, at_, va, ep⟩⟩ = false) := by simp [Hid, asked, h0]
    clear HB
    go_wp2_with fail
    go_ret
    rw [← HW0.out]
    exact ⟨ret_bool HV.out.symm, d0⟩
  subst h0
  go_wp2_with fail
  rw [← HW0.out]
  clear HW0
  refine (l1In_any tg 1 1000 _).mono ?_
  rintro e w' ⟨rfl, rfl⟩
  generalize (decide (1 ≤ tg) && decide (tg ≤ 1000)) = c1 at *
  cases c1
  · go_wp2_with fail
    go_ret
    exact ⟨ret_bool (by rw [HB.out]; simp), d0⟩
  go_wp2_with fail
  refine (l1In_any cl 0 3 _).mono ?_
  rintro e w' ⟨rfl, rfl⟩
  generalize (decide (0 ≤ cl) && decide (cl ≤ 3)) = c2 at *
  cases c2
  · go_wp2_with fail
    go_ret
    exact ⟨ret_bool (by rw [HB.out]; simp), d0⟩
  go_wp2_with fail
  refine (specOpOk_any k nm ot at_ va ep _ hn ho).mono ?_
  rintro e w1 ⟨rfl, b1⟩
  replace d0 := bw_call d0 b1
  generalize opOk ⟨k, nm, ot, at_, va, ep⟩ = c3 at *
  go_wp2_with fail
  go_ret
  exact ⟨ret_bool (by rw [HB.out]; simp), d0⟩

set_option maxHeartbeats 6400000 in
theorem specMsgOk_any (kd ds vw sq cl tg k : Int) (nm ot : ByteArray) (at_ va ep s rc rv : Int) (w : World) (hn : nm.size ≤ maxLen) (ho : ot.size ≤ maxLen) :
    Calls Try.prog 19 #[.agg #[.int .i64 kd, .int .i64 ds, .int .i64 vw, .int .i64 sq, .int .i64 cl, .int .i64 tg, .int .i64 k, .string nm, .string ot, .int .i64 at_, .int .i64 va, .int .i64 ep, .int .i64 s, .int .i64 rc, .int .i64 rv]] w fun e w' => e = .returned (.bool (msgOk ⟨kd, ds, vw, ⟨sq, cl, tg, ⟨k, nm, ot, at_, va, ep⟩⟩, s, rc, rv⟩)) ∧ Below w.heap.size w w' := by
  obtain ⟨W0, hW0, k0, d0, z0⟩ := box1 w #[.int .i64 kd, .int .i64 ds, .int .i64 vw, .int .i64 sq, .int .i64 cl, .int .i64 tg, .int .i64 k, .string nm, .string ot, .int .i64 at_, .int .i64 va, .int .i64 ep, .int .i64 s, .int .i64 rc, .int .i64 rv] 38
  have HW0 : Hid (W0 = _) := hW0
  obtain ⟨W1, hW1, k1, d1, z1⟩ := box1 W0 #[.int .i64 0, .int .i64 0] 36
  have HW1 : Hid (W1 = _) := hW1
  have D1 : Hid (Below w.heap.size w W1) := d0.trans (d1.mono (by omega))
  have K1 := (d1.block _ (heap_lt k0)).trans k0
  have p0 := at_cell k0 0
  have p1 := at_cell k0 1
  have p2 := at_cell k0 2
  have p3 := at_cell k0 3
  have p4 := at_cell k0 4
  have p5 := at_cell k0 5
  have p6 := at_cell k0 6
  have p7 := at_cell k0 7
  have p8 := at_cell k0 8
  have p9 := at_cell k0 9
  have p10 := at_cell k0 10
  have p11 := at_cell k0 11
  have p12 := at_cell k0 12
  have p13 := at_cell k0 13
  have p14 := at_cell k0 14
  have HB : Hid (msgOk ⟨kd, ds, vw, ⟨sq, cl, tg, ⟨k, nm, ot, at_, va, ep⟩⟩, s, rc, rv⟩ = ((decide (0 ≤ ds) && decide (ds ≤ 3)) && (decide (1 ≤ vw) && decide (vw ≤ 1000)) && kindOk ⟨kd, ds, vw, ⟨sq, cl, tg, ⟨k, nm, ot, at_, va, ep⟩⟩, s, rc, rv⟩)) := rfl
  clear hW0 hW1 k0 d1 z0 z1
  go_enter Try.func19, Try.ntmps19
  go_wp2_with fail
  rw [← HW0.out]
  clear HW0
  refine (l1In_any ds 0 3 _).mono ?_
  rintro e w' ⟨rfl, rfl⟩
  generalize (decide (0 ≤ ds) && decide (ds ≤ 3)) = c0 at *
  cases c0
  · go_wp2_with fail
    go_ret
    exact ⟨ret_bool (by rw [HB.out]; rfl), d0⟩
  go_wp2_with fail
  refine (l1In_any vw 1 1000 _).mono ?_
  rintro e w' ⟨rfl, rfl⟩
  generalize (decide (1 ≤ vw) && decide (vw ≤ 1000)) = c1 at *
  cases c1
  · go_wp2_with fail
    go_ret
    exact ⟨ret_bool (by rw [HB.out]; rfl), d0⟩
  replace HB : Hid (msgOk ⟨kd, ds, vw, ⟨sq, cl, tg, ⟨k, nm, ot, at_, va, ep⟩⟩, s, rc, rv⟩ = kindOk ⟨kd, ds, vw, ⟨sq, cl, tg, ⟨k, nm, ot, at_, va, ep⟩⟩, s, rc, rv⟩) := by rw [Hid, HB.out]; simp
  clear p0 p1 p2 p3 p4 p5 p6 p7 p8 p9 p10 p11 p12 p13 p14
  have p0 := at_cell K1 0
  have p1 := at_cell K1 1
  have p2 := at_cell K1 2
  have p3 := at_cell K1 3
  have p4 := at_cell K1 4
  have p5 := at_cell K1 5
  have p6 := at_cell K1 6
  have p7 := at_cell K1 7
  have p8 := at_cell K1 8
  have p9 := at_cell K1 9
  have p10 := at_cell K1 10
  have p11 := at_cell K1 11
  have p12 := at_cell K1 12
  have p13 := at_cell K1 13
  have p14 := at_cell K1 14
  have hz1 := at_cell k1 0
  have hz2 := at_cell k1 1
  have hg := Try.eqGuardType36
  go_upto_region 4 with fail
  rw [← HW1.out]
  clear HW1
  have d0 := D1.out
  clear D1 K1 k1
  by_cases h1 : kd = 1
  · subst h1
    go_wp2_with fail
    refine (l15Asked_any sq cl tg k nm ot at_ va ep _ hn ho).mono ?_
    rintro e w1 ⟨rfl, b1⟩
    replace d0 := bw_call d0 b1
    cases ha : asked ⟨sq, cl, tg, ⟨k, nm, ot, at_, va, ep⟩⟩
    · have HA : Hid _ := ha
      clear ha
      go_wp2_with fail
      go_ret
      exact ⟨ret_bool (by rw [HB.out]; simp [kindOk, HA.out]), d0⟩
    have HA : Hid _ := ha
    clear ha
    replace p0 := (b1.cell (p := ⟨w.heap.size, 0, none⟩) (cell_lt15 p0)).trans p0
    replace p1 := (b1.cell (p := ⟨w.heap.size, 1, none⟩) (cell_lt15 p1)).trans p1
    replace p2 := (b1.cell (p := ⟨w.heap.size, 2, none⟩) (cell_lt15 p2)).trans p2
    replace p3 := (b1.cell (p := ⟨w.heap.size, 3, none⟩) (cell_lt15 p3)).trans p3
    replace p4 := (b1.cell (p := ⟨w.heap.size, 4, none⟩) (cell_lt15 p4)).trans p4
    replace p5 := (b1.cell (p := ⟨w.heap.size, 5, none⟩) (cell_lt15 p5)).trans p5
    replace p6 := (b1.cell (p := ⟨w.heap.size, 6, none⟩) (cell_lt15 p6)).trans p6
    replace p7 := (b1.cell (p := ⟨w.heap.size, 7, none⟩) (cell_lt15 p7)).trans p7
    replace p8 := (b1.cell (p := ⟨w.heap.size, 8, none⟩) (cell_lt15 p8)).trans p8
    replace p9 := (b1.cell (p := ⟨w.heap.size, 9, none⟩) (cell_lt15 p9)).trans p9
    replace p10 := (b1.cell (p := ⟨w.heap.size, 10, none⟩) (cell_lt15 p10)).trans p10
    replace p11 := (b1.cell (p := ⟨w.heap.size, 11, none⟩) (cell_lt15 p11)).trans p11
    replace p12 := (b1.cell (p := ⟨w.heap.size, 12, none⟩) (cell_lt15 p12)).trans p12
    replace p13 := (b1.cell (p := ⟨w.heap.size, 13, none⟩) (cell_lt15 p13)).trans p13
    replace p14 := (b1.cell (p := ⟨w.heap.size, 14, none⟩) (cell_lt15 p14)).trans p14
    replace hz1 := (b1.cell (cell_lt15 hz1)).trans hz1
    replace hz2 := (b1.cell (cell_lt15 hz2)).trans hz2
    by_cases hs : s = 0
    case neg =>
      go_wp2_with fail
      go_ret
      exact ⟨ret_bool (by rw [HB.out]; simp [kindOk, HA.out, hs]), d0⟩
    subst hs
    obtain ⟨bb, hbb⟩ : ∃ b, repEq rc rv 0 0 = b := ⟨_, rfl⟩
    have HEQ : ∀ W : World, (Op.equalIn 10000 36 (.agg #[.int .i64 rc, .int .i64 rv]) (.agg #[.int .i64 0, .int .i64 0])).run Try.prog W = .ok bb W := fun W => by rw [← hbb]; exact rep_eq15 _ _ _ _ W
    have HBB : Hid (repEq rc rv 0 0 = bb) := hbb
    clear hbb
    go_wp2_with fail
    go_ret
    exact ⟨ret_bool (by rw [HB.out]; simp [kindOk, HA.out, HBB.out]), d0⟩
  by_cases h2 : kd = 2
  · subst h2
    go_wp2_with fail
    refine (specEntryOk_any sq cl tg k nm ot at_ va ep _ hn ho).mono ?_
    rintro e w1 ⟨rfl, b1⟩
    replace d0 := bw_call d0 b1
    cases ha : entOk ⟨sq, cl, tg, ⟨k, nm, ot, at_, va, ep⟩⟩
    · have HA : Hid _ := ha
      clear ha
      go_wp2_with fail
      go_ret
      exact ⟨ret_bool (by rw [HB.out]; simp [kindOk, HA.out]), d0⟩
    have HA : Hid _ := ha
    clear ha
    replace p0 := (b1.cell (p := ⟨w.heap.size, 0, none⟩) (cell_lt15 p0)).trans p0
    replace p1 := (b1.cell (p := ⟨w.heap.size, 1, none⟩) (cell_lt15 p1)).trans p1
    replace p2 := (b1.cell (p := ⟨w.heap.size, 2, none⟩) (cell_lt15 p2)).trans p2
    replace p3 := (b1.cell (p := ⟨w.heap.size, 3, none⟩) (cell_lt15 p3)).trans p3
    replace p4 := (b1.cell (p := ⟨w.heap.size, 4, none⟩) (cell_lt15 p4)).trans p4
    replace p5 := (b1.cell (p := ⟨w.heap.size, 5, none⟩) (cell_lt15 p5)).trans p5
    replace p6 := (b1.cell (p := ⟨w.heap.size, 6, none⟩) (cell_lt15 p6)).trans p6
    replace p7 := (b1.cell (p := ⟨w.heap.size, 7, none⟩) (cell_lt15 p7)).trans p7
    replace p8 := (b1.cell (p := ⟨w.heap.size, 8, none⟩) (cell_lt15 p8)).trans p8
    replace p9 := (b1.cell (p := ⟨w.heap.size, 9, none⟩) (cell_lt15 p9)).trans p9
    replace p10 := (b1.cell (p := ⟨w.heap.size, 10, none⟩) (cell_lt15 p10)).trans p10
    replace p11 := (b1.cell (p := ⟨w.heap.size, 11, none⟩) (cell_lt15 p11)).trans p11
    replace p12 := (b1.cell (p := ⟨w.heap.size, 12, none⟩) (cell_lt15 p12)).trans p12
    replace p13 := (b1.cell (p := ⟨w.heap.size, 13, none⟩) (cell_lt15 p13)).trans p13
    replace p14 := (b1.cell (p := ⟨w.heap.size, 14, none⟩) (cell_lt15 p14)).trans p14
    replace hz1 := (b1.cell (cell_lt15 hz1)).trans hz1
    replace hz2 := (b1.cell (cell_lt15 hz2)).trans hz2
    by_cases hs : s = 0
    case neg =>
      go_wp2_with fail
      go_ret
      exact ⟨ret_bool (by rw [HB.out]; simp [kindOk, HA.out, hs]), d0⟩
    subst hs
    obtain ⟨bb, hbb⟩ : ∃ b, repEq rc rv 0 0 = b := ⟨_, rfl⟩
    have HEQ : ∀ W : World, (Op.equalIn 10000 36 (.agg #[.int .i64 rc, .int .i64 rv]) (.agg #[.int .i64 0, .int .i64 0])).run Try.prog W = .ok bb W := fun W => by rw [← hbb]; exact rep_eq15 _ _ _ _ W
    have HBB : Hid (repEq rc rv 0 0 = bb) := hbb
    clear hbb
    go_wp2_with fail
    go_ret
    exact ⟨ret_bool (by rw [HB.out]; simp [kindOk, HA.out, HBB.out]), d0⟩
  by_cases h3 : kd = 3
  · subst h3
    obtain ⟨be, hbe⟩ : ∃ b, entEq ⟨sq, cl, tg, ⟨k, nm, ot, at_, va, ep⟩⟩ Ent.zero = b := ⟨_, rfl⟩
    have HEE : ∀ W : World, (Op.equalIn 10000 34 (.agg #[.int .i64 sq, .int .i64 cl, .int .i64 tg, .int .i64 k, .string nm, .string ot, .int .i64 at_, .int .i64 va, .int .i64 ep]) (.agg #[.int .i64 0, .int .i64 0, .int .i64 0, .int .i64 0, .string ⟨#[]⟩, .string ⟨#[]⟩, .int .i64 0, .int .i64 0, .int .i64 0])).run Try.prog W = .ok be W := fun W => by rw [← hbe]; exact ent_equal _ _ _ _ _ _ _ _ _ _ _ _ _ _ _ _ _ _ W
    have hge := Try.eqGuardType34
    have HBE : Hid (entEq ⟨sq, cl, tg, ⟨k, nm, ot, at_, va, ep⟩⟩ Ent.zero = be) := hbe
    clear hbe
    cases be
    · go_wp2_with fail
      go_ret
      exact ⟨ret_bool (by rw [HB.out]; simp [kindOk, HBE.out]), d0⟩
    go_wp2_with fail
    refine (l1In_any s 1 120 _).mono ?_
    rintro e w' ⟨rfl, rfl⟩
    obtain ⟨bi, hbi⟩ : ∃ b, inB s 1 120 = b := ⟨_, rfl⟩
    have HBI : Hid (inB s 1 120 = bi) := hbi
    rw [inB] at hbi
    rw [hbi]
    clear hbi
    cases bi
    · go_wp2_with fail
      go_ret
      exact ⟨ret_bool (by rw [HB.out]; simp [kindOk, HBE.out, HBI.out]), d0⟩
    obtain ⟨bb, hbb⟩ : ∃ b, repEq rc rv 0 0 = b := ⟨_, rfl⟩
    have HEQ : ∀ W : World, (Op.equalIn 10000 36 (.agg #[.int .i64 rc, .int .i64 rv]) (.agg #[.int .i64 0, .int .i64 0])).run Try.prog W = .ok bb W := fun W => by rw [← hbb]; exact rep_eq15 _ _ _ _ W
    have HBB : Hid (repEq rc rv 0 0 = bb) := hbb
    clear hbb
    go_wp2_with fail
    go_ret
    exact ⟨ret_bool (by rw [HB.out]; simp [kindOk, HBE.out, HBI.out, HBB.out]), d0⟩
  by_cases h4 : kd = 4
  · subst h4
    go_wp2_with fail
    refine (l15Asked_any sq cl tg k nm ot at_ va ep _ hn ho).mono ?_
    rintro e w1 ⟨rfl, b1⟩
    replace d0 := bw_call d0 b1
    cases ha : asked ⟨sq, cl, tg, ⟨k, nm, ot, at_, va, ep⟩⟩
    · have HA : Hid _ := ha
      clear ha
      go_wp2_with fail
      go_ret
      exact ⟨ret_bool (by rw [HB.out]; simp [kindOk, HA.out]), d0⟩
    have HA : Hid _ := ha
    clear ha
    replace p0 := (b1.cell (p := ⟨w.heap.size, 0, none⟩) (cell_lt15 p0)).trans p0
    replace p1 := (b1.cell (p := ⟨w.heap.size, 1, none⟩) (cell_lt15 p1)).trans p1
    replace p2 := (b1.cell (p := ⟨w.heap.size, 2, none⟩) (cell_lt15 p2)).trans p2
    replace p3 := (b1.cell (p := ⟨w.heap.size, 3, none⟩) (cell_lt15 p3)).trans p3
    replace p4 := (b1.cell (p := ⟨w.heap.size, 4, none⟩) (cell_lt15 p4)).trans p4
    replace p5 := (b1.cell (p := ⟨w.heap.size, 5, none⟩) (cell_lt15 p5)).trans p5
    replace p6 := (b1.cell (p := ⟨w.heap.size, 6, none⟩) (cell_lt15 p6)).trans p6
    replace p7 := (b1.cell (p := ⟨w.heap.size, 7, none⟩) (cell_lt15 p7)).trans p7
    replace p8 := (b1.cell (p := ⟨w.heap.size, 8, none⟩) (cell_lt15 p8)).trans p8
    replace p9 := (b1.cell (p := ⟨w.heap.size, 9, none⟩) (cell_lt15 p9)).trans p9
    replace p10 := (b1.cell (p := ⟨w.heap.size, 10, none⟩) (cell_lt15 p10)).trans p10
    replace p11 := (b1.cell (p := ⟨w.heap.size, 11, none⟩) (cell_lt15 p11)).trans p11
    replace p12 := (b1.cell (p := ⟨w.heap.size, 12, none⟩) (cell_lt15 p12)).trans p12
    replace p13 := (b1.cell (p := ⟨w.heap.size, 13, none⟩) (cell_lt15 p13)).trans p13
    replace p14 := (b1.cell (p := ⟨w.heap.size, 14, none⟩) (cell_lt15 p14)).trans p14
    replace hz1 := (b1.cell (cell_lt15 hz1)).trans hz1
    replace hz2 := (b1.cell (cell_lt15 hz2)).trans hz2
    by_cases ht : ds = cl
    case neg =>
      go_wp2_with fail
      go_ret
      exact ⟨ret_bool (by rw [HB.out]; simp [kindOk, HA.out, ht]), d0⟩
    subst ht
    go_wp2_with fail
    refine (l1In_any s 0 120 _).mono ?_
    rintro e w' ⟨rfl, rfl⟩
    obtain ⟨bi, hbi⟩ : ∃ b, inB s 0 120 = b := ⟨_, rfl⟩
    have HBI : Hid (inB s 0 120 = bi) := hbi
    rw [inB] at hbi
    rw [hbi]
    clear hbi
    cases bi
    · go_wp2_with fail
      go_ret
      exact ⟨ret_bool (by rw [HB.out]; simp [kindOk, HA.out, HBI.out]), d0⟩
    go_wp2_with fail
    refine (specReplyOk_any rc rv _).mono ?_
    rintro e w2 ⟨rfl, b2⟩
    replace d0 := bw_call d0 b2
    go_wp2_with fail
    go_ret
    exact ⟨ret_bool (by rw [HB.out]; simp [kindOk, HA.out, HBI.out]), d0⟩
  go_wp2_with fail
  go_ret
  exact ⟨ret_bool (by rw [HB.out]; simp [kindOk, h1, h2, h3, h4]), d0⟩
end Go.Proofs.Ytghhphhnalfjaaa

namespace Go.Proofs.Ytghhphhnalfjaaa
open Nums

set_option linter.unusedVariables false

set_option maxRecDepth 100000


/-- What of a kind lies within which limits. -/
def lmAt (k : Int) : Int := if kAt k = true then 255 else 0

def lmLo (k : Int) : Int := if kSize k = true then 1 else 0

def lmHi (k : Int) : Int := if kSize k = true then 16 else if k = 2 then 999 else 0

def lmEp (k : Int) : Int := if kEpoch k = true then 1000 else 0

def otOk (ot : ByteArray) (h : Bool) : Bool := if h = true then nameB ot.data.toList else decide (ot.size = 0)

def opBy (o : Oq) : Bool :=
  inB o.k 1 9 && nameB o.nm.data.toList && otOk o.ot (kOther o.k) && inB o.at_ 0 (lmAt o.k) && inB o.va (lmLo o.k) (lmHi o.k) && inB o.ep 0 (lmEp o.k)

theorem inB_zero (x : Int) : inB x 0 0 = decide (x = 0) := by
  rw [Bool.eq_iff_iff, inB_iff, decide_eq_true_eq]; omega

theorem inB_or (b : Bool) (x hi : Int) (h : 0 ≤ hi) : ((b || decide (x = 0)) && inB x 0 hi) = inB x 0 (if b = true then hi else 0) := by
  cases b
  · rw [Bool.eq_iff_iff]
    simp only [Bool.false_or, Bool.and_eq_true, inB_iff, decide_eq_true_eq, Bool.false_eq_true, if_false]
    omega
  · simp

theorem ot_by (ot : ByteArray) (b : Bool) : ((b == decide (ot.size ≠ 0)) && (!b || nameB ot.data.toList)) = otOk ot b := by
  cases b
  · simp [otOk]
  · unfold otOk
    rw [if_pos rfl]
    cases h : nameB ot.data.toList
    · simp
    · have := nameB_size ot h
      have e : decide (ot.size ≠ 0) = true := by simp only [decide_eq_true_eq]; omega
      rw [e]
      rfl

theorem val_by (k va : Int) : valOk k va = inB va (lmLo k) (lmHi k) := by
  unfold valOk lmLo lmHi
  split
  · rfl
  · split
    · rfl
    · exact (inB_zero va).symm

theorem opOk_by (o : Oq) : opOk o = opBy o := by
  have h1 := ot_by o.ot (kOther o.k)
  have h2 := inB_or (kAt o.k) o.at_ 255 (by omega)
  have h3 := inB_or (kEpoch o.k) o.ep 1000 (by omega)
  have h4 := val_by o.k o.va
  have e : opOk o = (nameB o.nm.data.toList && inB o.k 1 9 && ((kOther o.k == decide (o.ot.size ≠ 0)) && (!kOther o.k || nameB o.ot.data.toList)) && ((kAt o.k || decide (o.at_ = 0)) && inB o.at_ 0 255) && ((kEpoch o.k || decide (o.ep = 0)) && inB o.ep 0 1000) && valOk o.k o.va) := by
    unfold opOk
    simp only [Bool.and_assoc]
  rw [e, h1, h2, h3, h4]
  unfold opBy lmAt lmEp
  generalize nameB o.nm.data.toList = a
  generalize inB o.k 1 9 = b
  generalize otOk o.ot (kOther o.k) = c
  generalize inB o.at_ 0 _ = d
  generalize inB o.ep 0 _ = e
  generalize inB o.va _ _ = f
  cases a <;> cases b <;> cases c <;> cases d <;> cases e <;> cases f <;> rfl
end Go.Proofs.Ytghhphhnalfjaaa

namespace Go.Proofs.Ytghhphhnalfjaaa
open Go.RowKit

set_option linter.unusedVariables false

set_option maxRecDepth 100000


theorem within_any (x lo hi : Int) (w : World) :
    Calls Try.prog 50 #[.int .i64 x, .int .i64 lo, .int .i64 hi] w fun e w' => e = .returned (.bool (inB x lo hi)) ∧ w' = w := by
  by_cases h : lo ≤ x
  · go_enter Try.func50, Try.ntmps50
    go_wp2
    go_ret
    exact ⟨ret_bool (by simp [inB, h]), rfl⟩
  · go_enter Try.func50, Try.ntmps50
    go_wp2
    go_ret
    exact ⟨ret_bool (by simp [inB]; omega), rfl⟩

theorem otherOk_any (ot : ByteArray) (b : Bool) (w : World) (ho : ot.size ≤ maxLen) :
    Calls Try.prog 92 #[.string ot, .bool b] w fun e w' => e = .returned (.bool (otOk ot b)) ∧ w' = w := by
  cases b
  · have HE : Hid (_ = _) := text_nil ot
    have HV : Hid (otOk ot false = decide (ot.size = 0)) := by simp [Hid, otOk]
    go_enter Try.func92, Try.ntmps92
    go_wp2_with fail
    go_ret
    exact ⟨ret_bool (by rw [HV.out, ← HE.out]; simp), rfl⟩
  · have HV : Hid (otOk ot true = Nums.nameB ot.data.toList) := by simp [Hid, otOk]
    go_enter Try.func92, Try.ntmps92
    go_wp2_with fail
    refine (implName_any ot _ ho).mono ?_
    rintro e w' ⟨rfl, rfl⟩
    go_wp2_with fail
    go_ret
    exact ⟨ret_bool HV.out.symm, rfl⟩

/-- What limitsOf answers. -/
def limV (k : Int) : Value := .tuple #[.agg #[.bool (kOther k), .int .i64 (lmAt k), .int .i64 (lmLo k), .int .i64 (lmHi k), .int .i64 (lmEp k)], .bool (inB k 1 9)]

theorem limits_in (k : Int) (w : World) (h : k = 1 ∨ k = 2 ∨ k = 3 ∨ k = 4 ∨ k = 5 ∨ k = 6 ∨ k = 7 ∨ k = 8 ∨ k = 9) :
    Calls Try.prog 90 #[.int .i64 k] w fun e w' => e = .returned (limV k) ∧ Below w.heap.size w w' := by
  rcases h with rfl | rfl | rfl | rfl | rfl | rfl | rfl | rfl | rfl
  all_goals
    go_enter Try.func90, Try.ntmps90
    go_wp2_with fail
    exact bodyPost_ret (v := limV _) (by simp [results, Try.results90, go_sem]; rfl) rfl ⟨rfl, by go_grown⟩

theorem limits_out (k : Int) (w : World) (h : ¬ (1 ≤ k ∧ k ≤ 9)) :
    Calls Try.prog 90 #[.int .i64 k] w fun e w' => e = .returned (limV k) ∧ Below w.heap.size w w' := by
  have n1 : ¬ k = 1 := by omega
  have n2 : ¬ k = 2 := by omega
  have n3 : ¬ k = 3 := by omega
  have n4 : ¬ k = 4 := by omega
  have n5 : ¬ k = 5 := by omega
  have n6 : ¬ k = 6 := by omega
  have n7 : ¬ k = 7 := by omega
  have n8 : ¬ k = 8 := by omega
  have n9 : ¬ k = 9 := by omega
  have HV : Hid (limV k = .tuple #[.agg #[.bool false, .int .i64 0, .int .i64 0, .int .i64 0, .int .i64 0], .bool false]) := by
    have e : inB k 1 9 = false := by rw [Bool.eq_false_iff, ne_eq, inB_iff]; exact h
    unfold limV
    rw [Hid, e]
    simp [lmAt, lmLo, lmHi, lmEp, kAt, kSize, kEpoch, kOther, *]
  go_enter Try.func90, Try.ntmps90
  go_wp2_with fail
  exact bodyPost_ret (v := .tuple #[.agg #[.bool false, .int .i64 0, .int .i64 0, .int .i64 0, .int .i64 0], .bool false]) (by simp [results, Try.results90, go_sem]) rfl ⟨by rw [HV.out], by go_grown⟩

theorem limits_any (k : Int) (w : World) :
    Calls Try.prog 90 #[.int .i64 k] w fun e w' => e = .returned (limV k) ∧ Below w.heap.size w w' := by
  by_cases h : 1 ≤ k ∧ k ≤ 9
  · exact limits_in k w (by omega)
  · exact limits_out k w h

set_option maxHeartbeats 1600000 in
theorem implOpOk_any (k : Int) (nm ot : ByteArray) (at_ va ep : Int) (w : World) (hn : nm.size ≤ maxLen) (ho : ot.size ≤ maxLen) (fk : I64 k) (fa : I64 at_) (fv : I64 va) (fe : I64 ep) :
    Calls Try.prog 67 #[.agg #[.int .i64 k, .string nm, .string ot, .int .i64 at_, .int .i64 va, .int .i64 ep]] w fun e w' => e = .returned (.bool (opOk ⟨k, nm, ot, at_, va, ep⟩)) ∧ Below w.heap.size w w' := by
  rw [opOk_by]
  obtain ⟨W0, hW0, k0, d0, z0⟩ := box1 w #[.int .i64 k, .string nm, .string ot, .int .i64 at_, .int .i64 va, .int .i64 ep] 32
  have HW0 : Hid (W0 = _) := hW0
  have s0 := heap_lt k0
  have p0 := at_cell k0 0
  clear hW0 z0
  go_enter Try.func67, Try.ntmps67
  go_wp2_with fail
  rw [← HW0.out]
  clear HW0 p0
  refine (limits_any k _).mono ?_
  unfold limV
  rintro e w1 ⟨rfl, b1⟩
  replace k0 := (b1.block _ s0).trans k0
  replace d0 := bw_call d0 b1
  have t0 := heap_lt k0
  have o1 := at_cell k0 1
  obtain ⟨W1, hW1, k1, d1, z1⟩ := box1 w1 #[.bool (kOther k), .int .i64 (lmAt k), .int .i64 (lmLo k), .int .i64 (lmHi k), .int .i64 (lmEp k)] 121
  have HW1 : Hid (W1 = _) := hW1
  replace k0 := (d1.block _ t0).trans k0
  replace d0 := bw_call d0 d1
  have p1 := at_cell k0 1
  have p2 := at_cell k0 2
  have p3 := at_cell k0 3
  have p4 := at_cell k0 4
  have p5 := at_cell k0 5
  have r0 := at_cell k1 0
  have r1 := at_cell k1 1
  have r2 := at_cell k1 2
  have r3 := at_cell k1 3
  have r4 := at_cell k1 4
  have HB : Hid (opBy ⟨k, nm, ot, at_, va, ep⟩ = (inB k 1 9 && Nums.nameB nm.data.toList && otOk ot (kOther k) && inB at_ 0 (lmAt k) && inB va (lmLo k) (lmHi k) && inB ep 0 (lmEp k))) := rfl
  clear b1 d1 z1 hW1 k0 k1 s0
  generalize kOther k = x0 at *
  generalize lmAt k = x1 at *
  generalize lmLo k = x2 at *
  generalize lmHi k = x3 at *
  generalize lmEp k = x4 at *
  generalize inB k 1 9 = c0 at *
  cases c0
  · go_wp2_with fail
    rw [← HW1.out]
    clear HW1
    go_ret
    exact ⟨ret_bool (by rw [HB.out]; rfl), d0⟩
  go_wp2_with fail
  rw [← HW1.out]
  clear HW1 o1 t0
  refine (implName_any nm _ hn).mono ?_
  rintro e w' ⟨rfl, rfl⟩
  generalize Nums.nameB nm.data.toList = c1 at *
  cases c1
  · go_wp2_with fail
    go_ret
    exact ⟨ret_bool (by rw [HB.out]; rfl), d0⟩
  go_wp2_with fail
  refine (otherOk_any ot x0 _ ho).mono ?_
  rintro e w' ⟨rfl, rfl⟩
  generalize otOk ot x0 = c2 at *
  cases c2
  · go_wp2_with fail
    go_ret
    exact ⟨ret_bool (by rw [HB.out]; rfl), d0⟩
  go_wp2_with fail
  refine (within_any at_ 0 x1 _).mono ?_
  rintro e w' ⟨rfl, rfl⟩
  generalize inB at_ 0 x1 = c3 at *
  cases c3
  · go_wp2_with fail
    go_ret
    exact ⟨ret_bool (by rw [HB.out]; rfl), d0⟩
  go_wp2_with fail
  refine (within_any va x2 x3 _).mono ?_
  rintro e w' ⟨rfl, rfl⟩
  generalize inB va x2 x3 = c4 at *
  cases c4
  · go_wp2_with fail
    go_ret
    exact ⟨ret_bool (by rw [HB.out]; rfl), d0⟩
  go_wp2_with fail
  refine (within_any ep 0 x4 _).mono ?_
  rintro e w' ⟨rfl, rfl⟩
  generalize inB ep 0 x4 = c5 at *
  go_wp2_with fail
  go_ret
  exact ⟨ret_bool (by rw [HB.out]; rfl), d0⟩

theorem implChanges_any (k : Int) (nm ot : ByteArray) (at_ va ep : Int) (w : World) (hn : nm.size ≤ maxLen) (ho : ot.size ≤ maxLen) (fk : I64 k) (fa : I64 at_) (fv : I64 va) (fe : I64 ep) :
    Calls Try.prog 68 #[.agg #[.int .i64 k, .string nm, .string ot, .int .i64 at_, .int .i64 va, .int .i64 ep]] w fun e w' => e = .returned (.bool (changes ⟨k, nm, ot, at_, va, ep⟩)) ∧ Below w.heap.size w w' := by
  obtain ⟨W0, hW0, k0, d0, z0⟩ := box1 w #[.int .i64 k, .string nm, .string ot, .int .i64 at_, .int .i64 va, .int .i64 ep] 32
  have HW0 : Hid (W0 = _) := hW0
  have s0 := heap_lt k0
  clear hW0 z0
  go_enter Try.func68, Try.ntmps68
  go_wp2_with fail
  rw [← HW0.out]
  clear HW0
  refine (implOpOk_any k nm ot at_ va ep _ hn ho fk fa fv fe).mono ?_
  rintro e w1 ⟨rfl, b1⟩
  replace k0 := (b1.block _ s0).trans k0
  replace d0 := bw_call d0 b1
  have p0 := at_cell k0 0
  clear b1 k0
  have HC : Hid (changes ⟨k, nm, ot, at_, va, ep⟩ = (opOk ⟨k, nm, ot, at_, va, ep⟩ && decide (k ≠ 9))) := rfl
  generalize opOk ⟨k, nm, ot, at_, va, ep⟩ = c at *
  cases c
  · go_wp2_with fail
    go_ret
    exact ⟨ret_bool (by rw [HC.out]; rfl), d0⟩
  · go_wp2_with fail
    go_ret
    exact ⟨ret_bool (by rw [HC.out]; simp; rfl), d0⟩
end Go.Proofs.Ytghhphhnalfjaaa

namespace Go.Proofs.Ytghhphhnalfjaaa
open Go.RowKit

set_option linter.unusedVariables false

set_option maxRecDepth 100000


theorem clientOk_any (x : Int) (w : World) : Calls Try.prog 82 #[.int .i64 x] w fun e w' => e = .returned (.bool (inB x 0 3)) ∧ w' = w := by
  go_enter Try.func82, Try.ntmps82
  go_wp2_with fail
  refine (within_any x 0 3 _).mono ?_
  rintro e w' ⟨rfl, rfl⟩
  go_wp2_with fail
  go_ret
  exact ⟨rfl, rfl⟩

theorem tagOk_any (x : Int) (w : World) : Calls Try.prog 83 #[.int .i64 x] w fun e w' => e = .returned (.bool (inB x 1 1000)) ∧ w' = w := by
  go_enter Try.func83, Try.ntmps83
  go_wp2_with fail
  refine (within_any x 1 1000 _).mono ?_
  rintro e w' ⟨rfl, rfl⟩
  go_wp2_with fail
  go_ret
  exact ⟨rfl, rfl⟩
end Go.Proofs.Ytghhphhnalfjaaa

namespace Go.Proofs.Ytghhphhnalfjaaa
open Go.RowKit

set_option linter.unusedVariables false

set_option maxRecDepth 100000


theorem wpList_load_arr {P : Program} {w : World} {ops : Array Oper} {rest : List Oper} {o : Oper} {a : Act} {Q : Exit → Act → World → Prop} (hgd : o.guard = none) (p : Operand) (t : TypeId) (ho : o.op = .load t p)
    (g : Nat) (hp : a.eval p = .pointer (some ⟨g, 0, none⟩)) (cs : Array Value) (ty : TypeId) (fr : Nat × Nat) (hg : w.heap[g]? = some (.cells cs ty fr)) (d : TypeDesc) (hu : P.underlying t = some d)
    (hd : (match d with | .struct _ | .array _ _ => true | _ => false) = true) (hi : (P.info? t).map (·.size) = some cs.size)
    (h : wpList P ops Q rest (a.put o.dst (.agg cs)) w) : wpList P ops Q (o :: rest) a w :=
  wpList_plain hgd fun K hK => by
    have hKK := hK _ _ h
    have hr := run_loadVar_row (P := P) w g ty t cs fr d hg hu hd hi
    unfold Oper.wp execOp
    simp only [ho, hp, Instr.loadAt, Instr.sureAddr, Sem.run_bind, Sem.run_pure, Result.andThen_ok, hr]
    exact hKK

theorem wpList_store_arr {P : Program} {w : World} {ops : Array Oper} {rest : List Oper} {o : Oper} {a : Act} {Q : Exit → Act → World → Prop} (hgd : o.guard = none) (p x : Operand) (t : TypeId) (ho : o.op = .store t p x)
    (g : Nat) (hp : a.eval p = .pointer (some ⟨g, 0, none⟩)) (cs : Array Value) (hx : a.eval x = .agg cs) (old : Array Value) (ty : TypeId) (hg : w.heap[g]? = some (.cells old ty (0, 0)))
    (hi : (P.info? t).map (·.size) = some cs.size) (hs : old.size = cs.size) (h1 : cs.all (·.oneCell') = true)
    (h : wpList P ops Q rest (a.put o.dst undef) (w.setRow g cs)) : wpList P ops Q (o :: rest) a w :=
  wpList_plain hgd fun K hK => by
    have hKK := hK _ _ h
    have hr := run_storeVar_row (P := P) w g ty t old cs hg hi hs h1
    unfold Oper.wp execOp
    simp only [ho, hp, hx, Instr.storeAt, Instr.sureAddr, Sem.run_bind, Sem.run_pure, Result.andThen_ok, hr]
    exact hKK

theorem setRow_row {w : World} {g : Nat} {old cs : Array Value} {ty : TypeId} {fr : Nat × Nat} (hg : w.heap[g]? = some (.cells old ty fr)) : (w.setRow g cs).heap[g]? = some (.cells cs ty fr) := by
  simp only [World.setRow, Array.getElem?_modify, hg, if_true]
  rfl

theorem setRow_below {w : World} {g B : Nat} {cs : Array Value} (h : B ≤ g) : Below B w (w.setRow g cs) := by
  refine ⟨rfl, rfl, rfl, by simp [World.setRow], fun k hk => ?_⟩
  simp only [World.setRow, Array.getElem?_modify]
  rw [if_neg (by omega)]
end Go.Proofs.Ytghhphhnalfjaaa

namespace Go.Proofs.Ytghhphhnalfjaaa
open Go.RowKit

set_option linter.unusedVariables false

set_option maxRecDepth 100000


set_option maxHeartbeats 1600000 in
theorem implEntryOk_any (sq cl tg k : Int) (nm ot : ByteArray) (at_ va ep : Int) (w : World) (hf : FitEnt ⟨sq, cl, tg, ⟨k, nm, ot, at_, va, ep⟩⟩) :
    Calls Try.prog 49 #[.agg #[.int .i64 sq, .int .i64 cl, .int .i64 tg, .int .i64 k, .string nm, .string ot, .int .i64 at_, .int .i64 va, .int .i64 ep]] w fun e w' => e = .returned (.bool (entOk ⟨sq, cl, tg, ⟨k, nm, ot, at_, va, ep⟩⟩)) ∧ Below w.heap.size w w' := by
  obtain ⟨⟨hn, ho⟩, -, -, -, fk, fa, fv, fe⟩ := hf
  simp only at hn ho fk fa fv fe
  obtain ⟨W0, hW0, k0, d0, z0⟩ := box1 w #[.int .i64 sq, .int .i64 cl, .int .i64 tg, .int .i64 k, .string nm, .string ot, .int .i64 at_, .int .i64 va, .int .i64 ep] 34
  have HW0 : Hid (W0 = _) := hW0
  have p0 := at_cell k0 0
  have p1 := at_cell k0 1
  have p2 := at_cell k0 2
  have p3 := at_cell k0 3
  have p4 := at_cell k0 4
  have p5 := at_cell k0 5
  have p6 := at_cell k0 6
  have p7 := at_cell k0 7
  have p8 := at_cell k0 8
  have HB : Hid (entOk ⟨sq, cl, tg, ⟨k, nm, ot, at_, va, ep⟩⟩ = (inB sq 1 1000 && inB tg 1 1000 && inB cl 0 3 && changes ⟨k, nm, ot, at_, va, ep⟩)) := rfl
  clear hW0 z0 k0
  go_enter Try.func49, Try.ntmps49
  go_wp2_with fail
  rw [← HW0.out]
  clear HW0
  refine (within_any sq 1 1000 _).mono ?_
  rintro e w' ⟨rfl, rfl⟩
  generalize inB sq 1 1000 = c0 at *
  cases c0
  · go_wp2_with fail
    go_ret
    exact ⟨ret_bool (by rw [HB.out]; rfl), d0⟩
  go_wp2_with fail
  refine (clientOk_any cl _).mono ?_
  rintro e w' ⟨rfl, rfl⟩
  generalize inB cl 0 3 = c1 at *
  cases c1
  · go_wp2_with fail
    go_ret
    exact ⟨ret_bool (by rw [HB.out, Bool.and_false, Bool.false_and]), d0⟩
  go_wp2_with fail
  refine (tagOk_any tg _).mono ?_
  rintro e w' ⟨rfl, rfl⟩
  generalize inB tg 1 1000 = c2 at *
  cases c2
  · go_wp2_with fail
    go_ret
    exact ⟨ret_bool (by rw [HB.out]; rfl), d0⟩
  go_wp2_with fail
  refine (implChanges_any k nm ot at_ va ep _ hn ho fk fa fv fe).mono ?_
  rintro e w1 ⟨rfl, b1⟩
  replace d0 := bw_call d0 b1
  generalize changes ⟨k, nm, ot, at_, va, ep⟩ = c3 at *
  go_wp2_with fail
  go_ret
  exact ⟨ret_bool (by rw [HB.out]; rfl), d0⟩
end Go.Proofs.Ytghhphhnalfjaaa

namespace Go.Proofs.Ytghhphhnalfjaaa
open Go.RowKit

set_option linter.unusedVariables false

set_option maxRecDepth 100000


theorem within_rep (x lo hi : Int) (w : World) :
    Calls Try.prog 50 #[.int .i64 x, .int .i64 lo, .int .i64 hi] w fun e w' => e = .returned (.bool (inB x lo hi)) ∧ w' = w := by
  by_cases h : lo ≤ x
  · go_enter Try.func50, Try.ntmps50
    go_wp2
    go_ret
    exact ⟨ret_bool (by simp [inB, h]), rfl⟩
  · go_enter Try.func50, Try.ntmps50
    go_wp2
    go_ret
    exact ⟨ret_bool (by simp [inB]; omega), rfl⟩

theorem implReplyOk_any (c v : Int) (w : World) :
    Calls Try.prog 51 #[.agg #[.int .i64 c, .int .i64 v]] w fun e w' => e = .returned (.bool (repOk c v)) ∧ Below w.heap.size w w' := by
  obtain ⟨W0, hW0, k0, d0, z0⟩ := box1 w #[.int .i64 c, .int .i64 v] 36
  have HW0 : Hid (W0 = _) := hW0
  have p0 := at_cell k0 0
  have p1 := at_cell k0 1
  have HB : Hid (repOk c v = (inB c 0 9 && inB v 0 (if c = 0 then 1000 else 0))) := repOk_by c v
  clear hW0 k0
  by_cases h0 : c = 0
  · subst h0
    rw [if_pos rfl] at HB
    go_enter Try.func51, Try.ntmps51
    go_wp2_with fail
    rw [← HW0.out]
    clear HW0
    refine (within_rep 0 0 9 _).mono ?_
    have hin : inB 0 0 9 = true := rfl
    rw [hin] at HB ⊢
    rintro e w' ⟨rfl, rfl⟩
    clear hin
    go_wp2_with fail
    refine (within_rep v 0 1000 _).mono ?_
    generalize inB v 0 1000 = b1 at *
    rintro e w' ⟨rfl, rfl⟩
    go_wp2_with fail
    go_ret
    exact ⟨ret_bool (by rw [HB.out]; rfl), d0⟩
  · rw [if_neg h0] at HB
    go_enter Try.func51, Try.ntmps51
    go_wp2_with fail
    rw [← HW0.out]
    clear HW0 h0
    refine (within_rep c 0 9 _).mono ?_
    generalize inB c 0 9 = b0 at *
    rintro e w' ⟨rfl, rfl⟩
    cases b0
    · go_wp2_with fail
      go_ret
      exact ⟨ret_bool (by rw [HB.out]; rfl), d0⟩
    go_wp2_with fail
    refine (within_rep v 0 0 _).mono ?_
    generalize inB v 0 0 = b1 at *
    rintro e w' ⟨rfl, rfl⟩
    go_wp2_with fail
    go_ret
    exact ⟨ret_bool (by rw [HB.out]; rfl), d0⟩
end Go.Proofs.Ytghhphhnalfjaaa

namespace Go.Proofs.Ytghhphhnalfjaaa
open Go.RowKit Nums

set_option linter.unusedVariables false

set_option maxRecDepth 100000


theorem within14_any (x lo hi : Int) (w : World) :
    Calls Try.prog 50 #[.int .i64 x, .int .i64 lo, .int .i64 hi] w fun e w' => e = .returned (.bool (inB x lo hi)) ∧ w' = w := by
  by_cases h : lo ≤ x
  · have HV : Hid (inB x lo hi = decide (x ≤ hi)) := by rw [Hid, inB, decide_eq_true h, Bool.true_and]
    go_enter Try.func50, Try.ntmps50
    go_wp2_with fail
    go_ret
    exact ⟨ret_bool HV.out.symm, rfl⟩
  · have HV : Hid (inB x lo hi = false) := by rw [Hid, inB, decide_eq_false h, Bool.false_and]
    go_enter Try.func50, Try.ntmps50
    go_wp2_with fail
    go_ret
    exact ⟨ret_bool HV.out.symm, rfl⟩

theorem houseIdOk_any (x : Int) (w : World) :
    Calls Try.prog 47 #[.int .i64 x] w fun e w' => e = .returned (.bool (inB x 0 3)) ∧ w' = w := by
  go_enter Try.func47, Try.ntmps47
  go_wp2_with fail
  refine (within14_any x 0 3 _).mono ?_
  rintro e w1 ⟨rfl, rfl⟩
  go_wp2_with fail
  go_ret
  exact ⟨rfl, rfl⟩

theorem viewNumberOk_any (x : Int) (w : World) :
    Calls Try.prog 46 #[.int .i64 x] w fun e w' => e = .returned (.bool (inB x 1 1000)) ∧ w' = w := by
  go_enter Try.func46, Try.ntmps46
  go_wp2_with fail
  refine (within14_any x 1 1000 _).mono ?_
  rintro e w1 ⟨rfl, rfl⟩
  go_wp2_with fail
  go_ret
  exact ⟨rfl, rfl⟩
end Go.Proofs.Ytghhphhnalfjaaa

