/-
  Contracts and plain laws, one chapter behind the other.
-/
import Derived.Laws.MakeOwn
import Derived.WalkKit
import Derived.Deep.RegionLaw
import Derived.Test.YtcefcglonooelaaGreatDoorM01
import Derived.Test.YtcefcglonooelaaGreatDoorM02
namespace Go.Proofs.YtcefcglonooelaaGreatDoor
open Go.RowKit

set_option linter.unusedVariables false

set_option maxRecDepth 100000


/-- A run's cells. -/
def runC (r : Int × Int × Int) : List Value := [.int .i64 r.1, .int .i64 r.2.1, .int .i64 r.2.2]

theorem runC_len (r : Int × Int × Int) : (runC r).length = 3 := rfl

theorem three_cells {B : Nat} {w : World} {o : Option Addr} {rs : List (Int × Int × Int)} (hc : ∀ i x, rs[i]? = some x → ∃ g off, o = some ⟨g, off, none⟩ ∧ g < B ∧ ∀ j u, (runC x)[j]? = some u → w.cell? ⟨g, off + i * 3 + j, none⟩ = some u) (i : Nat) (hi : i < rs.length) :
    ∃ g off, o = some ⟨g, off, none⟩ ∧ g < B ∧ w.cell? ⟨g, off + i * 3, none⟩ = some (.int .i64 rs[i].1) ∧ w.cell? ⟨g, off + i * 3 + 1, none⟩ = some (.int .i64 rs[i].2.1) ∧ w.cell? ⟨g, off + i * 3 + 2, none⟩ = some (.int .i64 rs[i].2.2) := by
  obtain ⟨g, off, e, hg, hx⟩ := hc i rs[i] (List.getElem?_eq_getElem hi)
  exact ⟨g, off, e, hg, hx 0 _ rfl, hx 1 _ rfl, hx 2 _ rfl⟩
end Go.Proofs.YtcefcglonooelaaGreatDoor

namespace Go.Proofs.YtcefcglonooelaaGreatDoor
set_option linter.unusedVariables false

set_option maxRecDepth 100000


/-- A number of 64 bits; runs of such. -/
def I64 (x : Int) : Prop := -9223372036854775808 ≤ x ∧ x ≤ 9223372036854775807

def FitRuns (rs : List (Int × Int × Int)) : Prop := ∀ r ∈ rs, I64 r.1 ∧ I64 r.2.1 ∧ I64 r.2.2

/-- Is the run right, behind places that end at e, behind a run that is pv? -/
def runOk (e : Int) (pv : Option (Int × Int × Int)) (r : Int × Int × Int) : Bool :=
  decide (e ≤ r.1) && (decide (1 ≤ r.2.1) && decide (r.2.1 ≤ 16)) && decide (r.1 ≤ 16 - r.2.1) && (decide (0 ≤ r.2.2) && decide (r.2.2 ≤ 24 - r.2.1)) &&
    !(match pv with | none => false | some q => decide (r.1 = e) && decide (r.2.2 = q.2.2 + q.2.1))

def okFrom : Int → Option (Int × Int × Int) → List (Int × Int × Int) → Bool
  | _, _, [] => true
  | e, pv, r :: rs => runOk e pv r && okFrom (r.1 + r.2.1) (some r) rs

def mapOk (rs : List (Int × Int × Int)) : Bool := okFrom 0 none rs && decide (rs.length ≤ 16)

theorem runOk_iff (e : Int) (pv : Option (Int × Int × Int)) (f c p : Int) : runOk e pv (f, c, p) = true ↔ (e ≤ f ∧ 1 ≤ c ∧ c ≤ 16 ∧ f ≤ 16 - c ∧ 0 ≤ p ∧ p ≤ 24 - c ∧ ∀ q, pv = some q → ¬ (f = e ∧ p = q.2.2 + q.2.1)) := by
  cases pv with
  | none => simp [runOk]; omega
  | some q =>
    simp only [runOk, Bool.and_eq_true, decide_eq_true_eq, Bool.not_eq_true', Bool.and_eq_false_iff, decide_eq_false_iff_not, Option.some.injEq]
    constructor
    · rintro ⟨⟨⟨⟨h1, h2⟩, h3⟩, h4⟩, h5⟩
      refine ⟨h1, h2.1, h2.2, h3, h4.1, h4.2, ?_⟩
      rintro _ rfl ⟨h6, h7⟩
      rcases h5 with h5 | h5
      · exact h5 h6
      · exact h5 h7
    · rintro ⟨h1, h2, h3, h4, h5, h6, h7⟩
      refine ⟨⟨⟨⟨h1, h2, h3⟩, h4⟩, h5, h6⟩, ?_⟩
      by_cases h8 : f = e
      · exact .inr (fun h9 => h7 q rfl ⟨h8, h9⟩)
      · exact .inl h8

/-- n pages one behind the other are laid from place f on. -/
def lay (l : List Int) (f : Nat) (p : Int) : Nat → List Int
  | 0 => l
  | n + 1 => (lay l f p n).set (f + n) (p + n)

def layRun (l : List Int) (r : Int × Int × Int) : List Int := lay l r.1.toNat r.2.2 r.2.1.toNat

def none16 : List Int := List.replicate 16 (-1)

/-- For each place its page; -1: none. -/
def pages (rs : List (Int × Int × Int)) : List Int := rs.foldl layRun none16

theorem lay_length (l : List Int) (f : Nat) (p : Int) (n : Nat) : (lay l f p n).length = l.length := by
  induction n with
  | zero => rfl
  | succ n ih => rw [lay, List.length_set, ih]

theorem layRun_length (l : List Int) (r : Int × Int × Int) : (layRun l r).length = l.length := lay_length _ _ _ _

theorem foldl_length (rs : List (Int × Int × Int)) (l : List Int) : (rs.foldl layRun l).length = l.length := by
  induction rs generalizing l with
  | nil => rfl
  | cons r rs ih => rw [List.foldl_cons, ih, layRun_length]

theorem pages_length (rs : List (Int × Int × Int)) : (pages rs).length = 16 := by rw [pages, foldl_length]; rfl

theorem lay_get (l : List Int) (f : Nat) (p : Int) (n j : Nat) (h : f + n ≤ l.length) : (lay l f p n).getD j 0 = if f ≤ j ∧ j < f + n then p + ((j - f : Nat) : Int) else l.getD j 0 := by
  induction n with
  | zero => rw [lay, if_neg (by omega)]
  | succ n ih =>
    have hl := lay_length l f p n
    rw [lay, List.getD_eq_getElem?_getD, List.getElem?_set, hl]
    by_cases e : f + n = j
    · rw [if_pos e, if_pos (by omega), if_pos (by omega)]
      show p + (n : Int) = _
      rw [show j - f = n by omega]
    · rw [if_neg e, ← List.getD_eq_getElem?_getD, ih (by omega)]
      by_cases q : f ≤ j ∧ j < f + n
      · rw [if_pos q, if_pos (by omega)]
      · rw [if_neg q, if_neg (by omega)]

/-- Each page that a right map shows is one, or there is none. -/
theorem pages_fold_range (rs : List (Int × Int × Int)) (e : Int) (pv : Option (Int × Int × Int)) (h : okFrom e pv rs = true) (l : List Int) (hl : l.length = 16) (hv : ∀ j, j < 16 → -1 ≤ l.getD j 0 ∧ l.getD j 0 ≤ 23) (he : 0 ≤ e) : ∀ j, j < 16 → -1 ≤ (rs.foldl layRun l).getD j 0 ∧ (rs.foldl layRun l).getD j 0 ≤ 23 := by
  induction rs generalizing e pv l with
  | nil => exact hv
  | cons r rs ih =>
    obtain ⟨f, c, p⟩ := r
    rw [okFrom, Bool.and_eq_true, runOk_iff] at h
    rw [List.foldl_cons]
    refine ih _ _ h.2 _ (by rw [layRun_length]; exact hl) (fun j hj => ?_) (by simp only; omega)
    show -1 ≤ (lay l f.toNat p c.toNat).getD j 0 ∧ (lay l f.toNat p c.toNat).getD j 0 ≤ 23
    rw [lay_get _ _ _ _ _ (by omega)]
    by_cases q : f.toNat ≤ j ∧ j < f.toNat + c.toNat
    · rw [if_pos q]; omega
    · rw [if_neg q]; exact hv j hj

theorem none16_at (j : Nat) (hj : j < 16) : none16.getD j 0 = -1 := by
  have h16 : j = 0 ∨ j = 1 ∨ j = 2 ∨ j = 3 ∨ j = 4 ∨ j = 5 ∨ j = 6 ∨ j = 7 ∨ j = 8 ∨ j = 9 ∨ j = 10 ∨ j = 11 ∨ j = 12 ∨ j = 13 ∨ j = 14 ∨ j = 15 := by omega
  rcases h16 with rfl | rfl | rfl | rfl | rfl | rfl | rfl | rfl | rfl | rfl | rfl | rfl | rfl | rfl | rfl | rfl <;> rfl

theorem mapOk_from {rs : List (Int × Int × Int)} (h : mapOk rs = true) : okFrom 0 none rs = true := by rw [mapOk, Bool.and_eq_true] at h; exact h.1

theorem pages_range (rs : List (Int × Int × Int)) (h : mapOk rs = true) (j : Nat) (hj : j < 16) : -1 ≤ (pages rs).getD j 0 ∧ (pages rs).getD j 0 ≤ 23 :=
  pages_fold_range rs 0 none (mapOk_from h) none16 rfl (fun j hj => by rw [none16_at j hj]; omega) (by omega) j hj
end Go.Proofs.YtcefcglonooelaaGreatDoor

namespace Go.Proofs.YtcefcglonooelaaGreatDoor
open Go.RowKit

set_option linter.unusedVariables false

set_option maxRecDepth 100000


/-- The run ahead of place k. -/
def prevOf (rs : List (Int × Int × Int)) (k : Nat) : Option (Int × Int × Int) := if k = 0 then none else rs[k - 1]?

theorem okFrom_step (rs : List (Int × Int × Int)) (e : Int) (k : Nat) (h : k < rs.length) : okFrom e (prevOf rs k) (rs.drop k) = (runOk e (prevOf rs k) rs[k] && okFrom (rs[k].1 + rs[k].2.1) (prevOf rs (k + 1)) (rs.drop (k + 1))) := by
  rw [List.drop_eq_getElem_cons h, okFrom, prevOf, prevOf, if_neg (by omega : ¬ k + 1 = 0), Nat.add_sub_cancel, List.getElem?_eq_getElem h]

theorem runOk_false (e : Int) (pv : Option (Int × Int × Int)) (f c p : Int) (h : ¬ (e ≤ f ∧ 1 ≤ c ∧ c ≤ 16 ∧ f ≤ 16 - c ∧ 0 ≤ p ∧ p ≤ 24 - c ∧ ∀ q, pv = some q → ¬ (f = e ∧ p = q.2.2 + q.2.1))) : runOk e pv (f, c, p) = false := by
  rw [Bool.eq_false_iff]
  exact fun q => h ((runOk_iff e pv f c p).1 q)
end Go.Proofs.YtcefcglonooelaaGreatDoor

namespace Go.Proofs.YtcefcglonooelaaGreatDoor
open Go.RowKit

set_option linter.unusedVariables false


/-- Each run of a right map lies in its bounds. -/
theorem okFrom_mem (rs : List (Int × Int × Int)) (e : Int) (pv : Option (Int × Int × Int)) (h : okFrom e pv rs = true) (he : 0 ≤ e) : ∀ r ∈ rs, 0 ≤ r.1 ∧ 1 ≤ r.2.1 ∧ r.1 + r.2.1 ≤ 16 ∧ 0 ≤ r.2.2 ∧ r.2.2 + r.2.1 ≤ 24 := by
  induction rs generalizing e pv with
  | nil => intro r hr; cases hr
  | cons q qs ih =>
    obtain ⟨f, c, p⟩ := q
    rw [okFrom, Bool.and_eq_true, runOk_iff] at h
    intro r hr
    rcases List.mem_cons.1 hr with rfl | hr
    · simp only; omega
    · exact ih _ _ h.2 (by simp only; omega) r hr
end Go.Proofs.YtcefcglonooelaaGreatDoor

namespace Go.Proofs.YtcefcglonooelaaGreatDoor
open Go.RowKit

set_option linter.unusedVariables false

set_option maxRecDepth 100000


/-- The last run ends at the size or ahead of it. -/
def endsBy (rs : List (Int × Int × Int)) (sz : Int) : Bool := match rs.getLast? with
  | none => true
  | some r => decide (r.1 + r.2.1 ≤ sz)

def bookOk (nm : ByteArray) (sz : Int) (rs : List (Int × Int × Int)) (ep : Int) : Bool :=
  Nums.nameB nm.data.toList && (decide (1 ≤ sz) && decide (sz ≤ 16)) && (decide (0 ≤ ep) && decide (ep ≤ 1000)) && mapOk rs && endsBy rs sz

theorem endsBy_nil (sz : Int) : endsBy [] sz = true := rfl

theorem endsBy_at (rs : List (Int × Int × Int)) (sz : Int) (k : Nat) (h : rs.length = k + 1) : endsBy rs sz = decide ((rs[k]'(by omega)).1 + (rs[k]'(by omega)).2.1 ≤ sz) := by
  have : rs.getLast? = some (rs[k]'(by omega)) := by rw [List.getLast?_eq_getElem?, show rs.length - 1 = k by omega, List.getElem?_eq_getElem]
  rw [endsBy, this]

theorem map_in (rs : List (Int × Int × Int)) (h : mapOk rs = true) (k : Nat) (hk : k < rs.length) : 0 ≤ rs[k].1 ∧ 1 ≤ rs[k].2.1 ∧ rs[k].1 + rs[k].2.1 ≤ 16 := by
  have := okFrom_mem rs 0 none (mapOk_from h) (Int.le_refl _) rs[k] (List.getElem_mem hk)
  omega
end Go.Proofs.YtcefcglonooelaaGreatDoor

namespace Go.Proofs.YtcefcglonooelaaGreatDoor
open Go.RowKit

set_option linter.unusedVariables false

set_option maxRecDepth 100000


/-- A book: its cells, and the runs that its map reads. -/
structure Bk where
  nm : ByteArray
  sz : Int
  m : Value
  rs : List (Int × Int × Int)
  fx : Bool
  ep : Int

def bookC (b : Bk) : List Value := [.string b.nm, .int .i64 b.sz, b.m, .bool b.fx, .int .i64 b.ep]

theorem bookC_len (b : Bk) : (bookC b).length = 5 := rfl

/-- A row of books that is read, the maps too. -/
structure ReadsB (B : Nat) (w : World) (v : Value) (bs : List Bk) : Prop where
  row : ReadsR 5 bookC B w v bs
  maps : ∀ b ∈ bs, ReadsR 3 runC B w b.m b.rs

theorem ReadsB.below {B : Nat} {w w' : World} {v : Value} {bs : List Bk} (h : ReadsB B w v bs) (k : Below B w w') : ReadsB B w' v bs := ⟨h.row.below k, fun b hb => (h.maps b hb).below k⟩

theorem ReadsB.mono {B B' : Nat} {w : World} {v : Value} {bs : List Bk} (h : ReadsB B w v bs) (k : B ≤ B') : ReadsB B' w v bs := ⟨h.row.mono k, fun b hb => (h.maps b hb).mono k⟩

def alike (nm : ByteArray) (sz : Int) (rs : List (Int × Int × Int)) (ep : Int) (nm' : ByteArray) (sz' : Int) (rs' : List (Int × Int × Int)) (ep' : Int) : Bool :=
  bookOk nm sz rs ep && bookOk nm' sz' rs' ep' && decide (sz = sz') && decide (rs = rs')

def findFrom (n : ByteArray) : List ByteArray → Nat → Int
  | [], _ => -1
  | x :: t, k => if x = n then (k : Int) else findFrom n t (k + 1)

def findB (bs : List Bk) (n : ByteArray) : Int := findFrom n (bs.map Bk.nm) 0

theorem find_at (bs : List Bk) (n : ByteArray) (k : Nat) (hk : k < bs.length) : findFrom n ((bs.map Bk.nm).drop k) k = if bs[k].nm = n then (k : Int) else findFrom n ((bs.map Bk.nm).drop (k + 1)) (k + 1) := by
  rw [List.drop_eq_getElem_cons (by simpa using hk), findFrom]
  simp

theorem find_end (bs : List Bk) (n : ByteArray) (k : Nat) (hk : ¬ k < bs.length) : findFrom n ((bs.map Bk.nm).drop k) k = -1 := by
  rw [List.drop_of_length_le (by simp; omega), findFrom]

theorem find_range (n : ByteArray) (l : List ByteArray) (k : Nat) : findFrom n l k = -1 ∨ ((k : Int) ≤ findFrom n l k ∧ findFrom n l k < k + l.length ∧ l[(findFrom n l k).toNat - k]? = some n) := by
  induction l generalizing k with
  | nil => exact .inl rfl
  | cons x t ih =>
    rw [findFrom]
    split
    · rename_i h
      right
      subst h
      simp
      omega
    · rcases ih (k + 1) with h | ⟨h1, h2, h3⟩
      · exact .inl h
      · right
        refine ⟨by omega, by simp; omega, ?_⟩
        rw [show (findFrom n t (k + 1)).toNat - k = (findFrom n t (k + 1)).toNat - (k + 1) + 1 by omega, List.getElem?_cons_succ]
        exact h3

theorem find_first (n : ByteArray) (l : List ByteArray) (k j : Nat) (h : l[j]? = some n) : (k : Int) ≤ findFrom n l k ∧ findFrom n l k ≤ k + j := by
  induction l generalizing k j with
  | nil => simp at h
  | cons x t ih =>
    rw [findFrom]
    split
    · omega
    · rename_i hx
      match j, h with
      | 0, h => simp at h; exact absurd h hx
      | j + 1, h =>
        have := ih (k + 1) j (by simpa using h)
        omega
end Go.Proofs.YtcefcglonooelaaGreatDoor

namespace Go.Proofs.YtcefcglonooelaaGreatDoor.Nums

def okShow (n k : Int) : Bool := (decide (1 ≤ k) && decide (k ≤ 4)) && (decide (0 ≤ n) && decide (n < 256 ^ k.toNat))

theorem okShow_iff (n k : Int) : okShow n k = true ↔ (1 ≤ k ∧ k ≤ 4 ∧ 0 ≤ n ∧ n < 256 ^ k.toNat) := by
  simp only [okShow, Bool.and_eq_true, decide_eq_true_eq, and_assoc]
end Go.Proofs.YtcefcglonooelaaGreatDoor.Nums

namespace Go.Proofs.YtcefcglonooelaaGreatDoor
open Nums

set_option linter.unusedVariables false

set_option maxRecDepth 100000


structure Oq where
  k : Int
  nm : ByteArray
  ot : ByteArray
  at_ : Int
  va : Int
  ep : Int

def Oq.zero : Oq := ⟨0, ByteArray.empty, ByteArray.empty, 0, 0, 0⟩

def kOther (k : Int) : Bool := decide (k = 4) || decide (k = 5)

def kAt (k : Int) : Bool := decide (k = 2) || decide (k = 3) || decide (k = 9)

def kSize (k : Int) : Bool := decide (k = 1) || decide (k = 7)

def kEpoch (k : Int) : Bool := decide (k = 2) || decide (k = 3) || decide (k = 6) || decide (k = 7)

def inB (x lo hi : Int) : Bool := decide (lo ≤ x) && decide (x ≤ hi)

def valOk (k va : Int) : Bool := if kSize k = true then inB va 1 16 else if k = 2 then inB va 0 999 else decide (va = 0)

def opOk (o : Oq) : Bool :=
  nameB o.nm.data.toList && inB o.k 1 9 && (kOther o.k == decide (o.ot.size ≠ 0)) && (!kOther o.k || nameB o.ot.data.toList) && (kAt o.k || decide (o.at_ = 0)) && inB o.at_ 0 255 && (kEpoch o.k || decide (o.ep = 0)) && inB o.ep 0 1000 && valOk o.k o.va

theorem inB_iff (x lo hi : Int) : inB x lo hi = true ↔ lo ≤ x ∧ x ≤ hi := by simp [inB]

theorem nameB_size (s : ByteArray) (h : nameB s.data.toList = true) : 1 ≤ s.size ∧ s.size ≤ 4 := by
  simp only [nameB, Bool.and_eq_true, decide_eq_true_eq] at h
  have e : s.data.toList.length = s.size := by simp
  omega

/-- What of an op that is right the bytes want. -/
theorem opOk_bd (o : Oq) (h : opOk o = true) : (1 ≤ o.k ∧ o.k ≤ 9) ∧ (1 ≤ o.nm.size ∧ o.nm.size ≤ 4) ∧ o.ot.size ≤ 4 ∧ (0 ≤ o.at_ ∧ o.at_ ≤ 255) ∧ (0 ≤ o.va ∧ o.va ≤ 999) ∧ (0 ≤ o.ep ∧ o.ep ≤ 1000) := by
  simp only [opOk, Bool.and_eq_true, inB_iff] at h
  obtain ⟨⟨⟨⟨⟨⟨⟨⟨h1, h2⟩, h3⟩, h4⟩, h5⟩, h6⟩, h7⟩, h8⟩, h9⟩ := h
  refine ⟨h2, nameB_size _ h1, ?_, h6, ?_, h8⟩
  · cases hk : kOther o.k
    · rw [hk] at h3
      simp at h3
      have : o.ot.size = 0 := by rw [h3]; rfl
      omega
    · rw [hk] at h4
      simp at h4
      exact (nameB_size _ h4).2
  · unfold valOk at h9
    split at h9
    · rw [inB_iff] at h9; omega
    · split at h9
      · rw [inB_iff] at h9; omega
      · simp at h9; omega

theorem ok1 (n : Int) (h : 0 ≤ n ∧ n ≤ 255) : okShow n 1 = true := (okShow_iff n 1).2 ⟨by omega, by omega, h.1, by simp; omega⟩

theorem ext_list {a b : ByteArray} (h : a.data.toList = b.data.toList) : a = b := by
  cases a; cases b
  simp at h
  rw [h]
end Go.Proofs.YtcefcglonooelaaGreatDoor

namespace Go.Proofs.YtcefcglonooelaaGreatDoor

def cellOk (c p : Int) : Bool := (decide (0 ≤ c) && decide (c ≤ 400)) && (decide (0 ≤ p) && decide (p ≤ 999)) && !(decide (c = 0) && !decide (p = 0))

theorem cellOk_iff (c p : Int) : cellOk c p = true ↔ 0 ≤ c ∧ c ≤ 400 ∧ 0 ≤ p ∧ p ≤ 999 ∧ (c = 0 → p = 0) := by
  simp only [cellOk, Bool.and_eq_true, decide_eq_true_eq, Bool.not_eq_true', Bool.and_eq_false_iff, decide_eq_false_iff_not, Bool.not_eq_false']
  constructor
  · rintro ⟨⟨⟨h1, h2⟩, h3, h4⟩, h5⟩
    refine ⟨h1, h2, h3, h4, fun h => ?_⟩
    rcases h5 with h5 | h5
    · exact absurd h h5
    · exact h5
  · rintro ⟨h1, h2, h3, h4, h5⟩
    refine ⟨⟨⟨h1, h2⟩, h3, h4⟩, ?_⟩
    by_cases h : c = 0
    · exact .inr (h5 h)
    · exact .inl h

def poolOk (cs ps : List Int) : Bool := decide (1 ≤ cs.length ∧ cs.length ≤ 24 ∧ ps.length = cs.length ∧ ∀ j, j < cs.length → cellOk (cs.getD j 0) (ps.getD j 0) = true)

theorem poolOk_iff (cs ps : List Int) : poolOk cs ps = true ↔ (1 ≤ cs.length ∧ cs.length ≤ 24 ∧ ps.length = cs.length ∧ ∀ j, j < cs.length → cellOk (cs.getD j 0) (ps.getD j 0) = true) := by
  rw [poolOk, decide_eq_true_iff]

/-- The count at a place; 0 where there is none. -/
def countAt (cs : List Int) (at_ : Int) : Int := if 0 ≤ at_ ∧ at_ < cs.length then cs.getD at_.toNat 0 else 0

def shared (cs ps : List Int) (at_ : Int) : (List Int × List Int) × Bool :=
  if poolOk cs ps = true then (if 1 ≤ countAt cs at_ ∧ countAt cs at_ < 400 then ((cs.set at_.toNat (countAt cs at_ + 1), ps), true) else ((cs, ps), false)) else (([], []), false)

def dropped (cs ps : List Int) (at_ : Int) : (List Int × List Int) × Bool :=
  if poolOk cs ps = true then (if 1 ≤ countAt cs at_ then ((cs.set at_.toNat (countAt cs at_ - 1), if countAt cs at_ = 1 then ps.set at_.toNat 0 else ps), true) else ((cs, ps), false)) else (([], []), false)

/-- How many of a list are 0. -/
def zeros (cs : List Int) : Nat := cs.countP fun c => decide (c = 0)

theorem getD_of (cs : List Int) (k : Nat) (h : k < cs.length) : cs.getD k 0 = cs[k] := by
  rw [List.getD_eq_getElem?_getD, List.getElem?_eq_getElem h]; rfl

theorem getD_set (cs : List Int) (k j : Nat) (x : Int) (h : k < cs.length) : (cs.set k x).getD j 0 = if k = j then x else cs.getD j 0 := by
  rw [List.getD_eq_getElem?_getD, List.getElem?_set, List.getD_eq_getElem?_getD]
  by_cases e : k = j
  · subst e; simp [h]
  · simp [e]

theorem countAt_of (cs : List Int) (k : Nat) (h : k < cs.length) : countAt cs k = cs.getD k 0 := by
  unfold countAt
  rw [if_pos (by omega), Int.toNat_natCast]
end Go.Proofs.YtcefcglonooelaaGreatDoor

namespace Go.Proofs.YtcefcglonooelaaGreatDoor
open Go.RowKit

set_option linter.unusedVariables false

set_option maxRecDepth 100000

def pagesOf (rs : List (Int × Int × Int)) : List Int := if mapOk rs = true then (pages rs).filter (fun p => decide (0 ≤ p)) else []

theorem getD_set16 (l : List Int) (k j : Nat) (x : Int) (h : k < l.length) : (l.set k x).getD j 0 = if k = j then x else l.getD j 0 := by
  rw [List.getD_eq_getElem?_getD, List.getElem?_set, List.getD_eq_getElem?_getD]
  by_cases e : k = j
  · subst e; simp [h]
  · simp [e]
end Go.Proofs.YtcefcglonooelaaGreatDoor

namespace Go.Proofs.YtcefcglonooelaaGreatDoor
open Go.RowKit

set_option linter.unusedVariables false

set_option maxRecDepth 100000


/-! ### Names in their order -/
def ltB (a b : ByteArray) : Bool := Op.bytesLess a.toList b.toList

theorem less_irrefl (x : List UInt8) : Op.bytesLess x x = false := by
  induction x with
  | nil => rfl
  | cons a t ih => simp [Op.bytesLess, ih]

theorem less_trans : ∀ (x y z : List UInt8), Op.bytesLess x y = true → Op.bytesLess y z = true → Op.bytesLess x z = true := by
  intro x
  induction x with
  | nil =>
    intro y z h1 h2
    cases z with
    | nil => cases y <;> simp [Op.bytesLess] at h2
    | cons c w => rfl
  | cons a t ih =>
    intro y z h1 h2
    cases y with
    | nil => simp [Op.bytesLess] at h1
    | cons b u =>
      cases z with
      | nil => simp [Op.bytesLess] at h2
      | cons c w =>
        simp only [Op.bytesLess, Bool.or_eq_true, decide_eq_true_eq, Bool.and_eq_true, beq_iff_eq] at h1 h2 ⊢
        rcases h1 with h1 | ⟨rfl, h1⟩
        · rcases h2 with h2 | ⟨rfl, h2⟩
          · exact .inl (UInt8.lt_trans h1 h2)
          · exact .inl h1
        · rcases h2 with h2 | ⟨rfl, h2⟩
          · exact .inl h2
          · exact .inr ⟨rfl, ih u w h1 h2⟩

theorem less_total : ∀ (x y : List UInt8), Op.bytesLess x y = false → Op.bytesLess y x = false → x = y := by
  intro x
  induction x with
  | nil =>
    intro y h1 h2
    cases y with
    | nil => rfl
    | cons b u => simp [Op.bytesLess] at h1
  | cons a t ih =>
    intro y h1 h2
    cases y with
    | nil => simp [Op.bytesLess] at h2
    | cons b u =>
      simp only [Op.bytesLess, Bool.or_eq_false_iff, decide_eq_false_iff_not, Bool.and_eq_false_iff, beq_eq_false_iff_ne] at h1 h2
      have hab : a = b := by
        rcases UInt8.lt_or_eq_of_le (UInt8.not_lt.1 h1.1) with h | h
        · exact absurd h h2.1
        · exact h.symm
      subst hab
      rw [ih u (h1.2.resolve_left (fun h => h rfl)) (h2.2.resolve_left (fun h => h rfl))]

theorem ltB_irrefl (a : ByteArray) : ltB a a = false := less_irrefl _

theorem ltB_trans {a b c : ByteArray} (h1 : ltB a b = true) (h2 : ltB b c = true) : ltB a c = true := less_trans _ _ _ h1 h2

theorem ltB_asymm {a b : ByteArray} (h : ltB a b = true) : ltB b a = false := by
  rw [Bool.eq_false_iff]
  intro h2
  have := ltB_trans h h2
  rw [ltB_irrefl] at this
  cases this

theorem toList_inj {a b : ByteArray} (h : a.toList = b.toList) : a = b := by
  apply ext_list
  rwa [ByteArray.toList_eq, ByteArray.toList_eq] at h

theorem ltB_total {a b : ByteArray} (h1 : ltB a b = false) (h2 : ltB b a = false) : a = b := toList_inj (less_total _ _ h1 h2)

/-- What the laws ask: not below, and not the same. -/
theorem ltB_gt (a b : ByteArray) : ltB a b = !(ltB b a || (b.toList == a.toList)) := by
  cases h : ltB a b
  · cases h2 : ltB b a
    · rw [ltB_total h h2]; simp
    · simp
  · rw [ltB_asymm h]
    have hne : ¬ b.toList = a.toList := fun e => by
      rw [toList_inj e, ltB_irrefl] at h
      cases h
    simp [hne]

/-! ### Books, counted -/
structure Pb where
  nm : ByteArray
  sz : Int
  rs : List (Int × Int × Int)
  fx : Bool
  ep : Int

def Pb.ok (b : Pb) : Bool := bookOk b.nm b.sz b.rs b.ep

/-- How many places of a book have that page. -/
def Pb.cnt (b : Pb) (p : Int) : Int := ((pages b.rs).count p : Int)

def cntAll (bs : List Pb) (p : Int) : Int := bs.foldr (fun b n => b.cnt p + n) 0

theorem cnt_nonneg (b : Pb) (p : Int) : 0 ≤ b.cnt p := by unfold Pb.cnt; omega

theorem cnt_le (b : Pb) (p : Int) : b.cnt p ≤ 16 := by
  unfold Pb.cnt
  have := List.count_le_length (a := p) (l := pages b.rs)
  rw [pages_length] at this
  omega

theorem cntAll_cons (b : Pb) (bs : List Pb) (p : Int) : cntAll (b :: bs) p = b.cnt p + cntAll bs p := rfl

theorem cntAll_append (xs ys : List Pb) (p : Int) : cntAll (xs ++ ys) p = cntAll xs p + cntAll ys p := by
  induction xs with
  | nil => simp [cntAll]
  | cons b t ih => rw [List.cons_append, cntAll_cons, cntAll_cons, ih]; omega

theorem cntAll_nonneg (bs : List Pb) (p : Int) : 0 ≤ cntAll bs p := by
  induction bs with
  | nil => simp [cntAll]
  | cons b t ih => rw [cntAll_cons]; have := cnt_nonneg b p; omega

theorem cntAll_le (bs : List Pb) (p : Int) : cntAll bs p ≤ 16 * bs.length := by
  induction bs with
  | nil => simp [cntAll]
  | cons b t ih => rw [cntAll_cons, List.length_cons]; have := cnt_le b p; omega

theorem cntAll_split (bs : List Pb) (i : Nat) (h : i < bs.length) (p : Int) : cntAll bs p = cntAll (bs.take i) p + bs[i].cnt p + cntAll (bs.drop (i + 1)) p := by
  have e : bs = bs.take i ++ (bs[i] :: bs.drop (i + 1)) := by rw [← List.drop_eq_getElem_cons h, List.take_append_drop]
  have q := congrArg (fun l => cntAll l p) e
  simp only [cntAll_append, cntAll_cons] at q
  omega

theorem cntAll_at (bs : List Pb) (i : Nat) (h : i < bs.length) (p : Int) : bs[i].cnt p ≤ cntAll bs p := by
  have := cntAll_split bs i h p
  have := cntAll_nonneg (bs.take i) p
  have := cntAll_nonneg (bs.drop (i + 1)) p
  omega

theorem cntAll_set (bs : List Pb) (i : Nat) (h : i < bs.length) (b : Pb) (p : Int) : cntAll (bs.set i b) p = cntAll bs p - bs[i].cnt p + b.cnt p := by
  have h' : i < (bs.set i b).length := by simpa using h
  have e1 := cntAll_split bs i h p
  have e2 := cntAll_split (bs.set i b) i h' p
  rw [List.take_set_of_le (Nat.le_refl _), List.getElem_set_self, List.drop_set_of_lt (show i < i + 1 by omega)] at e2
  omega

/-! ### A pool, its pages dropped and shared -/
/-- Rows of one length; values in range; what nobody has is 0. -/
structure Cells (n : Nat) (cs ps : List Int) : Prop where
  c : cs.length = n
  p : ps.length = n
  val : ∀ k, k < n → 0 ≤ ps.getD k 0 ∧ ps.getD k 0 ≤ 999 ∧ (cs.getD k 0 = 0 → ps.getD k 0 = 0)

def dropOne (s : List Int × List Int) (p : Int) : List Int × List Int :=
  if 0 ≤ p then (s.1.set p.toNat (s.1.getD p.toNat 0 - 1), if s.1.getD p.toNat 0 = 1 then s.2.set p.toNat 0 else s.2) else s

def dropAll (s : List Int × List Int) (l : List Int) : List Int × List Int := l.foldl dropOne s

theorem dropOne_ok {n : Nat} {cs ps : List Int} (h : Cells n cs ps) (k : Nat) (hk : k < n) (h1 : 1 ≤ cs.getD k 0) : Cells n (dropOne (cs, ps) k).1 (dropOne (cs, ps) k).2 ∧ ∀ j, (dropOne (cs, ps) k).1.getD j 0 = if k = j then cs.getD j 0 - 1 else cs.getD j 0 := by
  have hc := h.c
  have hp := h.p
  unfold dropOne
  rw [if_pos (by omega : (0 : Int) ≤ (k : Int)), Int.toNat_natCast]
  simp only
  have hg : ∀ j, (cs.set k (cs.getD k 0 - 1)).getD j 0 = if k = j then cs.getD j 0 - 1 else cs.getD j 0 := fun j => by
    rw [getD_set cs k j _ (by omega)]
    split
    · rename_i e; rw [e]
    · rfl
  refine ⟨⟨by simpa using hc, by split <;> simpa using hp, fun j hj => ?_⟩, hg⟩
  have hv := h.val j hj
  rw [hg]
  by_cases e : k = j
  · subst e
    by_cases e1 : cs.getD k 0 = 1
    · rw [if_pos e1, getD_set ps k k _ (by omega), if_pos rfl]
      exact ⟨by omega, by omega, fun _ => rfl⟩
    · rw [if_neg e1, if_pos rfl]
      exact ⟨hv.1, hv.2.1, fun q => by omega⟩
  · rw [if_neg e]
    by_cases e1 : cs.getD k 0 = 1
    · rw [if_pos e1, getD_set ps k j _ (by omega), if_neg e]
      exact hv
    · rw [if_neg e1]
      exact hv
end Go.Proofs.YtcefcglonooelaaGreatDoor

namespace Go.Proofs.YtcefcglonooelaaGreatDoor
open Go.RowKit

set_option linter.unusedVariables false

set_option maxRecDepth 100000

/-! ### A shelf -/
structure Sf where
  cs : List Int
  ps : List Int
  bs : List Pb

def sortedB : List ByteArray → Bool
  | a :: b :: t => ltB a b && sortedB (b :: t)
  | _ => true

theorem sorted_iff (l : List ByteArray) : sortedB l = true ↔ l.Pairwise (fun a b => ltB a b = true) := by
  induction l with
  | nil => simp [sortedB]
  | cons a t ih =>
    cases t with
    | nil => simp [sortedB]
    | cons b u =>
      rw [sortedB, Bool.and_eq_true, ih]
      constructor
      · rintro ⟨h1, h2⟩
        refine List.pairwise_cons.2 ⟨fun x hx => ?_, h2⟩
        rcases List.mem_cons.1 hx with rfl | hx
        · exact h1
        · exact ltB_trans h1 ((List.pairwise_cons.1 h2).1 x hx)
      · intro h
        obtain ⟨h1, h2⟩ := List.pairwise_cons.1 h
        exact ⟨h1 b (List.mem_cons_self ..), h2⟩

structure ShInv (s : Sf) : Prop where
  n1 : 1 ≤ s.cs.length ∧ s.cs.length ≤ 24
  cells : Cells s.cs.length s.cs s.ps
  few : s.bs.length ≤ 6
  oks : ∀ b ∈ s.bs, b.ok = true
  srt : (s.bs.map Pb.nm).Pairwise (fun a b => ltB a b = true)
  cnt : ∀ k : Nat, k < s.cs.length → s.cs.getD k 0 = cntAll s.bs (k : Int)
  out : ∀ k : Nat, s.cs.length ≤ k → k < 24 → cntAll s.bs (k : Int) = 0

theorem book_parts {b : Pb} (h : b.ok = true) : Nums.nameB b.nm.data.toList = true ∧ (1 ≤ b.sz ∧ b.sz ≤ 16) ∧ (0 ≤ b.ep ∧ b.ep ≤ 1000) ∧ mapOk b.rs = true ∧ endsBy b.rs b.sz = true := by
  simp only [Pb.ok, bookOk, Bool.and_eq_true, decide_eq_true_eq] at h
  exact ⟨h.1.1.1.1, h.1.1.1.2, h.1.1.2, h.1.2, h.2⟩

theorem mem_getD (l : List Int) (hl : l.length = 16) (p : Int) : p ∈ l ↔ ∃ j, j < 16 ∧ l.getD j 0 = p := by
  rw [List.mem_iff_getElem]
  constructor
  · rintro ⟨j, hj, rfl⟩; exact ⟨j, by omega, getD_of l j hj⟩
  · rintro ⟨j, hj, rfl⟩; exact ⟨j, by omega, (getD_of l j (by omega)).symm⟩

/-- A page that a book has lies in the pool. -/
theorem ShInv.page {s : Sf} (h : ShInv s) (i : Nat) (hi : i < s.bs.length) (p : Int) (hp : p ∈ pages s.bs[i].rs) (h0 : 0 ≤ p) : p < s.cs.length ∧ 1 ≤ s.cs.getD p.toNat 0 := by
  have hm := (book_parts (h.oks _ (List.getElem_mem hi))).2.2.2.1
  obtain ⟨j, hj, rfl⟩ := (mem_getD _ (pages_length _) p).1 hp
  have hr := (pages_range _ hm j hj).2
  generalize (pages s.bs[i].rs).getD j 0 = p at *
  obtain ⟨m, rfl⟩ := Int.eq_ofNat_of_zero_le h0
  have hc := cntAll_at s.bs i hi (m : Int)
  have h1 : 1 ≤ s.bs[i].cnt (m : Int) := by
    unfold Pb.cnt
    have := List.count_pos_iff.2 hp
    omega
  rw [Int.toNat_natCast]
  by_cases hl : m < s.cs.length
  · have := h.cnt m hl; omega
  · have := h.out m (by omega) (by omega); omega

theorem cnt_le_cs {s : Sf} (h : ShInv s) (i : Nat) (hi : i < s.bs.length) (k : Nat) (hk : k < s.cs.length) : s.bs[i].cnt (k : Int) ≤ s.cs.getD k 0 := by
  rw [h.cnt k hk]
  exact cntAll_at s.bs i hi _

/-! ### What is done -/
def findP (bs : List Pb) (n : ByteArray) : Int := findFrom n (bs.map Pb.nm) 0

def insertAt (bs : List Pb) (n : ByteArray) : Nat := (bs.takeWhile fun x => ltB x.nm n).length

def insertP (bs : List Pb) (b : Pb) : List Pb := bs.take (insertAt bs b.nm) ++ [b] ++ bs.drop (insertAt bs b.nm)

def bookAt (bs : List Pb) (i : Int) : Pb := bs.getD i.toNat ⟨ByteArray.empty, 0, [], false, 0⟩

def refused (bs : List Pb) (o : Oq) : Int :=
  if o.k ≠ 1 ∧ findP bs o.nm < 0 then 2
  else if (o.k = 1 ∧ 0 ≤ findP bs o.nm) ∨ (kOther o.k = true ∧ 0 ≤ findP bs o.ot) then 3
  else if o.k = 1 then (if bs.length = 6 then 7 else 0)
  else if kEpoch o.k = true ∧ o.ep < (bookAt bs (findP bs o.nm)).ep then 4
  else if kEpoch o.k = true ∧ o.k ≠ 6 ∧ (bookAt bs (findP bs o.nm)).fx = true then 5
  else if kAt o.k = true ∧ (bookAt bs (findP bs o.nm)).sz ≤ o.at_ then 6
  else if kOther o.k = true ∧ bs.length = 6 then 7
  else if o.k = 8 ∧ (bookAt bs (findP bs o.nm)).ep = 1000 then 8
  else 0

/-! ### It stays right -/
theorem find_in (bs : List Pb) (n : ByteArray) (h : ¬ findP bs n < 0) : ∃ (i : Nat) (hi : i < bs.length), findP bs n = i ∧ bs[i].nm = n := by
  rcases find_range n (bs.map Pb.nm) 0 with h1 | ⟨h1, h2, h3⟩
  · exact absurd (show findP bs n < 0 by rw [findP, h1]; omega) h
  · have hf : findFrom n (bs.map Pb.nm) 0 = findP bs n := rfl
    rw [hf] at h1 h2 h3
    simp only [List.length_map, Nat.sub_zero] at h2 h3
    refine ⟨(findP bs n).toNat, by omega, by omega, ?_⟩
    rw [List.getElem?_map, List.getElem?_eq_getElem (show (findP bs n).toNat < bs.length by omega)] at h3
    simpa using h3

theorem find_not (bs : List Pb) (n : ByteArray) (h : findP bs n < 0) (b : Pb) (hb : b ∈ bs) : b.nm ≠ n := by
  intro e
  obtain ⟨j, hj, rfl⟩ := List.getElem_of_mem hb
  have := find_first n (bs.map Pb.nm) 0 j (by simp [hj, e])
  have hf : findFrom n (bs.map Pb.nm) 0 = findP bs n := rfl
  rw [hf] at this
  omega

theorem bookAt_of (bs : List Pb) (i : Nat) (h : i < bs.length) : bookAt bs i = bs[i] := by
  unfold bookAt
  rw [Int.toNat_natCast, List.getD_eq_getElem?_getD, List.getElem?_eq_getElem h]
  rfl

theorem insert_sorted (bs : List Pb) (b : Pb) (hs : (bs.map Pb.nm).Pairwise (fun a b => ltB a b = true)) (hn : ∀ x ∈ bs, x.nm ≠ b.nm) : ((insertP bs b).map Pb.nm).Pairwise (fun a b => ltB a b = true) := by
  have key : ∀ (l : List Pb), (l.map Pb.nm).Pairwise (fun a b => ltB a b = true) → (∀ x ∈ l, x.nm ≠ b.nm) → insertP l b = (l.takeWhile fun x => ltB x.nm b.nm) ++ [b] ++ (l.dropWhile fun x => ltB x.nm b.nm) := fun l _ _ => by
    unfold insertP insertAt
    have e : l = (l.takeWhile fun x => ltB x.nm b.nm) ++ (l.dropWhile fun x => ltB x.nm b.nm) := (List.takeWhile_append_dropWhile).symm
    generalize hT : (l.takeWhile fun x => ltB x.nm b.nm) = T at *
    generalize hD : (l.dropWhile fun x => ltB x.nm b.nm) = D at *
    rw [e, List.take_left, List.drop_left]
  rw [key bs hs hn]
  clear key
  induction bs with
  | nil => simp
  | cons a t ih =>
    have hs' := List.pairwise_cons.1 (show (a.nm :: t.map Pb.nm).Pairwise _ from hs)
    by_cases h : ltB a.nm b.nm = true
    · rw [List.takeWhile_cons, List.dropWhile_cons, h]
      simp only [if_true, List.cons_append, List.map_cons]
      rw [List.pairwise_cons]
      refine ⟨fun x hx => ?_, ih hs'.2 (fun x hx => hn x (List.mem_cons_of_mem _ hx))⟩
      simp only [List.map_append, List.mem_append, List.map_cons, List.map_nil, List.mem_singleton] at hx
      rcases hx with (hx | rfl) | hx
      · obtain ⟨y, hy, rfl⟩ := List.mem_map.1 hx
        exact hs'.1 _ (List.mem_map_of_mem ((List.takeWhile_sublist _).subset hy))
      · exact h
      · obtain ⟨y, hy, rfl⟩ := List.mem_map.1 hx
        exact hs'.1 _ (List.mem_map_of_mem ((List.dropWhile_sublist _).subset hy))
    · rw [List.takeWhile_cons, List.dropWhile_cons]
      have h' : ltB a.nm b.nm = false := by simpa using h
      rw [h']
      simp only [Bool.false_eq_true, if_false, List.nil_append, List.singleton_append, List.map_cons]
      rw [List.pairwise_cons]
      have hba : ltB b.nm a.nm = true := by
        cases hq : ltB b.nm a.nm
        · exact absurd (ltB_total h' hq) (hn a (List.mem_cons_self ..))
        · rfl
      refine ⟨fun x hx => ?_, hs⟩
      rcases List.mem_cons.1 hx with rfl | hx
      · exact hba
      · exact ltB_trans hba (hs'.1 x hx)
end Go.Proofs.YtcefcglonooelaaGreatDoor

namespace Go.Proofs.YtcefcglonooelaaGreatDoor
open Go.RowKit

set_option linter.unusedVariables false

set_option maxRecDepth 100000


/-- A cell of a block is written. -/
theorem set_at {W : World} {b : Nat} {cs : Array Value} {t : TypeId} (h : W.heap[b]? = some (.cells cs t (0, 0))) (i : Nat) (x : Value) : (W.setCell ⟨b, i, none⟩ x).heap[b]? = some (.cells (cs.setIfInBounds i x) t (0, 0)) := by
  obtain ⟨hlt, hk⟩ := Array.getElem?_eq_some_iff.1 h
  show (W.heap.modify b _)[b]? = _
  rw [Array.getElem?_eq_getElem (by rw [Array.size_modify]; exact hlt), Array.getElem_modify_self, hk]
  rfl
end Go.Proofs.YtcefcglonooelaaGreatDoor

