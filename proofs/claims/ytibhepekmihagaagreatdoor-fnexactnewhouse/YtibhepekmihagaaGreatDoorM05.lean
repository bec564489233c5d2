/-
  Contracts and plain laws, one chapter behind the other.
-/
import Derived.WalkKit
import Derived.Deep.RegionLaw
import Derived.Test.YtibhepekmihagaaGreatDoorM02
import Derived.Test.YtibhepekmihagaaGreatDoorM04
namespace Go.Proofs.YtibhepekmihagaaGreatDoor
set_option linter.unusedVariables false

set_option maxRecDepth 100000


/-- A number of 64 bits; runs of such. -/
def I64 (x : Int) : Prop := -9223372036854775808 ≤ x ∧ x ≤ 9223372036854775807

def FitRuns (rs : List (Int × Int × Int)) : Prop := ∀ r ∈ rs, I64 r.1 ∧ I64 r.2.1 ∧ I64 r.2.2

/-- Is the run right, behind places that end at e, behind a run that is pv? -/
def runOk (e : Int) (pv : Option (Int × Int × Int)) (r : Int × Int × Int) : Bool :=
  decide (e ≤ r.1) && (decide (1 ≤ r.2.1) && decide (r.2.1 ≤ 16)) && decide (r.1 ≤ 16 - r.2.1) && (decide (0 ≤ r.2.2) && decide (r.2.2 ≤ 24 - r.2.1)) &&
    !(match pv with | none => false | some q => decide (r.1 = e) && decide (r.2.2 = q.2.2 + q.2.1))

def okFrom : Int → Option (Int × Int × Int) → List (Int × Int × Int) → Bool
  | _, _, [] => true
  | e, pv, r :: rs => runOk e pv r && okFrom (r.1 + r.2.1) (some r) rs

def mapOk (rs : List (Int × Int × Int)) : Bool := okFrom 0 none rs && decide (rs.length ≤ 16)

theorem runOk_iff (e : Int) (pv : Option (Int × Int × Int)) (f c p : Int) : runOk e pv (f, c, p) = true ↔ (e ≤ f ∧ 1 ≤ c ∧ c ≤ 16 ∧ f ≤ 16 - c ∧ 0 ≤ p ∧ p ≤ 24 - c ∧ ∀ q, pv = some q → ¬ (f = e ∧ p = q.2.2 + q.2.1)) := by
  cases pv with
  | none => simp [runOk]; omega
  | some q =>
    simp only [runOk, Bool.and_eq_true, decide_eq_true_eq, Bool.not_eq_true', Bool.and_eq_false_iff, decide_eq_false_iff_not, Option.some.injEq]
    constructor
    · rintro ⟨⟨⟨⟨h1, h2⟩, h3⟩, h4⟩, h5⟩
      refine ⟨h1, h2.1, h2.2, h3, h4.1, h4.2, ?_⟩
      rintro _ rfl ⟨h6, h7⟩
      rcases h5 with h5 | h5
      · exact h5 h6
      · exact h5 h7
    · rintro ⟨h1, h2, h3, h4, h5, h6, h7⟩
      refine ⟨⟨⟨⟨h1, h2, h3⟩, h4⟩, h5, h6⟩, ?_⟩
      by_cases h8 : f = e
      · exact .inr (fun h9 => h7 q rfl ⟨h8, h9⟩)
      · exact .inl h8

/-- n pages one behind the other are laid from place f on. -/
def lay (l : List Int) (f : Nat) (p : Int) : Nat → List Int
  | 0 => l
  | n + 1 => (lay l f p n).set (f + n) (p + n)

def layRun (l : List Int) (r : Int × Int × Int) : List Int := lay l r.1.toNat r.2.2 r.2.1.toNat

def none16 : List Int := List.replicate 16 (-1)

/-- For each place its page; -1: none. -/
def pages (rs : List (Int × Int × Int)) : List Int := rs.foldl layRun none16

theorem lay_length (l : List Int) (f : Nat) (p : Int) (n : Nat) : (lay l f p n).length = l.length := by
  induction n with
  | zero => rfl
  | succ n ih => rw [lay, List.length_set, ih]

theorem layRun_length (l : List Int) (r : Int × Int × Int) : (layRun l r).length = l.length := lay_length _ _ _ _

theorem foldl_length (rs : List (Int × Int × Int)) (l : List Int) : (rs.foldl layRun l).length = l.length := by
  induction rs generalizing l with
  | nil => rfl
  | cons r rs ih => rw [List.foldl_cons, ih, layRun_length]

theorem pages_length (rs : List (Int × Int × Int)) : (pages rs).length = 16 := by rw [pages, foldl_length]; rfl

theorem lay_get (l : List Int) (f : Nat) (p : Int) (n j : Nat) (h : f + n ≤ l.length) : (lay l f p n).getD j 0 = if f ≤ j ∧ j < f + n then p + ((j - f : Nat) : Int) else l.getD j 0 := by
  induction n with
  | zero => rw [lay, if_neg (by omega)]
  | succ n ih =>
    have hl := lay_length l f p n
    rw [lay, List.getD_eq_getElem?_getD, List.getElem?_set, hl]
    by_cases e : f + n = j
    · rw [if_pos e, if_pos (by omega), if_pos (by omega)]
      show p + (n : Int) = _
      rw [show j - f = n by omega]
    · rw [if_neg e, ← List.getD_eq_getElem?_getD, ih (by omega)]
      by_cases q : f ≤ j ∧ j < f + n
      · rw [if_pos q, if_pos (by omega)]
      · rw [if_neg q, if_neg (by omega)]

/-- One place more: it is skipped, it makes the last run longer, or it begins a run. -/
def grow (k : Nat) (v : Int) (acc : List (Int × Int × Int)) : List (Int × Int × Int) :=
  if v < 0 then acc else
  match acc.getLast? with
  | none => acc ++ [((k : Int), 1, v)]
  | some r => if r.1 + r.2.1 = k ∧ r.2.2 + r.2.1 = v then acc.dropLast ++ [(r.1, r.2.1 + 1, r.2.2)] else acc ++ [((k : Int), 1, v)]

/-- The map of the first n places of l. -/
def upto (l : List Int) : Nat → List (Int × Int × Int)
  | 0 => []
  | n + 1 => grow n (l.getD n 0) (upto l n)

def mapOf (l : List Int) : List (Int × Int × Int) := upto l l.length

/-- Right at its end: where it ends, and its last run. -/
theorem okFrom_append (e : Int) (pv : Option (Int × Int × Int)) (rs : List (Int × Int × Int)) (r : Int × Int × Int) :
    okFrom e pv (rs ++ [r]) = (okFrom e pv rs && runOk (match rs.getLast? with | none => e | some q => q.1 + q.2.1) (match rs.getLast? with | none => pv | some q => some q) r) := by
  induction rs generalizing e pv with
  | nil => simp [okFrom]
  | cons q rs ih =>
    rw [List.cons_append, okFrom, ih, okFrom, Bool.and_assoc]
    cases rs with
    | nil => simp
    | cons s t =>
      rw [List.getLast?_cons_cons]
      cases h : (s :: t).getLast? with
      | none => simp at h
      | some z => rfl

/-- What holds of the map of the first n places: it is right, ends at n at most, and shows them. -/
structure UptoOk (l : List Int) (n : Nat) (rs : List (Int × Int × Int)) : Prop where
  ok : okFrom 0 none rs = true
  endAt : ∀ r, rs.getLast? = some r → r.1 + r.2.1 ≤ n ∧ 0 ≤ r.1 ∧ 1 ≤ r.2.1 ∧ 0 ≤ r.2.2
  shows : ∀ j, (pages rs).getD j 0 = if j < n then l.getD j 0 else none16.getD j 0
  few : rs.length ≤ n

theorem pages_snoc (rs : List (Int × Int × Int)) (r : Int × Int × Int) : pages (rs ++ [r]) = layRun (pages rs) r := by rw [pages, List.foldl_append]; rfl

theorem getD_wr1 (l : List Int) (k : Nat) (v : Int) (j : Nat) (h : k < l.length) : (layRun l ((k : Int), 1, v)).getD j 0 = if j = k then v else l.getD j 0 := by
  show (lay l (k : Int).toNat v (1 : Int).toNat).getD j 0 = _
  rw [Int.toNat_natCast, show (1 : Int).toNat = 1 from rfl, lay_get l k v 1 j (by omega)]
  by_cases e : j = k
  · rw [if_pos (by omega), if_pos e, show j - k = 0 by omega]; simp
  · rw [if_neg (by omega), if_neg e]

theorem upto_ok (l : List Int) (hl : l.length = 16) (hv : ∀ j, j < 16 → -1 ≤ l.getD j 0 ∧ l.getD j 0 ≤ 23) (n : Nat) (hn : n ≤ 16) : UptoOk l n (upto l n) := by
  induction n with
  | zero => exact ⟨rfl, fun r h => by simp [upto] at h, fun j => by rw [if_neg (by omega)]; rfl, Nat.le_refl _⟩
  | succ n ih =>
    have h := ih (by omega)
    have hvn := hv n (by omega)
    rw [upto]
    generalize upto l n = rs at h
    have hpl := pages_length rs
    have hat : (pages rs).getD n 0 = -1 := by
      rw [h.shows n, if_neg (by omega)]
      have h16 : n = 0 ∨ n = 1 ∨ n = 2 ∨ n = 3 ∨ n = 4 ∨ n = 5 ∨ n = 6 ∨ n = 7 ∨ n = 8 ∨ n = 9 ∨ n = 10 ∨ n = 11 ∨ n = 12 ∨ n = 13 ∨ n = 14 ∨ n = 15 := by omega
      rcases h16 with rfl | rfl | rfl | rfl | rfl | rfl | rfl | rfl | rfl | rfl | rfl | rfl | rfl | rfl | rfl | rfl <;> rfl
    have shows' : ∀ rs' : List (Int × Int × Int), (∀ j, (pages rs').getD j 0 = if j = n then l.getD n 0 else (pages rs).getD j 0) → ∀ j, (pages rs').getD j 0 = if j < n + 1 then l.getD j 0 else none16.getD j 0 := fun rs' hj j => by
      rw [hj j, h.shows j]
      by_cases e : j = n
      · rw [if_pos e, if_pos (by omega), e]
      · rw [if_neg e]
        by_cases q : j < n
        · rw [if_pos q, if_pos (by omega)]
        · rw [if_neg q, if_neg (by omega)]
    unfold grow
    by_cases hneg : l.getD n 0 < 0
    · rw [if_pos hneg]
      refine ⟨h.ok, fun r hr => by have := h.endAt r hr; omega, shows' rs (fun j => ?_), by have := h.few; omega⟩
      by_cases e : j = n
      · rw [if_pos e, e, hat]; omega
      · rw [if_neg e]
    · rw [if_neg hneg]
      have new : (∀ r, rs.getLast? = some r → ¬ (r.1 + r.2.1 = (n : Int) ∧ r.2.2 + r.2.1 = l.getD n 0)) → UptoOk l (n + 1) (rs ++ [((n : Int), 1, l.getD n 0)]) := fun hno => by
        refine ⟨?_, fun r hr => ?_, shows' _ (fun j => ?_), by have := h.few; simp; omega⟩
        · rw [okFrom_append, h.ok, Bool.true_and, runOk_iff]
          cases hg : rs.getLast? with
          | none => exact ⟨by simp, by omega, by omega, by omega, by omega, by omega, fun q hq => by cases hq⟩
          | some r =>
            have he := h.endAt r hg
            refine ⟨by simp; omega, by omega, by omega, by omega, by omega, by omega, fun q hq hh => ?_⟩
            simp only [Option.some.injEq] at hq
            subst hq
            exact hno r hg ⟨hh.1.symm, hh.2.symm⟩
        · rw [List.getLast?_concat, Option.some.injEq] at hr
          subst hr
          simp only
          omega
        · rw [pages_snoc, getD_wr1 _ _ _ _ (by omega)]
      cases hg : rs.getLast? with
      | none => exact new (fun r hr => by rw [hg] at hr; cases hr)
      | some r =>
        simp only
        by_cases hc : r.1 + r.2.1 = (n : Int) ∧ r.2.2 + r.2.1 = l.getD n 0
        · rw [if_pos hc]
          have he := h.endAt r hg
          obtain ⟨pre, rfl⟩ : ∃ pre, rs = pre ++ [r] := ⟨rs.dropLast, by
            have hne : rs ≠ [] := fun e => by rw [e] at hg; cases hg
            rw [List.getLast?_eq_some_getLast hne] at hg
            have := List.dropLast_concat_getLast hne
            simp only [Option.some.injEq] at hg
            rw [hg] at this
            exact this.symm⟩
          rw [List.dropLast_concat]
          obtain ⟨f, c, p⟩ := r
          simp only at he hc ⊢
          have hok := h.ok
          rw [okFrom_append, Bool.and_eq_true, runOk_iff] at hok
          refine ⟨?_, fun s hs => ?_, shows' _ (fun j => ?_), by have := h.few; simp at this ⊢; omega⟩
          · rw [okFrom_append, Bool.and_eq_true, runOk_iff]
            exact ⟨hok.1, hok.2.1, by omega, by omega, by omega, by omega, by omega, hok.2.2.2.2.2.2.2⟩
          · rw [List.getLast?_concat, Option.some.injEq] at hs
            subst hs
            simp only
            omega
          · rw [pages_snoc, pages_snoc]
            have hc1 : (c + 1).toNat = c.toNat + 1 := by omega
            have hpl2 := pages_length pre
            show (lay (pages pre) f.toNat p (c + 1).toNat).getD j 0 = if j = n then _ else (lay (pages pre) f.toNat p c.toNat).getD j 0
            rw [hc1, lay_get _ _ _ _ _ (by omega), lay_get _ _ _ _ _ (by omega)]
            by_cases e : j = n
            · rw [if_pos e, if_pos (by omega)]
              omega
            · rw [if_neg e]
              by_cases q : f.toNat ≤ j ∧ j < f.toNat + c.toNat
              · rw [if_pos q, if_pos (by omega)]
              · rw [if_neg q, if_neg (by omega)]
        · rw [if_neg hc]
          exact new (fun s hs => by rw [hg] at hs; simp only [Option.some.injEq] at hs; subst hs; exact hc)

theorem ext16 (a b : List Int) (ha : a.length = 16) (hb : b.length = 16) (h : ∀ j, j < 16 → a.getD j 0 = b.getD j 0) : a = b := by
  apply List.ext_getElem (by omega)
  intro j h1 h2
  have := h j (by omega)
  rw [List.getD_eq_getElem?_getD, List.getD_eq_getElem?_getD, List.getElem?_eq_getElem h1, List.getElem?_eq_getElem h2] at this
  exact this

/-- The map of pages is right, and shows them. -/
theorem mapOf_ok (l : List Int) (hl : l.length = 16) (hv : ∀ j, j < 16 → -1 ≤ l.getD j 0 ∧ l.getD j 0 ≤ 23) : mapOk (mapOf l) = true ∧ pages (mapOf l) = l := by
  have h := upto_ok l hl hv 16 (Nat.le_refl _)
  rw [mapOf, hl]
  refine ⟨?_, ext16 _ _ (pages_length _) hl fun j hj => by rw [h.shows j, if_pos hj]⟩
  rw [mapOk, h.ok, Bool.true_and, decide_eq_true_iff]
  exact h.few

/-- Each page that a right map shows is one, or there is none. -/
theorem pages_fold_range (rs : List (Int × Int × Int)) (e : Int) (pv : Option (Int × Int × Int)) (h : okFrom e pv rs = true) (l : List Int) (hl : l.length = 16) (hv : ∀ j, j < 16 → -1 ≤ l.getD j 0 ∧ l.getD j 0 ≤ 23) (he : 0 ≤ e) : ∀ j, j < 16 → -1 ≤ (rs.foldl layRun l).getD j 0 ∧ (rs.foldl layRun l).getD j 0 ≤ 23 := by
  induction rs generalizing e pv l with
  | nil => exact hv
  | cons r rs ih =>
    obtain ⟨f, c, p⟩ := r
    rw [okFrom, Bool.and_eq_true, runOk_iff] at h
    rw [List.foldl_cons]
    refine ih _ _ h.2 _ (by rw [layRun_length]; exact hl) (fun j hj => ?_) (by simp only; omega)
    show -1 ≤ (lay l f.toNat p c.toNat).getD j 0 ∧ (lay l f.toNat p c.toNat).getD j 0 ≤ 23
    rw [lay_get _ _ _ _ _ (by omega)]
    by_cases q : f.toNat ≤ j ∧ j < f.toNat + c.toNat
    · rw [if_pos q]; omega
    · rw [if_neg q]; exact hv j hj

theorem none16_at (j : Nat) (hj : j < 16) : none16.getD j 0 = -1 := by
  have h16 : j = 0 ∨ j = 1 ∨ j = 2 ∨ j = 3 ∨ j = 4 ∨ j = 5 ∨ j = 6 ∨ j = 7 ∨ j = 8 ∨ j = 9 ∨ j = 10 ∨ j = 11 ∨ j = 12 ∨ j = 13 ∨ j = 14 ∨ j = 15 := by omega
  rcases h16 with rfl | rfl | rfl | rfl | rfl | rfl | rfl | rfl | rfl | rfl | rfl | rfl | rfl | rfl | rfl | rfl <;> rfl

theorem mapOk_from {rs : List (Int × Int × Int)} (h : mapOk rs = true) : okFrom 0 none rs = true := by rw [mapOk, Bool.and_eq_true] at h; exact h.1

theorem pages_range (rs : List (Int × Int × Int)) (h : mapOk rs = true) (j : Nat) (hj : j < 16) : -1 ≤ (pages rs).getD j 0 ∧ (pages rs).getD j 0 ≤ 23 :=
  pages_fold_range rs 0 none (mapOk_from h) none16 rfl (fun j hj => by rw [none16_at j hj]; omega) (by omega) j hj

/-- Places that have none are skipped. -/
theorem upto_skip (l : List Int) (k n : Nat) (h : ∀ j, k ≤ j → j < k + n → l.getD j 0 < 0) : upto l (k + n) = upto l k := by
  induction n with
  | zero => rfl
  | succ n ih =>
    rw [← Nat.add_assoc, upto, ih (fun j h1 h2 => h j h1 (by omega))]
    unfold grow
    rw [if_pos (h (k + n) (by omega) (by omega))]

/-- What a right map shows: in each run its pages, elsewhere none. -/
theorem fold_at (rs : List (Int × Int × Int)) (e : Int) (pv : Option (Int × Int × Int)) (h : okFrom e pv rs = true) (he : 0 ≤ e) (l : List Int) (hl : l.length = 16) :
    (∀ j : Nat, (∀ r ∈ rs, ¬ (r.1 ≤ (j : Int) ∧ (j : Int) < r.1 + r.2.1)) → (rs.foldl layRun l).getD j 0 = l.getD j 0) ∧ ∀ r ∈ rs, ∀ i : Nat, (i : Int) < r.2.1 → (rs.foldl layRun l).getD (r.1.toNat + i) 0 = r.2.2 + i := by
  induction rs generalizing e pv l with
  | nil => exact ⟨fun j _ => rfl, fun r hr => by cases hr⟩
  | cons r rs ih =>
    obtain ⟨f, c, p⟩ := r
    rw [okFrom, Bool.and_eq_true, runOk_iff] at h
    obtain ⟨⟨h1, h2, h3, h4, h5, h6, h7⟩, h8⟩ := h
    have hlater : ∀ (rs : List (Int × Int × Int)) (e : Int) (pv : Option (Int × Int × Int)), okFrom e pv rs = true → ∀ s ∈ rs, e ≤ s.1 := by
      intro rs
      induction rs with
      | nil => intro e pv _ s hs; cases hs
      | cons q qs ih2 =>
        intro e pv hq s hs
        obtain ⟨qf, qc, qp⟩ := q
        rw [okFrom, Bool.and_eq_true, runOk_iff] at hq
        rcases List.mem_cons.1 hs with rfl | hs
        · exact hq.1.1
        · have := ih2 _ _ hq.2 s hs
          simp only at this
          omega
    have hl2 := hlater rs _ _ h8
    simp only at hl2
    obtain ⟨i1, i2⟩ := ih _ _ h8 (by simp only; omega) (layRun l (f, c, p)) (by rw [layRun_length]; exact hl)
    rw [List.foldl_cons]
    have hw : ∀ j : Nat, (layRun l (f, c, p)).getD j 0 = if f.toNat ≤ j ∧ j < f.toNat + c.toNat then p + ((j - f.toNat : Nat) : Int) else l.getD j 0 := fun j => lay_get l f.toNat p c.toNat j (by omega)
    refine ⟨fun j hj => ?_, fun s hs i hi => ?_⟩
    · rw [i1 j (fun r hr => hj r (List.mem_cons_of_mem _ hr)), hw j, if_neg]
      have := hj (f, c, p) (List.mem_cons_self ..)
      simp only at this
      omega
    · rcases List.mem_cons.1 hs with rfl | hs
      · simp only at hi ⊢
        rw [i1 _ (fun r hr => by have := hl2 r hr; omega), hw, if_pos (by omega)]
        congr 1
        omega
      · exact i2 s hs i hi
end Go.Proofs.YtibhepekmihagaaGreatDoor

namespace Go.Proofs.YtibhepekmihagaaGreatDoor
open Go.RowKit

set_option linter.unusedVariables false

set_option maxRecDepth 100000


/-- The last run ends at the size or ahead of it. -/
def endsBy (rs : List (Int × Int × Int)) (sz : Int) : Bool := match rs.getLast? with
  | none => true
  | some r => decide (r.1 + r.2.1 ≤ sz)

def bookOk (nm : ByteArray) (sz : Int) (rs : List (Int × Int × Int)) (ep : Int) : Bool :=
  Nums.nameB nm.data.toList && (decide (1 ≤ sz) && decide (sz ≤ 16)) && (decide (0 ≤ ep) && decide (ep ≤ 1000)) && mapOk rs && endsBy rs sz
end Go.Proofs.YtibhepekmihagaaGreatDoor

namespace Go.Proofs.YtibhepekmihagaaGreatDoor
open Go.RowKit

set_option linter.unusedVariables false

set_option maxRecDepth 100000


/-- A book: its cells, and the runs that its map reads. -/
structure Bk where
  nm : ByteArray
  sz : Int
  m : Value
  rs : List (Int × Int × Int)
  fx : Bool
  ep : Int

def bookC (b : Bk) : List Value := [.string b.nm, .int .i64 b.sz, b.m, .bool b.fx, .int .i64 b.ep]

theorem bookC_len (b : Bk) : (bookC b).length = 5 := rfl

/-- A row of books that is read, the maps too. -/
structure ReadsB (B : Nat) (w : World) (v : Value) (bs : List Bk) : Prop where
  row : ReadsR 5 bookC B w v bs
  maps : ∀ b ∈ bs, ReadsR 3 runC B w b.m b.rs

theorem ReadsB.below {B : Nat} {w w' : World} {v : Value} {bs : List Bk} (h : ReadsB B w v bs) (k : Below B w w') : ReadsB B w' v bs := ⟨h.row.below k, fun b hb => (h.maps b hb).below k⟩

theorem ReadsB.mono {B B' : Nat} {w : World} {v : Value} {bs : List Bk} (h : ReadsB B w v bs) (k : B ≤ B') : ReadsB B' w v bs := ⟨h.row.mono k, fun b hb => (h.maps b hb).mono k⟩

def findFrom (n : ByteArray) : List ByteArray → Nat → Int
  | [], _ => -1
  | x :: t, k => if x = n then (k : Int) else findFrom n t (k + 1)

theorem find_range (n : ByteArray) (l : List ByteArray) (k : Nat) : findFrom n l k = -1 ∨ ((k : Int) ≤ findFrom n l k ∧ findFrom n l k < k + l.length ∧ l[(findFrom n l k).toNat - k]? = some n) := by
  induction l generalizing k with
  | nil => exact .inl rfl
  | cons x t ih =>
    rw [findFrom]
    split
    · rename_i h
      right
      subst h
      simp
      omega
    · rcases ih (k + 1) with h | ⟨h1, h2, h3⟩
      · exact .inl h
      · right
        refine ⟨by omega, by simp; omega, ?_⟩
        rw [show (findFrom n t (k + 1)).toNat - k = (findFrom n t (k + 1)).toNat - (k + 1) + 1 by omega, List.getElem?_cons_succ]
        exact h3

theorem find_first (n : ByteArray) (l : List ByteArray) (k j : Nat) (h : l[j]? = some n) : (k : Int) ≤ findFrom n l k ∧ findFrom n l k ≤ k + j := by
  induction l generalizing k j with
  | nil => simp at h
  | cons x t ih =>
    rw [findFrom]
    split
    · omega
    · rename_i hx
      match j, h with
      | 0, h => simp at h; exact absurd h hx
      | j + 1, h =>
        have := ih (k + 1) j (by simpa using h)
        omega
end Go.Proofs.YtibhepekmihagaaGreatDoor

namespace Go.Proofs.YtibhepekmihagaaGreatDoor
open Nums

set_option linter.unusedVariables false

set_option maxRecDepth 100000


structure Oq where
  k : Int
  nm : ByteArray
  ot : ByteArray
  at_ : Int
  va : Int
  ep : Int

def Oq.zero : Oq := ⟨0, ByteArray.empty, ByteArray.empty, 0, 0, 0⟩

def kOther (k : Int) : Bool := decide (k = 4) || decide (k = 5)

def kAt (k : Int) : Bool := decide (k = 2) || decide (k = 3) || decide (k = 9)

def kSize (k : Int) : Bool := decide (k = 1) || decide (k = 7)

def kEpoch (k : Int) : Bool := decide (k = 2) || decide (k = 3) || decide (k = 6) || decide (k = 7)

def inB (x lo hi : Int) : Bool := decide (lo ≤ x) && decide (x ≤ hi)

def valOk (k va : Int) : Bool := if kSize k = true then inB va 1 16 else if k = 2 then inB va 0 999 else decide (va = 0)

def opOk (o : Oq) : Bool :=
  nameB o.nm.data.toList && inB o.k 1 9 && (kOther o.k == decide (o.ot.size ≠ 0)) && (!kOther o.k || nameB o.ot.data.toList) && (kAt o.k || decide (o.at_ = 0)) && inB o.at_ 0 255 && (kEpoch o.k || decide (o.ep = 0)) && inB o.ep 0 1000 && valOk o.k o.va

theorem inB_iff (x lo hi : Int) : inB x lo hi = true ↔ lo ≤ x ∧ x ≤ hi := by simp [inB]

theorem nameB_size (s : ByteArray) (h : nameB s.data.toList = true) : 1 ≤ s.size ∧ s.size ≤ 4 := by
  simp only [nameB, Bool.and_eq_true, decide_eq_true_eq] at h
  have e : s.data.toList.length = s.size := by simp
  omega

theorem ext_list {a b : ByteArray} (h : a.data.toList = b.data.toList) : a = b := by
  cases a; cases b
  simp at h
  rw [h]
end Go.Proofs.YtibhepekmihagaaGreatDoor

namespace Go.Proofs.YtibhepekmihagaaGreatDoor

def cellOk (c p : Int) : Bool := (decide (0 ≤ c) && decide (c ≤ 400)) && (decide (0 ≤ p) && decide (p ≤ 999)) && !(decide (c = 0) && !decide (p = 0))

theorem cellOk_iff (c p : Int) : cellOk c p = true ↔ 0 ≤ c ∧ c ≤ 400 ∧ 0 ≤ p ∧ p ≤ 999 ∧ (c = 0 → p = 0) := by
  simp only [cellOk, Bool.and_eq_true, decide_eq_true_eq, Bool.not_eq_true', Bool.and_eq_false_iff, decide_eq_false_iff_not, Bool.not_eq_false']
  constructor
  · rintro ⟨⟨⟨h1, h2⟩, h3, h4⟩, h5⟩
    refine ⟨h1, h2, h3, h4, fun h => ?_⟩
    rcases h5 with h5 | h5
    · exact absurd h h5
    · exact h5
  · rintro ⟨h1, h2, h3, h4, h5⟩
    refine ⟨⟨⟨h1, h2⟩, h3, h4⟩, ?_⟩
    by_cases h : c = 0
    · exact .inr (h5 h)
    · exact .inl h

def poolOk (cs ps : List Int) : Bool := decide (1 ≤ cs.length ∧ cs.length ≤ 24 ∧ ps.length = cs.length ∧ ∀ j, j < cs.length → cellOk (cs.getD j 0) (ps.getD j 0) = true)

theorem poolOk_iff (cs ps : List Int) : poolOk cs ps = true ↔ (1 ≤ cs.length ∧ cs.length ≤ 24 ∧ ps.length = cs.length ∧ ∀ j, j < cs.length → cellOk (cs.getD j 0) (ps.getD j 0) = true) := by
  rw [poolOk, decide_eq_true_iff]

/-- The first place that is free; the length where none is. -/
def firstFree (cs : List Int) : Nat := cs.findIdx fun c => decide (c = 0)

theorem firstFree_at (cs : List Int) (h : firstFree cs < cs.length) : cs.getD (firstFree cs) 0 = 0 := by
  have := List.findIdx_getElem (p := fun c => decide (c = (0 : Int))) (xs := cs) (w := h)
  rw [List.getD_eq_getElem?_getD, List.getElem?_eq_getElem h]
  exact of_decide_eq_true this

/-- What l4Take leaves of the two rows, and what it tells. -/
def tookC (cs : List Int) : List Int := if firstFree cs < cs.length then cs.set (firstFree cs) 1 else cs

def tookP (cs ps : List Int) (v : Int) : List Int := if firstFree cs < cs.length then ps.set (firstFree cs) v else ps

def tookAt (cs : List Int) : Int := if firstFree cs < cs.length then (firstFree cs : Int) else -1

def newPool (n : Int) : (List Int × List Int) × Bool :=
  if 1 ≤ n ∧ n ≤ 24 then ((List.replicate n.toNat 0, List.replicate n.toNat 0), true) else (([], []), false)

/-- The count at a place; 0 where there is none. -/
def countAt (cs : List Int) (at_ : Int) : Int := if 0 ≤ at_ ∧ at_ < cs.length then cs.getD at_.toNat 0 else 0

def shared (cs ps : List Int) (at_ : Int) : (List Int × List Int) × Bool :=
  if poolOk cs ps = true then (if 1 ≤ countAt cs at_ ∧ countAt cs at_ < 400 then ((cs.set at_.toNat (countAt cs at_ + 1), ps), true) else ((cs, ps), false)) else (([], []), false)

def dropped (cs ps : List Int) (at_ : Int) : (List Int × List Int) × Bool :=
  if poolOk cs ps = true then (if 1 ≤ countAt cs at_ then ((cs.set at_.toNat (countAt cs at_ - 1), if countAt cs at_ = 1 then ps.set at_.toNat 0 else ps), true) else ((cs, ps), false)) else (([], []), false)

theorem getD_of (cs : List Int) (k : Nat) (h : k < cs.length) : cs.getD k 0 = cs[k] := by
  rw [List.getD_eq_getElem?_getD, List.getElem?_eq_getElem h]; rfl

theorem getD_set (cs : List Int) (k j : Nat) (x : Int) (h : k < cs.length) : (cs.set k x).getD j 0 = if k = j then x else cs.getD j 0 := by
  rw [List.getD_eq_getElem?_getD, List.getElem?_set, List.getD_eq_getElem?_getD]
  by_cases e : k = j
  · subst e; simp [h]
  · simp [e]

theorem countAt_of (cs : List Int) (k : Nat) (h : k < cs.length) : countAt cs k = cs.getD k 0 := by
  unfold countAt
  rw [if_pos (by omega), Int.toNat_natCast]

theorem newPool_len (n : Int) : (newPool n).1.1.length ≤ 24 ∧ (newPool n).1.2.length ≤ 24 := by
  unfold newPool
  split
  · next h => simp; omega
  · simp
end Go.Proofs.YtibhepekmihagaaGreatDoor

