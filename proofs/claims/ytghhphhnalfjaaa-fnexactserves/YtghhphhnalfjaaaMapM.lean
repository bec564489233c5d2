/-
  Chapter 5, in plain words: what a map is, the page of each place, the map of pages; that both ways lead back.
-/
import Derived.WalkKit
namespace Go.Proofs.Ytghhphhnalfjaaa
set_option linter.unusedVariables false
set_option maxRecDepth 100000

/-- A number of 64 bits; runs of such. -/
def I64 (x : Int) : Prop := -9223372036854775808 ≤ x ∧ x ≤ 9223372036854775807
def FitRuns (rs : List (Int × Int × Int)) : Prop := ∀ r ∈ rs, I64 r.1 ∧ I64 r.2.1 ∧ I64 r.2.2

/-- Is the run right, behind places that end at e, behind a run that is pv? -/
def runOk (e : Int) (pv : Option (Int × Int × Int)) (r : Int × Int × Int) : Bool :=
  decide (e ≤ r.1) && (decide (1 ≤ r.2.1) && decide (r.2.1 ≤ 16)) && decide (r.1 ≤ 16 - r.2.1) && (decide (0 ≤ r.2.2) && decide (r.2.2 ≤ 24 - r.2.1)) &&
    !(match pv with | none => false | some q => decide (r.1 = e) && decide (r.2.2 = q.2.2 + q.2.1))
def okFrom : Int → Option (Int × Int × Int) → List (Int × Int × Int) → Bool
  | _, _, [] => true
  | e, pv, r :: rs => runOk e pv r && okFrom (r.1 + r.2.1) (some r) rs
def mapOk (rs : List (Int × Int × Int)) : Bool := okFrom 0 none rs && decide (rs.length ≤ 16)

theorem runOk_iff (e : Int) (pv : Option (Int × Int × Int)) (f c p : Int) : runOk e pv (f, c, p) = true ↔ (e ≤ f ∧ 1 ≤ c ∧ c ≤ 16 ∧ f ≤ 16 - c ∧ 0 ≤ p ∧ p ≤ 24 - c ∧ ∀ q, pv = some q → ¬ (f = e ∧ p = q.2.2 + q.2.1)) := by
  cases pv with
  | none => simp [runOk]; omega
  | some q =>
    simp only [runOk, Bool.and_eq_true, decide_eq_true_eq, Bool.not_eq_true', Bool.and_eq_false_iff, decide_eq_false_iff_not, Option.some.injEq]
    constructor
    · rintro ⟨⟨⟨⟨h1, h2⟩, h3⟩, h4⟩, h5⟩
      refine ⟨h1, h2.1, h2.2, h3, h4.1, h4.2, ?_⟩
      rintro _ rfl ⟨h6, h7⟩
      rcases h5 with h5 | h5
      · exact h5 h6
      · exact h5 h7
    · rintro ⟨h1, h2, h3, h4, h5, h6, h7⟩
      refine ⟨⟨⟨⟨h1, h2, h3⟩, h4⟩, h5, h6⟩, ?_⟩
      by_cases h8 : f = e
      · exact .inr (fun h9 => h7 q rfl ⟨h8, h9⟩)
      · exact .inl h8

/-- n pages one behind the other are laid from place f on. -/
def lay (l : List Int) (f : Nat) (p : Int) : Nat → List Int
  | 0 => l
  | n + 1 => (lay l f p n).set (f + n) (p + n)
def layRun (l : List Int) (r : Int × Int × Int) : List Int := lay l r.1.toNat r.2.2 r.2.1.toNat
def none16 : List Int := List.replicate 16 (-1)
/-- For each place its page; -1: none. -/
def pages (rs : List (Int × Int × Int)) : List Int := rs.foldl layRun none16

theorem lay_length (l : List Int) (f : Nat) (p : Int) (n : Nat) : (lay l f p n).length = l.length := by
  induction n with
  | zero => rfl
  | succ n ih => rw [lay, List.length_set, ih]
theorem layRun_length (l : List Int) (r : Int × Int × Int) : (layRun l r).length = l.length := lay_length _ _ _ _
theorem foldl_length (rs : List (Int × Int × Int)) (l : List Int) : (rs.foldl layRun l).length = l.length := by
  induction rs generalizing l with
  | nil => rfl
  | cons r rs ih => rw [List.foldl_cons, ih, layRun_length]
theorem pages_length (rs : List (Int × Int × Int)) : (pages rs).length = 16 := by rw [pages, foldl_length]; rfl
theorem lay_get (l : List Int) (f : Nat) (p : Int) (n j : Nat) (h : f + n ≤ l.length) : (lay l f p n).getD j 0 = if f ≤ j ∧ j < f + n then p + ((j - f : Nat) : Int) else l.getD j 0 := by
  induction n with
  | zero => rw [lay, if_neg (by omega)]
  | succ n ih =>
    have hl := lay_length l f p n
    rw [lay, List.getD_eq_getElem?_getD, List.getElem?_set, hl]
    by_cases e : f + n = j
    · rw [if_pos e, if_pos (by omega), if_pos (by omega)]
      show p + (n : Int) = _
      rw [show j - f = n by omega]
    · rw [if_neg e, ← List.getD_eq_getElem?_getD, ih (by omega)]
      by_cases q : f ≤ j ∧ j < f + n
      · rw [if_pos q, if_pos (by omega)]
      · rw [if_neg q, if_neg (by omega)]

/-- One place more: it is skipped, it makes the last run longer, or it begins a run. -/
def grow (k : Nat) (v : Int) (acc : List (Int × Int × Int)) : List (Int × Int × Int) :=
  if v < 0 then acc else
  match acc.getLast? with
  | none => acc ++ [((k : Int), 1, v)]
  | some r => if r.1 + r.2.1 = k ∧ r.2.2 + r.2.1 = v then acc.dropLast ++ [(r.1, r.2.1 + 1, r.2.2)] else acc ++ [((k : Int), 1, v)]
/-- The map of the first n places of l. -/
def upto (l : List Int) : Nat → List (Int × Int × Int)
  | 0 => []
  | n + 1 => grow n (l.getD n 0) (upto l n)
def mapOf (l : List Int) : List (Int × Int × Int) := upto l l.length

/-- Right at its end: where it ends, and its last run. -/
theorem okFrom_append (e : Int) (pv : Option (Int × Int × Int)) (rs : List (Int × Int × Int)) (r : Int × Int × Int) :
    okFrom e pv (rs ++ [r]) = (okFrom e pv rs && runOk (match rs.getLast? with | none => e | some q => q.1 + q.2.1) (match rs.getLast? with | none => pv | some q => some q) r) := by
  induction rs generalizing e pv with
  | nil => simp [okFrom]
  | cons q rs ih =>
    rw [List.cons_append, okFrom, ih, okFrom, Bool.and_assoc]
    cases rs with
    | nil => simp
    | cons s t =>
      rw [List.getLast?_cons_cons]
      cases h : (s :: t).getLast? with
      | none => simp at h
      | some z => rfl

/-- What holds of the map of the first n places: it is right, ends at n at most, and shows them. -/
structure UptoOk (l : List Int) (n : Nat) (rs : List (Int × Int × Int)) : Prop where
  ok : okFrom 0 none rs = true
  endAt : ∀ r, rs.getLast? = some r → r.1 + r.2.1 ≤ n ∧ 0 ≤ r.1 ∧ 1 ≤ r.2.1 ∧ 0 ≤ r.2.2
  shows : ∀ j, (pages rs).getD j 0 = if j < n then l.getD j 0 else none16.getD j 0
  few : rs.length ≤ n

theorem pages_snoc (rs : List (Int × Int × Int)) (r : Int × Int × Int) : pages (rs ++ [r]) = layRun (pages rs) r := by rw [pages, List.foldl_append]; rfl
theorem getD_wr1 (l : List Int) (k : Nat) (v : Int) (j : Nat) (h : k < l.length) : (layRun l ((k : Int), 1, v)).getD j 0 = if j = k then v else l.getD j 0 := by
  show (lay l (k : Int).toNat v (1 : Int).toNat).getD j 0 = _
  rw [Int.toNat_natCast, show (1 : Int).toNat = 1 from rfl, lay_get l k v 1 j (by omega)]
  by_cases e : j = k
  · rw [if_pos (by omega), if_pos e, show j - k = 0 by omega]; simp
  · rw [if_neg (by omega), if_neg e]

theorem upto_ok (l : List Int) (hl : l.length = 16) (hv : ∀ j, j < 16 → -1 ≤ l.getD j 0 ∧ l.getD j 0 ≤ 23) (n : Nat) (hn : n ≤ 16) : UptoOk l n (upto l n) := by
  induction n with
  | zero => exact ⟨rfl, fun r h => by simp [upto] at h, fun j => by rw [if_neg (by omega)]; rfl, Nat.le_refl _⟩
  | succ n ih =>
    have h := ih (by omega)
    have hvn := hv n (by omega)
    rw [upto]
    generalize upto l n = rs at h
    have hpl := pages_length rs
    have hat : (pages rs).getD n 0 = -1 := by
      rw [h.shows n, if_neg (by omega)]
      have h16 : n = 0 ∨ n = 1 ∨ n = 2 ∨ n = 3 ∨ n = 4 ∨ n = 5 ∨ n = 6 ∨ n = 7 ∨ n = 8 ∨ n = 9 ∨ n = 10 ∨ n = 11 ∨ n = 12 ∨ n = 13 ∨ n = 14 ∨ n = 15 := by omega
      rcases h16 with rfl | rfl | rfl | rfl | rfl | rfl | rfl | rfl | rfl | rfl | rfl | rfl | rfl | rfl | rfl | rfl <;> rfl
    have shows' : ∀ rs' : List (Int × Int × Int), (∀ j, (pages rs').getD j 0 = if j = n then l.getD n 0 else (pages rs).getD j 0) → ∀ j, (pages rs').getD j 0 = if j < n + 1 then l.getD j 0 else none16.getD j 0 := fun rs' hj j => by
      rw [hj j, h.shows j]
      by_cases e : j = n
      · rw [if_pos e, if_pos (by omega), e]
      · rw [if_neg e]
        by_cases q : j < n
        · rw [if_pos q, if_pos (by omega)]
        · rw [if_neg q, if_neg (by omega)]
    unfold grow
    by_cases hneg : l.getD n 0 < 0
    · rw [if_pos hneg]
      refine ⟨h.ok, fun r hr => by have := h.endAt r hr; omega, shows' rs (fun j => ?_), by have := h.few; omega⟩
      by_cases e : j = n
      · rw [if_pos e, e, hat]; omega
      · rw [if_neg e]
    · rw [if_neg hneg]
      have new : (∀ r, rs.getLast? = some r → ¬ (r.1 + r.2.1 = (n : Int) ∧ r.2.2 + r.2.1 = l.getD n 0)) → UptoOk l (n + 1) (rs ++ [((n : Int), 1, l.getD n 0)]) := fun hno => by
        refine ⟨?_, fun r hr => ?_, shows' _ (fun j => ?_), by have := h.few; simp; omega⟩
        · rw [okFrom_append, h.ok, Bool.true_and, runOk_iff]
          cases hg : rs.getLast? with
          | none => exact ⟨by simp, by omega, by omega, by omega, by omega, by omega, fun q hq => by cases hq⟩
          | some r =>
            have he := h.endAt r hg
            refine ⟨by simp; omega, by omega, by omega, by omega, by omega, by omega, fun q hq hh => ?_⟩
            simp only [Option.some.injEq] at hq
            subst hq
            exact hno r hg ⟨hh.1.symm, hh.2.symm⟩
        · rw [List.getLast?_concat, Option.some.injEq] at hr
          subst hr
          simp only
          omega
        · rw [pages_snoc, getD_wr1 _ _ _ _ (by omega)]
      cases hg : rs.getLast? with
      | none => exact new (fun r hr => by rw [hg] at hr; cases hr)
      | some r =>
        simp only
        by_cases hc : r.1 + r.2.1 = (n : Int) ∧ r.2.2 + r.2.1 = l.getD n 0
        · rw [if_pos hc]
          have he := h.endAt r hg
          obtain ⟨pre, rfl⟩ : ∃ pre, rs = pre ++ [r] := ⟨rs.dropLast, by
            have hne : rs ≠ [] := fun e => by rw [e] at hg; cases hg
            rw [List.getLast?_eq_some_getLast hne] at hg
            have := List.dropLast_concat_getLast hne
            simp only [Option.some.injEq] at hg
            rw [hg] at this
            exact this.symm⟩
          rw [List.dropLast_concat]
          obtain ⟨f, c, p⟩ := r
          simp only at he hc ⊢
          have hok := h.ok
          rw [okFrom_append, Bool.and_eq_true, runOk_iff] at hok
          refine ⟨?_, fun s hs => ?_, shows' _ (fun j => ?_), by have := h.few; simp at this ⊢; omega⟩
          · rw [okFrom_append, Bool.and_eq_true, runOk_iff]
            exact ⟨hok.1, hok.2.1, by omega, by omega, by omega, by omega, by omega, hok.2.2.2.2.2.2.2⟩
          · rw [List.getLast?_concat, Option.some.injEq] at hs
            subst hs
            simp only
            omega
          · rw [pages_snoc, pages_snoc]
            have hc1 : (c + 1).toNat = c.toNat + 1 := by omega
            have hpl2 := pages_length pre
            show (lay (pages pre) f.toNat p (c + 1).toNat).getD j 0 = if j = n then _ else (lay (pages pre) f.toNat p c.toNat).getD j 0
            rw [hc1, lay_get _ _ _ _ _ (by omega), lay_get _ _ _ _ _ (by omega)]
            by_cases e : j = n
            · rw [if_pos e, if_pos (by omega)]
              omega
            · rw [if_neg e]
              by_cases q : f.toNat ≤ j ∧ j < f.toNat + c.toNat
              · rw [if_pos q, if_pos (by omega)]
              · rw [if_neg q, if_neg (by omega)]
        · rw [if_neg hc]
          exact new (fun s hs => by rw [hg] at hs; simp only [Option.some.injEq] at hs; subst hs; exact hc)

theorem ext16 (a b : List Int) (ha : a.length = 16) (hb : b.length = 16) (h : ∀ j, j < 16 → a.getD j 0 = b.getD j 0) : a = b := by
  apply List.ext_getElem (by omega)
  intro j h1 h2
  have := h j (by omega)
  rw [List.getD_eq_getElem?_getD, List.getD_eq_getElem?_getD, List.getElem?_eq_getElem h1, List.getElem?_eq_getElem h2] at this
  exact this

/-- The map of pages is right, and shows them. -/
theorem mapOf_ok (l : List Int) (hl : l.length = 16) (hv : ∀ j, j < 16 → -1 ≤ l.getD j 0 ∧ l.getD j 0 ≤ 23) : mapOk (mapOf l) = true ∧ pages (mapOf l) = l := by
  have h := upto_ok l hl hv 16 (Nat.le_refl _)
  rw [mapOf, hl]
  refine ⟨?_, ext16 _ _ (pages_length _) hl fun j hj => by rw [h.shows j, if_pos hj]⟩
  rw [mapOk, h.ok, Bool.true_and, decide_eq_true_iff]
  exact h.few

/-- Each page that a right map shows is one, or there is none. -/
theorem pages_fold_range (rs : List (Int × Int × Int)) (e : Int) (pv : Option (Int × Int × Int)) (h : okFrom e pv rs = true) (l : List Int) (hl : l.length = 16) (hv : ∀ j, j < 16 → -1 ≤ l.getD j 0 ∧ l.getD j 0 ≤ 23) (he : 0 ≤ e) : ∀ j, j < 16 → -1 ≤ (rs.foldl layRun l).getD j 0 ∧ (rs.foldl layRun l).getD j 0 ≤ 23 := by
  induction rs generalizing e pv l with
  | nil => exact hv
  | cons r rs ih =>
    obtain ⟨f, c, p⟩ := r
    rw [okFrom, Bool.and_eq_true, runOk_iff] at h
    rw [List.foldl_cons]
    refine ih _ _ h.2 _ (by rw [layRun_length]; exact hl) (fun j hj => ?_) (by simp only; omega)
    show -1 ≤ (lay l f.toNat p c.toNat).getD j 0 ∧ (lay l f.toNat p c.toNat).getD j 0 ≤ 23
    rw [lay_get _ _ _ _ _ (by omega)]
    by_cases q : f.toNat ≤ j ∧ j < f.toNat + c.toNat
    · rw [if_pos q]; omega
    · rw [if_neg q]; exact hv j hj
theorem none16_at (j : Nat) (hj : j < 16) : none16.getD j 0 = -1 := by
  have h16 : j = 0 ∨ j = 1 ∨ j = 2 ∨ j = 3 ∨ j = 4 ∨ j = 5 ∨ j = 6 ∨ j = 7 ∨ j = 8 ∨ j = 9 ∨ j = 10 ∨ j = 11 ∨ j = 12 ∨ j = 13 ∨ j = 14 ∨ j = 15 := by omega
  rcases h16 with rfl | rfl | rfl | rfl | rfl | rfl | rfl | rfl | rfl | rfl | rfl | rfl | rfl | rfl | rfl | rfl <;> rfl
theorem mapOk_from {rs : List (Int × Int × Int)} (h : mapOk rs = true) : okFrom 0 none rs = true := by rw [mapOk, Bool.and_eq_true] at h; exact h.1
theorem pages_range (rs : List (Int × Int × Int)) (h : mapOk rs = true) (j : Nat) (hj : j < 16) : -1 ≤ (pages rs).getD j 0 ∧ (pages rs).getD j 0 ≤ 23 :=
  pages_fold_range rs 0 none (mapOk_from h) none16 rfl (fun j hj => by rw [none16_at j hj]; omega) (by omega) j hj

/-- Places that have none are skipped. -/
theorem upto_skip (l : List Int) (k n : Nat) (h : ∀ j, k ≤ j → j < k + n → l.getD j 0 < 0) : upto l (k + n) = upto l k := by
  induction n with
  | zero => rfl
  | succ n ih =>
    rw [← Nat.add_assoc, upto, ih (fun j h1 h2 => h j h1 (by omega))]
    unfold grow
    rw [if_pos (h (k + n) (by omega) (by omega))]
/-- Places whose pages go on make the last run longer. -/
theorem upto_grow (l : List Int) (k n : Nat) (pre : List (Int × Int × Int)) (f c p : Int) (hp : 0 ≤ p) (hc : 0 ≤ c) (hk : upto l k = pre ++ [(f, c, p)]) (he : f + c = k) (h : ∀ i, i < n → l.getD (k + i) 0 = p + c + i) : upto l (k + n) = pre ++ [(f, c + n, p)] := by
  induction n with
  | zero => simpa using hk
  | succ n ih =>
    rw [← Nat.add_assoc, upto, ih (fun i hi => h i (by omega)), h n (by omega)]
    unfold grow
    rw [if_neg (by omega), List.getLast?_concat]
    simp only
    rw [if_pos ⟨by omega, by omega⟩, List.dropLast_concat, show c + (n : Int) + 1 = c + ((n + 1 : Nat) : Int) by omega]
/-- One behind the other the runs come again. -/
theorem upto_runs (l : List Int) (rs : List (Int × Int × Int)) (e : Nat) (acc : List (Int × Int × Int)) (hacc : upto l e = acc) (h : okFrom (e : Int) acc.getLast? rs = true) (hlast : ∀ r, acc.getLast? = some r → r.1 + r.2.1 = (e : Int)) (he : e ≤ 16)
    (hin : ∀ r ∈ rs, ∀ i : Nat, (i : Int) < r.2.1 → l.getD (r.1.toNat + i) 0 = r.2.2 + i) (hout : ∀ j, e ≤ j → j < 16 → (∀ r ∈ rs, ¬ (r.1 ≤ (j : Int) ∧ (j : Int) < r.1 + r.2.1)) → l.getD j 0 < 0) : upto l 16 = acc ++ rs := by
  induction rs generalizing e acc with
  | nil =>
    have := upto_skip l e (16 - e) (fun j h1 h2 => hout j h1 (by omega) (fun r hr => by cases hr))
    rw [show e + (16 - e) = 16 by omega] at this
    rw [this, hacc, List.append_nil]
  | cons r rs ih =>
    obtain ⟨f, c, p⟩ := r
    rw [okFrom, Bool.and_eq_true, runOk_iff] at h
    obtain ⟨⟨h1, h2, h3, h4, h5, h6, h7⟩, h8⟩ := h
    -- the later runs lie behind this one
    have hlater : ∀ (rs : List (Int × Int × Int)) (e : Int) (pv : Option (Int × Int × Int)), okFrom e pv rs = true → ∀ s ∈ rs, e ≤ s.1 := by
      intro rs
      induction rs with
      | nil => intro e pv _ s hs; cases hs
      | cons q qs ih2 =>
        intro e pv hq s hs
        obtain ⟨qf, qc, qp⟩ := q
        rw [okFrom, Bool.and_eq_true, runOk_iff] at hq
        rcases List.mem_cons.1 hs with rfl | hs
        · exact hq.1.1
        · have := ih2 _ _ hq.2 s hs
          simp only at this
          omega
    have hl2 := hlater rs _ _ h8
    simp only at h8 hl2
    obtain ⟨F, rfl⟩ := Int.eq_ofNat_of_zero_le (show 0 ≤ f by omega)
    obtain ⟨C, rfl⟩ := Int.eq_ofNat_of_zero_le (show 0 ≤ c by omega)
    have hF : e ≤ F := by omega
    -- what lies ahead of it is skipped
    have s1 : upto l F = acc := by
      have := upto_skip l e (F - e) (fun j q1 q2 => hout j q1 (by omega) (fun r hr => by
        rcases List.mem_cons.1 hr with rfl | hr
        · simp only; omega
        · have := hl2 r hr; omega))
      rw [show e + (F - e) = F by omega] at this
      rw [this, hacc]
    -- it begins
    have s2 : upto l (F + 1) = acc ++ [((F : Int), 1, p)] := by
      have hv : l.getD F 0 = p := by
        have := hin ((F : Int), (C : Int), p) (List.mem_cons_self ..) 0 (by simp only; omega)
        simpa using this
      rw [upto, s1, hv]
      unfold grow
      rw [if_neg (by omega)]
      cases hg : acc.getLast? with
      | none => rfl
      | some q =>
        simp only
        rw [if_neg]
        rintro ⟨q1, q2⟩
        have hq := hlast q hg
        exact h7 q hg ⟨by omega, by omega⟩
    -- it goes on
    have s3 := upto_grow l (F + 1) (C - 1) acc (F : Int) 1 p h5 (by omega) s2 (by omega) (fun i hi => by
      have := hin ((F : Int), (C : Int), p) (List.mem_cons_self ..) (1 + i) (by simp only; omega)
      simp only [Int.toNat_natCast] at this
      rw [Nat.add_assoc, this]
      omega)
    rw [show F + 1 + (C - 1) = F + C by omega, show (1 : Int) + ((C - 1 : Nat) : Int) = (C : Int) by omega] at s3
    have := ih (F + C) (acc ++ [((F : Int), (C : Int), p)]) s3 (by rw [List.getLast?_concat]; rw [show ((F + C : Nat) : Int) = (F : Int) + (C : Int) by omega]; exact h8) (fun r hr => by
      rw [List.getLast?_concat, Option.some.injEq] at hr
      subst hr
      simp only
      omega) (by omega) (fun r hr => hin r (List.mem_cons_of_mem _ hr)) (fun j q1 q2 q3 => hout j (by omega) q2 (fun r hr => by
        rcases List.mem_cons.1 hr with rfl | hr
        · simp only; omega
        · exact q3 r hr))
    rw [this, List.append_assoc]
    rfl

/-- What a right map shows: in each run its pages, elsewhere none. -/
theorem fold_at (rs : List (Int × Int × Int)) (e : Int) (pv : Option (Int × Int × Int)) (h : okFrom e pv rs = true) (he : 0 ≤ e) (l : List Int) (hl : l.length = 16) :
    (∀ j : Nat, (∀ r ∈ rs, ¬ (r.1 ≤ (j : Int) ∧ (j : Int) < r.1 + r.2.1)) → (rs.foldl layRun l).getD j 0 = l.getD j 0) ∧ ∀ r ∈ rs, ∀ i : Nat, (i : Int) < r.2.1 → (rs.foldl layRun l).getD (r.1.toNat + i) 0 = r.2.2 + i := by
  induction rs generalizing e pv l with
  | nil => exact ⟨fun j _ => rfl, fun r hr => by cases hr⟩
  | cons r rs ih =>
    obtain ⟨f, c, p⟩ := r
    rw [okFrom, Bool.and_eq_true, runOk_iff] at h
    obtain ⟨⟨h1, h2, h3, h4, h5, h6, h7⟩, h8⟩ := h
    have hlater : ∀ (rs : List (Int × Int × Int)) (e : Int) (pv : Option (Int × Int × Int)), okFrom e pv rs = true → ∀ s ∈ rs, e ≤ s.1 := by
      intro rs
      induction rs with
      | nil => intro e pv _ s hs; cases hs
      | cons q qs ih2 =>
        intro e pv hq s hs
        obtain ⟨qf, qc, qp⟩ := q
        rw [okFrom, Bool.and_eq_true, runOk_iff] at hq
        rcases List.mem_cons.1 hs with rfl | hs
        · exact hq.1.1
        · have := ih2 _ _ hq.2 s hs
          simp only at this
          omega
    have hl2 := hlater rs _ _ h8
    simp only at hl2
    obtain ⟨i1, i2⟩ := ih _ _ h8 (by simp only; omega) (layRun l (f, c, p)) (by rw [layRun_length]; exact hl)
    rw [List.foldl_cons]
    have hw : ∀ j : Nat, (layRun l (f, c, p)).getD j 0 = if f.toNat ≤ j ∧ j < f.toNat + c.toNat then p + ((j - f.toNat : Nat) : Int) else l.getD j 0 := fun j => lay_get l f.toNat p c.toNat j (by omega)
    refine ⟨fun j hj => ?_, fun s hs i hi => ?_⟩
    · rw [i1 j (fun r hr => hj r (List.mem_cons_of_mem _ hr)), hw j, if_neg]
      have := hj (f, c, p) (List.mem_cons_self ..)
      simp only at this
      omega
    · rcases List.mem_cons.1 hs with rfl | hs
      · simp only at hi ⊢
        rw [i1 _ (fun r hr => by have := hl2 r hr; omega), hw, if_pos (by omega)]
        congr 1
        omega
      · exact i2 s hs i hi

/-- Of a right map's pages there is that map. -/
theorem mapOf_pages (rs : List (Int × Int × Int)) (h : mapOk rs = true) : mapOf (pages rs) = rs := by
  obtain ⟨h1, h2⟩ := fold_at rs 0 none (mapOk_from h) (by omega) none16 rfl
  rw [mapOf, pages_length]
  have := upto_runs (pages rs) rs 0 [] rfl (mapOk_from h) (fun r hr => by cases hr) (by omega) h2 (fun j _ hj hno => by
    show (rs.foldl layRun none16).getD j 0 < 0
    rw [h1 j hno, none16_at j hj]
    omega)
  rwa [List.nil_append] at this

end Go.Proofs.Ytghhphhnalfjaaa
