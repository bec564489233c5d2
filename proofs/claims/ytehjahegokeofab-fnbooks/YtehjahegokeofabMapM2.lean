/-
  Chapter 5, in plain words: what is mapped is there, all else stays; below a size nothing is lost; there is one way to write it.
-/
import Derived.Test.YtehjahegokeofabMap4
namespace Go.Proofs.Ytehjahegokeofab
set_option linter.unusedVariables false

theorem fit_of (l : List Int) (h1 : l.length = 16) (h2 : ∀ j, j < 16 → -1 ≤ l.getD j 0 ∧ l.getD j 0 ≤ 23) : FitRuns (mapOf l) := fun r hr => by
  have := okFrom_mem _ 0 none (mapOk_from (mapOf_ok l h1 h2).1) (by omega) r hr
  refine ⟨⟨?_, ?_⟩, ⟨?_, ?_⟩, ⟨?_, ?_⟩⟩ <;> omega
theorem fit_nil : FitRuns [] := fun r hr => by cases hr
theorem pages_set_len (rs : List (Int × Int × Int)) (k : Nat) (p : Int) : ((pages rs).set k p).length = 16 := by rw [List.length_set, pages_length]
theorem fit_below (rs : List (Int × Int × Int)) (size : Int) : FitRuns (belowM rs size) := by
  unfold belowM
  by_cases h : mapOk rs = true
  · rw [if_pos h]; exact fit_of _ (cutAt_length _ _) (cutAt_range rs h size)
  · rw [if_neg h]; exact fit_nil
theorem fit_mapped (rs : List (Int × Int × Int)) (place page : Int) (hf : FitRuns rs) : FitRuns (mapped rs place page).1 := by
  unfold mapped
  by_cases h : mapOk rs = true
  · rw [if_pos h]
    by_cases h2 : (0 ≤ place ∧ place ≤ 15) ∧ -1 ≤ page ∧ page ≤ 23
    · rw [if_pos h2]; exact fit_of _ (pages_set_len _ _ _) (set_range rs h _ (by omega) page h2.2)
    · rw [if_neg h2]; exact hf
  · rw [if_neg h]; exact fit_nil
theorem mapped_few (rs : List (Int × Int × Int)) (place page : Int) (h : rs.length ≤ 17) : (mapped rs place page).1.length ≤ 17 := by
  unfold mapped
  by_cases h1 : mapOk rs = true
  · rw [if_pos h1]
    by_cases h2 : (0 ≤ place ∧ place ≤ 15) ∧ -1 ≤ page ∧ page ≤ 23
    · rw [if_pos h2]
      have := (mapOf_ok _ (pages_set_len rs place.toNat page) (set_range rs h1 _ (by omega) page h2.2)).1
      rw [mapOk, Bool.and_eq_true, decide_eq_true_iff] at this
      simp only
      omega
    · rw [if_neg h2]; exact h
  · rw [if_neg h1]; simp

/-- Below a size nothing is lost. -/
theorem pageOf_below (rs : List (Int × Int × Int)) (size : Int) (h : mapOk rs = true) (k : Nat) (hk : k < 16) : pageOf (belowM rs size) k = if size ≤ (k : Int) then -1 else pageOf rs k := by
  have hb : belowM rs size = mapOf (cutAt (pages rs) size) := by rw [belowM, if_pos h]
  obtain ⟨h1, h2⟩ := mapOf_ok (cutAt (pages rs) size) (cutAt_length _ _) (cutAt_range rs h size)
  rw [hb, pageOf, if_pos ⟨h1, by omega, by omega⟩, h2, Int.toNat_natCast, cutAt_get _ _ _ hk]
  by_cases e : size ≤ (k : Int)
  · rw [if_neg (by omega), if_pos e]
  · rw [if_pos (by omega), if_neg e, pageOf, if_pos ⟨h, by omega, by omega⟩, Int.toNat_natCast]
theorem mapped_true {rs : List (Int × Int × Int)} {place page : Int} (h : (mapped rs place page).2 = true) : mapOk rs = true ∧ (0 ≤ place ∧ place ≤ 15) ∧ (-1 ≤ page ∧ page ≤ 23) ∧ (mapped rs place page).1 = mapOf ((pages rs).set place.toNat page) := by
  unfold mapped at h ⊢
  by_cases h1 : mapOk rs = true
  · rw [if_pos h1] at h ⊢
    by_cases h2 : (0 ≤ place ∧ place ≤ 15) ∧ -1 ≤ page ∧ page ≤ 23
    · rw [if_pos h2]; exact ⟨h1, h2.1, h2.2, rfl⟩
    · rw [if_neg h2] at h; cases h
  · rw [if_neg h1] at h; cases h
theorem mapped_false {rs : List (Int × Int × Int)} {place page : Int} (h : (mapped rs place page).2 = false) : (mapOk rs = false ∧ (mapped rs place page).1 = []) ∨ (mapOk rs = true ∧ (mapped rs place page).1 = rs) := by
  unfold mapped at h ⊢
  cases h1 : mapOk rs
  · left; simp
  · right
    rw [h1] at h
    simp only [if_true] at h ⊢
    by_cases h2 : (0 ≤ place ∧ place ≤ 15) ∧ -1 ≤ page ∧ page ≤ 23
    · rw [if_pos h2] at h; cases h
    · rw [if_neg h2]; simp
/-- What is mapped is there, all else stays, and it is right. -/
theorem pageOf_mapped {rs : List (Int × Int × Int)} {place page : Int} (h : (mapped rs place page).2 = true) (k : Nat) (hk : k < 16) : pageOf (mapped rs place page).1 k = if (k : Int) = place then page else pageOf rs k := by
  obtain ⟨h1, h2, h3, h4⟩ := mapped_true h
  obtain ⟨p, rfl⟩ := Int.eq_ofNat_of_zero_le h2.1
  rw [Int.toNat_natCast] at h4
  obtain ⟨m1, m2⟩ := mapOf_ok _ (pages_set_len rs p page) (set_range rs h1 p (by omega) page h3)
  rw [h4, pageOf, if_pos ⟨m1, by omega, by omega⟩, m2, Int.toNat_natCast, getD_set16 _ _ _ _ (by rw [pages_length]; omega)]
  by_cases e : p = k
  · rw [if_pos e, if_pos (by omega)]
  · rw [if_neg e, if_neg (by omega), pageOf, if_pos ⟨h1, by omega, by omega⟩, Int.toNat_natCast]
theorem mapOk_mapped {rs : List (Int × Int × Int)} {place page : Int} (h : (mapped rs place page).2 = true) : mapOk (mapped rs place page).1 = true := by
  obtain ⟨h1, h2, h3, h4⟩ := mapped_true h
  rw [h4]
  exact (mapOf_ok _ (pages_set_len rs _ page) (set_range rs h1 _ (by omega) page h3)).1

/-- One place more, from the first on. -/
theorem up_step (rs : List (Int × Int × Int)) (h : mapOk rs = true) (k : Nat) (hk : k < 16) : mapped (mapOf (cutAt (pages rs) k)) k (pageOf rs k) = (mapOf (cutAt (pages rs) ((k + 1 : Nat) : Int)), true) := by
  obtain ⟨m1, m2⟩ := mapOf_ok (cutAt (pages rs) k) (cutAt_length _ _) (cutAt_range rs h k)
  have hp : pageOf rs k = (pages rs).getD k 0 := by rw [pageOf, if_pos ⟨h, by omega, by omega⟩, Int.toNat_natCast]
  have hr := pages_range rs h k hk
  rw [mapped, if_pos m1, if_pos ⟨⟨by omega, by omega⟩, by omega, by omega⟩, m2, Int.toNat_natCast, hp]
  congr 2
  refine ext16 _ _ (by rw [List.length_set, cutAt_length]) (cutAt_length _ _) fun j hj => ?_
  rw [getD_set16 _ _ _ _ (by rw [cutAt_length]; exact hk), cutAt_get _ _ _ hj, cutAt_get _ _ _ hj]
  by_cases e : k = j
  · rw [if_pos e, if_pos (by omega), e]
  · rw [if_neg e]
    by_cases q : (j : Int) < k
    · rw [if_pos q, if_pos (by omega)]
    · rw [if_neg q, if_neg (by omega)]
theorem up_start (rs : List (Int × Int × Int)) : mapOf (cutAt (pages rs) ((0 : Nat) : Int)) = [] := by
  have e : cutAt (pages rs) ((0 : Nat) : Int) = none16 := ext16 _ _ (cutAt_length _ _) rfl fun j hj => by rw [cutAt_get _ _ _ hj, if_neg (by omega), none16_at j hj]
  rw [e]; rfl
theorem up_end (rs : List (Int × Int × Int)) (h : mapOk rs = true) : mapOf (cutAt (pages rs) ((16 : Nat) : Int)) = rs := by
  have e : cutAt (pages rs) ((16 : Nat) : Int) = pages rs := ext16 _ _ (cutAt_length _ _) (pages_length _) fun j hj => by rw [cutAt_get _ _ _ hj, if_pos (by omega)]
  rw [e, mapOf_pages rs h]
theorem up_fit (rs : List (Int × Int × Int)) (h : mapOk rs = true) (k : Nat) : FitRuns (mapOf (cutAt (pages rs) k)) := fit_of _ (cutAt_length _ _) (cutAt_range rs h k)

theorem mid_range (rs : List (Int × Int × Int)) (h : mapOk rs = true) (s : Nat) : ∀ j, j < 16 → -1 ≤ (cutMid (pages rs) 0 s).getD j 0 ∧ (cutMid (pages rs) 0 s).getD j 0 ≤ 23 := fun j hj => by
  rw [cutMid_get _ _ _ _ hj]
  by_cases e : 0 ≤ j ∧ j < s
  · rw [if_pos e]; omega
  · rw [if_neg e]; exact pages_range rs h j hj
/-- One place more, from the last on. -/
theorem down_step (rs : List (Int × Int × Int)) (h : mapOk rs = true) (s : Nat) (hs : s < 16) : mapped (mapOf (cutMid (pages rs) 0 (s + 1))) s (pageOf rs s) = (mapOf (cutMid (pages rs) 0 s), true) := by
  obtain ⟨m1, m2⟩ := mapOf_ok (cutMid (pages rs) 0 (s + 1)) (cutMid_length _ _ _) (mid_range rs h (s + 1))
  have hp : pageOf rs s = (pages rs).getD s 0 := by rw [pageOf, if_pos ⟨h, by omega, by omega⟩, Int.toNat_natCast]
  have hr := pages_range rs h s hs
  rw [mapped, if_pos m1, if_pos ⟨⟨by omega, by omega⟩, by omega, by omega⟩, m2, Int.toNat_natCast, hp]
  congr 2
  refine ext16 _ _ (by rw [List.length_set, cutMid_length]) (cutMid_length _ _ _) fun j hj => ?_
  rw [getD_set16 _ _ _ _ (by rw [cutMid_length]; exact hs), cutMid_get _ _ _ _ hj, cutMid_get _ _ _ _ hj]
  by_cases e : s = j
  · rw [if_pos e, if_neg (by omega), e]
  · rw [if_neg e]
    by_cases q : j < s
    · rw [if_pos (by omega), if_pos (by omega)]
    · rw [if_neg (by omega), if_neg (by omega)]
theorem down_start (rs : List (Int × Int × Int)) : mapOf (cutMid (pages rs) 0 16) = [] := by
  have e : cutMid (pages rs) 0 16 = none16 := ext16 _ _ (cutMid_length _ _ _) rfl fun j hj => by rw [cutMid_get _ _ _ _ hj, if_pos (by omega), none16_at j hj]
  rw [e]; rfl
theorem down_end (rs : List (Int × Int × Int)) (h : mapOk rs = true) : mapOf (cutMid (pages rs) 0 0) = rs := by
  rw [cutMid_start _ 0 (pages_length rs), mapOf_pages rs h]
theorem down_fit (rs : List (Int × Int × Int)) (h : mapOk rs = true) (s : Nat) : FitRuns (mapOf (cutMid (pages rs) 0 s)) := fit_of _ (cutMid_length _ _ _) (mid_range rs h s)

/-- How many of the first k places have a page. -/
def hadBefore (rs : List (Int × Int × Int)) (k : Nat) : Nat := (((pages rs).take k).filter (fun p => decide (0 ≤ p))).length
theorem had_start (rs : List (Int × Int × Int)) : hadBefore rs 0 = 0 := by simp [hadBefore]
theorem had_end (rs : List (Int × Int × Int)) (h : mapOk rs = true) : hadBefore rs 16 = (pagesOf rs).length := by
  rw [hadBefore, pagesOf, if_pos h, List.take_of_length_le (by rw [pages_length]; exact Nat.le_refl _)]
theorem had_step (rs : List (Int × Int × Int)) (h : mapOk rs = true) (k : Nat) (hk : k < 16) : (pageOf rs k < 0 → hadBefore rs (k + 1) = hadBefore rs k) ∧ (0 ≤ pageOf rs k → hadBefore rs (k + 1) = hadBefore rs k + 1 ∧ (pagesOf rs)[hadBefore rs k]? = some (pageOf rs k)) := by
  have hl := pages_length rs
  have hp : pageOf rs k = (pages rs)[k]'(by omega) := by
    rw [pageOf, if_pos ⟨h, by omega, by omega⟩, Int.toNat_natCast, List.getD_eq_getElem?_getD, List.getElem?_eq_getElem (by omega)]
    rfl
  have hft := filter_take (pages rs) k (by omega)
  rw [← hp] at hft
  refine ⟨fun hn => ?_, fun hn => ?_⟩
  · rw [hadBefore, hft, if_neg (by omega), List.append_nil]; rfl
  · rw [if_pos hn] at hft
    refine ⟨by rw [hadBefore, hft, List.length_append]; rfl, ?_⟩
    have hsp : (pages rs).filter (fun p => decide (0 ≤ p)) = ((pages rs).take k).filter (fun p => decide (0 ≤ p)) ++ [pageOf rs k] ++ ((pages rs).drop (k + 1)).filter (fun p => decide (0 ≤ p)) := by
      rw [← hft, ← List.filter_append, List.take_append_drop]
    rw [pagesOf, if_pos h, hsp, List.append_assoc, hadBefore, List.getElem?_append_right (Nat.le_refl _)]
    simp
theorem had_le (rs : List (Int × Int × Int)) (k : Nat) : hadBefore rs k ≤ 16 := by
  have h1 : (((pages rs).take k).filter (fun p => decide (0 ≤ p))).length ≤ ((pages rs).take k).length := List.length_filter_le _ _
  have h2 := pages_length rs
  rw [List.length_take] at h1
  unfold hadBefore
  omega

end Go.Proofs.Ytehjahegokeofab
