/-
  Chapter 4, in plain words: what its laws say of new, taken, shared and dropped pages.
-/
import Derived.Test.YtmejggnjmclefaaPoolM
namespace Go.Proofs.Ytmejggnjmclefaa

theorem zeros_replicate (n : Nat) : zeros (List.replicate n (0 : Int)) = n := by
  rw [zeros, List.countP_eq_length.2]
  · simp
  · intro a ha; simp at ha; simp [ha.2]
theorem newPool_spare (n : Int) (zc zp : List Int) (h : newPool n = ((zc, zp), true)) : spare zc zp = n := by
  unfold newPool at h
  split at h
  · next q =>
    simp only [Prod.mk.injEq, and_true] at h
    obtain ⟨rfl, rfl⟩ := h
    have hk : poolOk (List.replicate n.toNat 0) (List.replicate n.toNat 0) = true := (poolOk_iff _ _).2 ⟨by simp; omega, by simp; omega, by simp, fun j hj => by
      have hj' : j < n.toNat := by simpa using hj
      have e : (List.replicate n.toNat (0 : Int)).getD j 0 = 0 := by simp [List.getD_eq_getElem?_getD, hj']
      rw [e]; rfl⟩
    rw [spare, if_pos hk, zeros_replicate]
    omega
  · simp at h
/-- What TakenPage tells: nothing where it is no pool; as it was where none is free or the value is none; else the first that is free. -/
theorem taken_none (cs ps : List Int) (v : Int) (h : poolOk cs ps = true) (hf : ¬ (firstFree cs < cs.length ∧ 0 ≤ v ∧ v ≤ 999)) : takenPage cs ps v = ((cs, ps), -1) := by rw [takenPage, if_pos h, if_neg hf]
theorem taken_some (cs ps : List Int) (v : Int) (h : poolOk cs ps = true) (hf : firstFree cs < cs.length ∧ 0 ≤ v ∧ v ≤ 999) : takenPage cs ps v = ((cs.set (firstFree cs) 1, ps.set (firstFree cs) v), (firstFree cs : Int)) := by rw [takenPage, if_pos h, if_pos hf]
theorem taken_spare (cs ps : List Int) (v : Int) (h : poolOk cs ps = true) (hf : firstFree cs < cs.length) (hk : poolOk (cs.set (firstFree cs) 1) (ps.set (firstFree cs) v) = true) : spare (cs.set (firstFree cs) 1) (ps.set (firstFree cs) v) = spare cs ps - 1 ∧ 1 ≤ spare cs ps ∧ spare cs ps ≤ 24 := by
  rw [spare, if_pos hk, spare, if_pos h]
  have := zeros_set cs (firstFree cs) 1 hf
  rw [if_pos (firstFree_at cs hf), if_neg (by omega)] at this
  have h2 := zeros_pos cs hf
  have h3 : zeros cs ≤ cs.length := List.countP_le_length
  have h4 := poolOk_len h
  omega

theorem shared_yes (cs ps xc xp : List Int) (at_ : Int) (h : shared cs ps at_ = ((xc, xp), true)) :
    poolOk cs ps = true ∧ (∃ a : Nat, at_ = a ∧ a < cs.length ∧ a < ps.length) ∧ xp = ps ∧ xc.length = cs.length ∧ poolOk xc xp = true ∧ dropped xc xp at_ = ((cs, ps), true) ∧ spare xc xp = spare cs ps := by
  unfold shared at h
  split at h
  · next hk =>
    split at h
    · next hc =>
      simp only [Prod.mk.injEq, and_true] at h
      obtain ⟨rfl, rfl⟩ := h
      obtain ⟨h1, h2, h3⟩ := shared_dropped cs ps at_ hk hc
      obtain ⟨a, ha, hl, _⟩ := countAt_pos cs at_ hc.1
      have hp := ((poolOk_iff cs ps).1 hk).2.2.1
      exact ⟨hk, ⟨a, ha, hl, by omega⟩, rfl, by simp, h1, h2, by rw [spare, if_pos h1, spare, if_pos hk, h3]⟩
    · simp at h
  · simp at h
theorem shared_no (cs ps xc xp : List Int) (at_ : Int) (h : shared cs ps at_ = ((xc, xp), false)) : poolOk cs ps = false ∨ (xc = cs ∧ xp = ps) := by
  unfold shared at h
  split at h
  · split at h
    · simp at h
    · simp only [Prod.mk.injEq, and_true] at h
      exact .inr ⟨h.1.symm, h.2.symm⟩
  · next hk => exact .inl (by simpa using hk)
theorem dropped_no (cs ps xc xp : List Int) (at_ : Int) (h : dropped cs ps at_ = ((xc, xp), false)) : poolOk cs ps = false ∨ (xc = cs ∧ xp = ps) := by
  unfold dropped at h
  split at h
  · split at h
    · simp at h
    · simp only [Prod.mk.injEq, and_true] at h
      exact .inr ⟨h.1.symm, h.2.symm⟩
  · next hk => exact .inl (by simpa using hk)
theorem dropped_yes (cs ps yc yp : List Int) (at_ : Int) (h : dropped cs ps at_ = ((yc, yp), true)) :
    poolOk cs ps = true ∧ poolOk yc yp = true ∧ ∃ a : Nat, at_ = a ∧ a < cs.length ∧ a < ps.length ∧ a < yc.length ∧ a < yp.length ∧ (1 ≤ cs.getD a 0 ∧ cs.getD a 0 ≤ 400) ∧ yc.getD a 0 = cs.getD a 0 - 1 ∧ yp.getD a 0 = if cs.getD a 0 = 1 then 0 else ps.getD a 0 := by
  unfold dropped at h
  split at h
  · next hk =>
    split at h
    · next hc =>
      obtain ⟨a, rfl, hl, he⟩ := countAt_pos cs at_ hc
      have h4 := (poolOk_iff cs ps).1 hk
      have hck := (cellOk_iff _ _).1 (h4.2.2.2 a hl)
      rw [he, Int.toNat_natCast] at h
      rw [he] at hc
      simp only [Prod.mk.injEq, and_true] at h
      have hok := dropped_ok cs ps a hk hl hc
      rw [h.1, h.2] at hok
      have e1 : yc.length = cs.length := by rw [← h.1]; simp
      have e2 : yp.length = ps.length := by rw [← h.2]; split <;> simp
      refine ⟨hk, hok, a, rfl, hl, by omega, by omega, by omega, ⟨hc, hck.2.1⟩, ?_, ?_⟩
      · rw [← h.1, getD_set cs a a _ hl, if_pos rfl]
      · rw [← h.2]
        by_cases e : cs.getD a 0 = 1
        · rw [if_pos e, if_pos e, getD_set ps a a 0 (by omega), if_pos rfl]
        · rw [if_neg e, if_neg e]
    · simp at h
  · simp at h

end Go.Proofs.Ytmejggnjmclefaa
