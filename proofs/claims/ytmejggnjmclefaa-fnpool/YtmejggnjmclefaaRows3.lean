/-
  copy(dst, src) where dst is a row of one's own, as long as src.
-/
import Derived.Test.YtmejggnjmclefaaRows2
import Derived.Laws.CopyOwn
namespace Go.Proofs.Ytmejggnjmclefaa
open Go.RowKit
set_option linter.unusedVariables false

theorem run_copy_all {P : Program} (w : World) (T ty e : TypeId) (hu : P.underlying T = some (.slice e)) (hsz : (P.info? e).map (·.size) = some 1)
    (base g n cap : Nat) (ys news : List Value) (hown : w.ownsRow base e 1 (.slice (some ⟨g, 0, none⟩) n cap) n ys)
    (ad : Option Addr) (c : Nat) (hl : news.length = n) (hnews : ∀ j u, news[j]? = some u → ∃ g off, ad = some ⟨g, off, none⟩ ∧ w.cell? ⟨g, off + j, none⟩ = some u) (h1 : ∀ u ∈ news, u.oneCell' = true) :
    ∃ w', (Builtin.copy_ #[T, T] ty #[.slice (some ⟨g, 0, none⟩) n cap, .slice ad n c]).run P w = .ok (.int .i64 n) w' ∧ w'.ownsRow base e 1 (.slice (some ⟨g, 0, none⟩) n cap) n news ∧ Upto g w w' := by
  rcases Nat.eq_zero_or_pos n with hn | hn
  · subst hn
    have e1 : news = [] := List.length_eq_zero_iff.1 hl
    have e2 : ys = [] := List.length_eq_zero_iff.1 (by simpa using hown.1)
    subst e1
    subst e2
    exact ⟨w, run_copy_none (P := P) w T T ty e _ _ 0 cap 0 c hu hsz rfl, hown, Upto.refl _ _⟩
  · obtain ⟨g', off, rfl, _⟩ := hnews 0 _ (List.getElem?_eq_getElem (show 0 < news.length by omega))
    have hsrc : ∀ j v, news[j]? = some v → w.cell? ((⟨g', off, none⟩ : Addr).add j) = some v := fun j u hj => by
      obtain ⟨g2, off2, e2, hc⟩ := hnews j u hj
      cases e2
      have ea : (⟨g', off, none⟩ : Addr).add j = ⟨g', off + j, none⟩ := by unfold Addr.add; split <;> simp_all
      rw [ea]; exact hc
    rcases hown.2 with ⟨h', _⟩ | ⟨g2, cap2, cur, h', hbg, hg, hnc, hcm, hcs, htake⟩
    · cases h'
    · simp only [Value.slice.injEq, Option.some.injEq, Addr.mk.injEq, and_true, true_and] at h'
      obtain ⟨rfl, rfl⟩ := h'
      have hr := run_copy_row (P := P) w T T ty e g 0 n cap ⟨g', off, none⟩ n c cur e news hu hsz hg (by rw [hl]; exact (Nat.min_self n).symm) hsrc (by omega) h1
      rw [hl] at hr
      refine ⟨_, hr, ⟨by omega, .inr ⟨g, cap, _, rfl, hbg, setRow_heap w g cur _ e _ hg, hnc, hcm, ?_, ?_⟩⟩, ⟨rfl, rfl, rfl, by simp, fun k _ hk => setRow_other w g k _ hk⟩⟩
      · simp; omega
      · rw [Nat.mul_one, List.take_zero, List.nil_append, ← hl]
        exact List.take_left

end Go.Proofs.Ytmejggnjmclefaa
