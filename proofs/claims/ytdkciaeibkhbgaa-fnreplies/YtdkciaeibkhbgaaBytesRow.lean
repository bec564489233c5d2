/-
  A text made into a row of bytes of the call's own, and back: what a walk uses of it.
-/
import Derived.Test.YtdkciaeibkhbgaaShow
import Derived.Test.YtdkciaeibkhbgaaWorlds
import Derived.Laws.IdiomStrings
namespace Go.Proofs.Ytdkciaeibkhbgaa
open Go.RowKit
set_option linter.unusedVariables false
set_option maxRecDepth 100000

theorem bytes_new (s : ByteArray) (w : World) : ∃ cap w', (convert 9 22 (.string s)).run Try.prog w = .ok (.slice (some ⟨w.heap.size, 0, none⟩) s.size cap) w' ∧ Below w.heap.size w w' ∧ w'.heap.size = w.heap.size + 1 ∧
    (∀ j u, s.data.toList[j]? = some u → w'.cell? ⟨w.heap.size, j, none⟩ = some (.int .u8 u.toNat)) ∧ (∀ j, j < s.size → w'.frozen? ⟨w.heap.size, j, none⟩ = false) ∧ s.size ≤ cap := by
  refine ⟨_, _, run_bytes_of_string (P := Try.prog) w _ _ 5 s Try.underlying9 Try.underlying22 Try.underlying5, ((Below.refl _ _).drew).alloc (Nat.le_refl _) _, by simp [go_sem], ?_, ?_, grownCap_ge w s.size 0 5⟩
  · intro j u hj
    have hj' : j < s.data.size := by have := (List.getElem?_eq_some_iff.1 hj).1; simpa using this
    have e : s.data[j] = u := by rw [List.getElem?_eq_getElem (by simpa using hj')] at hj; simpa using hj
    have := World.cell?_alloc_mark w.drew (bytesRow s (grownCap w s.size 0 5)) 5 ((bytesRow s (grownCap w s.size 0 5)).size, (bytesRow s (grownCap w s.size 0 5)).size + 1) j
    rw [bytesRow_at s _ j hj', e] at this
    exact this
  · intro j hj
    have := World.frozen?_alloc_mark w.drew (bytesRow s (grownCap w s.size 0 5)) 5 (bytesRow s (grownCap w s.size 0 5)).size ((bytesRow s (grownCap w s.size 0 5)).size + 1) j
    refine Eq.trans this ?_
    have hz : j < (bytesRow s (grownCap w s.size 0 5)).size := by
      have hb : s.size ≤ (bytesRow s (grownCap w s.size 0 5)).size := by unfold bytesRow; simp
      omega
    simp; omega

theorem bytes_back (w : World) (g cap n : Nat) (l : List UInt8) (hn : l.length = n) (hc : ∀ j u, l[j]? = some u → w.cell? ⟨g, j, none⟩ = some (.int .u8 u.toNat)) :
    (convert 22 9 (.slice (some ⟨g, 0, none⟩) n cap)).run Try.prog w = .ok (.string ⟨l.toArray⟩) w := by
  subst hn
  refine run_convert_bytes_back (P := Try.prog) w _ _ 5 ⟨g, 0, none⟩ cap l Try.underlying22 Try.underlying5 Try.underlying9 (fun j hj => ?_)
  have ha : (⟨g, 0, none⟩ : Addr).add j = ⟨g, j, none⟩ := by unfold Addr.add; split <;> simp_all
  rw [ha]
  exact hc j _ (List.getElem?_eq_getElem hj)

theorem cells_set (w : World) (g a : Nat) (l : List UInt8) (v : UInt8) (ha : a < l.length) (hc : ∀ j u, l[j]? = some u → w.cell? ⟨g, j, none⟩ = some (.int .u8 u.toNat)) :
    ∀ j u, (l.set a v)[j]? = some u → (w.setCell ⟨g, a, none⟩ (.int .u8 v.toNat)).cell? ⟨g, j, none⟩ = some (.int .u8 u.toNat) := by
  intro j u hj
  by_cases e : a = j
  · subst e
    rw [List.getElem?_set_self ha] at hj
    cases hj
    have h0 := hc a _ (List.getElem?_eq_getElem ha)
    simp [go_sem, h0]
  · rw [List.getElem?_set_ne e] at hj
    have h0 := hc j u hj
    simp [go_sem, h0]

theorem byte_of (y : Int) (h0 : 0 ≤ y) (h1 : y ≤ 255) : ∃ u : UInt8, (u.toNat : Int) = y := ⟨UInt8.ofNat y.toNat, by rw [UInt8.toNat_ofNat']; omega⟩

end Go.Proofs.Ytdkciaeibkhbgaa
