/-
  Chapter 1's contracts, one a function, at every argument: the specification's and the program's ShowNumber and ReadNumber give the same plain function.
-/
import Derived.Test.YtdkciaeibkhbgaaShow
import Derived.Test.YtdkciaeibkhbgaaNumsB
namespace Go.Proofs.Ytdkciaeibkhbgaa
open Go.RowKit
set_option linter.unusedVariables false
set_option maxRecDepth 100000

theorem specShow_any (n k : Int) (w : World) (hn : -9223372036854775808 ≤ n ∧ n ≤ 9223372036854775807) :
    Calls Try.prog 42 #[.int .i64 n, .int .i64 k] w fun e w' => e = .returned (.string (Nums.showS n k)) ∧ Below w.heap.size w w' := by
  by_cases h : Nums.okShow n k = true
  · have hk := (Nums.okShow_iff n k).1 h
    have hs : Nums.showS n k = ⟨(Nums.showI n k.toNat).toArray⟩ := by unfold Nums.showS; rw [if_pos h]
    rw [hs]
    obtain ⟨h1, h2, h3, h4⟩ := hk
    have hk : k = 1 ∨ k = 2 ∨ k = 3 ∨ k = 4 := by omega
    rcases hk with rfl | rfl | rfl | rfl
    · exact specShow1 n w h3 (by simpa using h4)
    · exact specShow2 n w h3 (by simpa using h4)
    · exact specShow3 n w h3 (by simpa using h4)
    · exact specShow4 n w h3 (by simpa using h4)
  · have hs : Nums.showS n k = ByteArray.empty := by unfold Nums.showS; rw [if_neg h]
    rw [hs]
    refine (specShow_no n k w hn (fun hh => h ((Nums.okShow_iff n k).2 hh))).mono ?_
    rintro e w' ⟨rfl, rfl⟩
    exact ⟨rfl, Below.refl _ _⟩

theorem implShow_any (n k : Int) (w : World) (hn : -9223372036854775808 ≤ n ∧ n ≤ 9223372036854775807) :
    Calls Try.prog 36 #[.int .i64 n, .int .i64 k] w fun e w' => e = .returned (.string (Nums.showS n k)) ∧ Below w.heap.size w w' := by
  by_cases h : Nums.okShow n k = true
  · have hk := (Nums.okShow_iff n k).1 h
    have hs : Nums.showS n k = ⟨(Nums.showI n k.toNat).toArray⟩ := by unfold Nums.showS; rw [if_pos h]
    rw [hs]
    obtain ⟨h1, h2, h3, h4⟩ := hk
    have hk : k = 1 ∨ k = 2 ∨ k = 3 ∨ k = 4 := by omega
    rcases hk with rfl | rfl | rfl | rfl
    · exact implShow1 n w h3 (by simpa using h4)
    · exact implShow2 n w h3 (by simpa using h4)
    · exact implShow3 n w h3 (by simpa using h4)
    · exact implShow4 n w h3 (by simpa using h4)
  · have hs : Nums.showS n k = ByteArray.empty := by unfold Nums.showS; rw [if_neg h]
    rw [hs]
    refine (implShow_no n k w hn (fun hh => h ((Nums.okShow_iff n k).2 hh))).mono ?_
    rintro e w' ⟨rfl, rfl⟩
    exact ⟨rfl, Below.refl _ _⟩

theorem specRead_any (s : ByteArray) (a k : Int) (w : World) (hs : s.size ≤ maxLen) (hk : -9223372036854775808 ≤ k ∧ k ≤ 9223372036854775807) :
    Calls Try.prog 41 #[.string s, .int .i64 a, .int .i64 k] w fun e w' => e = .returned (.tuple #[.int .i64 (Nums.readN s a k), .bool (Nums.okRead s a k)]) ∧ w' = w := by
  have wk : (Lit.int .i64 k).wf = true := by simpa [Lit.wf, IntKind.min, IntKind.max, IntKind.signed, IntKind.bits] using hk
  cases h : Nums.okRead s a k
  · have hr : Nums.readN s a k = 0 := by unfold Nums.readN; rw [h]; rfl
    rw [hr]
    exact specRead_no s a k w hs wk (fun hh => by rw [(Nums.okRead_iff s a k).2 hh] at h; cases h)
  · have hh := (Nums.okRead_iff s a k).1 h
    obtain ⟨h1, h2, h3, h4⟩ := hh
    obtain ⟨a, rfl⟩ := Int.eq_ofNat_of_zero_le h3
    obtain ⟨k, rfl⟩ := Int.eq_ofNat_of_zero_le (show 0 ≤ k by omega)
    have hr : Nums.readN s a k = Nums.readI ((s.data.toList.drop a).take k) := by unfold Nums.readN; rw [h]; rfl
    rw [hr]
    exact specRead_yes s a k w hs (by omega) (by omega) (by omega)

theorem implRead_any (s : ByteArray) (a k : Int) (w : World) (hs : s.size ≤ maxLen) (hk : -9223372036854775808 ≤ k ∧ k ≤ 9223372036854775807) :
    Calls Try.prog 72 #[.string s, .int .i64 a, .int .i64 k] w fun e w' => e = .returned (.tuple #[.int .i64 (Nums.readN s a k), .bool (Nums.okRead s a k)]) ∧ w' = w := by
  have wk : (Lit.int .i64 k).wf = true := by simpa [Lit.wf, IntKind.min, IntKind.max, IntKind.signed, IntKind.bits] using hk
  cases h : Nums.okRead s a k
  · have hr : Nums.readN s a k = 0 := by unfold Nums.readN; rw [h]; rfl
    rw [hr]
    exact implRead_no s a k w hs wk (fun hh => by rw [(Nums.okRead_iff s a k).2 hh] at h; cases h)
  · have hh := (Nums.okRead_iff s a k).1 h
    obtain ⟨h1, h2, h3, h4⟩ := hh
    obtain ⟨a, rfl⟩ := Int.eq_ofNat_of_zero_le h3
    obtain ⟨k, rfl⟩ := Int.eq_ofNat_of_zero_le (show 0 ≤ k by omega)
    have hr : Nums.readN s a k = Nums.readI ((s.data.toList.drop a).take k) := by unfold Nums.readN; rw [h]; rfl
    rw [hr]
    exact implRead_yes s a k w hs (by omega) (by omega) (by omega)

end Go.Proofs.Ytdkciaeibkhbgaa
