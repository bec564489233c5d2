/-
  Chapter 5's draws for the laws: DrawMapped, DrawPageOf, DrawBelow.
-/
import Derived.Test.YtombgdjklajanabDrawMap
namespace Go.Proofs.Ytombgdjklajanab
open Go.RowKit
set_option linter.unusedVariables false

theorem drawMapped_any (x : Option Addr) (len cap : Nat) (w : World) (hs : Src w w.heap.size x len) :
    Calls Try.prog 17 #[.slice x len cap] w fun e w' => ∃ (g cp : Nat) (rs : List (Int × Int × Int)) (a p : Int), e = .returned (.tuple #[.slice (some ⟨g, 0, none⟩) rs.length cp, .int .i64 a, .int .i64 p]) ∧ w'.ownsRow w.heap.size 66 3 (.slice (some ⟨g, 0, none⟩) rs.length cp) rs.length (rs.flatMap runC) ∧ FitRuns rs ∧ rs.length ≤ 17 ∧ (-1 ≤ a ∧ a ≤ 16) ∧ (-2 ≤ p ∧ p ≤ 24) ∧ Below w.heap.size w w' := by
  go_enter Try.func17, Try.ntmps17
  go_wp2_with fail
  refine (new_any x len cap _ hs).mono ?_
  rintro e w1 ⟨rfl, b1, k1⟩
  go_wp2_with fail
  refine (draw5_any _ x len cap _ k1).mono ?_
  rintro e w2 ⟨g, cp, rs, rfl, st⟩
  go_wp2_with fail
  refine (from_any _ x len cap (-1) 16 _ (by omega) (by omega) (by omega) st.kc).mono ?_
  rintro e w3 ⟨a, rfl, ha, u3, k3⟩
  have st3 := st.step u3 k3
  go_wp2_with fail
  refine (from_any _ x len cap (-2) 24 _ (by omega) (by omega) (by omega) k3).mono ?_
  rintro e w4 ⟨p, rfl, hp, u4, k4⟩
  have st4 := st3.step u4 k4
  have d := b1.trans (st4.u.toBelow b1.size (Nat.le_refl _))
  have HO : Hid _ := owns_mono st4.own b1.size
  have HF : Hid _ := st4.fit
  have hl := st4.few
  clear st st3 st4 u3 u4 k3 k4 b1 k1
  go_wp2_with fail
  refine bodyPost_ret (v := .tuple #[.slice (some ⟨g, 0, none⟩) rs.length cp, .int .i64 a, .int .i64 p]) (by simp [results, Try.results17]) rfl ⟨g, cp, rs, a, p, rfl, HO.out, HF.out, hl, ha, hp, d⟩

theorem drawPageOf_any (x : Option Addr) (len cap : Nat) (w : World) (hs : Src w w.heap.size x len) :
    Calls Try.prog 28 #[.slice x len cap] w fun e w' => ∃ (g cp : Nat) (rs : List (Int × Int × Int)) (a : Int), e = .returned (.tuple #[.slice (some ⟨g, 0, none⟩) rs.length cp, .int .i64 a]) ∧ w'.ownsRow w.heap.size 66 3 (.slice (some ⟨g, 0, none⟩) rs.length cp) rs.length (rs.flatMap runC) ∧ FitRuns rs ∧ rs.length ≤ 17 ∧ (-1 ≤ a ∧ a ≤ 17) ∧ Below w.heap.size w w' := by
  go_enter Try.func28, Try.ntmps28
  go_wp2_with fail
  refine (new_any x len cap _ hs).mono ?_
  rintro e w1 ⟨rfl, b1, k1⟩
  go_wp2_with fail
  refine (draw5_any _ x len cap _ k1).mono ?_
  rintro e w2 ⟨g, cp, rs, rfl, st⟩
  go_wp2_with fail
  refine (from_any _ x len cap (-1) 17 _ (by omega) (by omega) (by omega) st.kc).mono ?_
  rintro e w3 ⟨a, rfl, ha, u3, k3⟩
  have st4 := st.step u3 k3
  have d := b1.trans (st4.u.toBelow b1.size (Nat.le_refl _))
  have HO : Hid _ := owns_mono st4.own b1.size
  have HF : Hid _ := st4.fit
  have hl := st4.few
  clear st st4 u3 k3 b1 k1
  go_wp2_with fail
  go_ret2
  exact ⟨g, cp, rs, a, rfl, HO.out, HF.out, hl, ha, d⟩

theorem drawBelow_any (x : Option Addr) (len cap : Nat) (w : World) (hs : Src w w.heap.size x len) :
    Calls Try.prog 19 #[.slice x len cap] w fun e w' => ∃ (g cp : Nat) (rs : List (Int × Int × Int)) (a : Int), e = .returned (.tuple #[.slice (some ⟨g, 0, none⟩) rs.length cp, .int .i64 a]) ∧ w'.ownsRow w.heap.size 66 3 (.slice (some ⟨g, 0, none⟩) rs.length cp) rs.length (rs.flatMap runC) ∧ FitRuns rs ∧ rs.length ≤ 17 ∧ (-1 ≤ a ∧ a ≤ 17) ∧ Below w.heap.size w w' := by
  go_enter Try.func19, Try.ntmps19
  go_wp2_with fail
  refine (drawPageOf_any x len cap _ hs).mono ?_
  rintro e w1 ⟨g, cp, rs, a, rfl, own, hf, hl, ha, b1⟩
  have HO : Hid _ := own
  have HF : Hid _ := hf
  clear own hf
  go_wp2_with fail
  go_ret2
  exact ⟨g, cp, rs, a, rfl, HO.out, HF.out, hl, ha, b1⟩

end Go.Proofs.Ytombgdjklajanab
