/-
  Chapter 14: the line's methods through heap.Interface: what is found behind the pointer.
-/
import Derived.Test.YtghhphhnalfjaaaImHp1
namespace Go.Proofs.Ytghhphhnalfjaaa
open Go.RowKit
set_option linter.unusedVariables false
set_option maxRecDepth 100000

theorem recv_line (b N cap : Nat) (o : Option Addr) (nm : String) (w : World) (h : w.cell? ⟨b, 0, none⟩ = some (.slice o N cap)) :
    (receiverAt 135 (.val (.pointer (some ⟨b, 0, none⟩))) false (some nm)).run Try.prog w = .ok (.slice o N cap) w := by
  have hu := Try.underlying135
  have e1 : Place.get 135 (.val (.pointer (some ⟨b, 0, none⟩))) = pure (.pointer (some ⟨b, 0, none⟩)) := rfl
  have e2 : Builtin.ssaWrapNilChk_ #[135] 135 #[.pointer (some ⟨b, 0, none⟩), strVal "", strVal nm] = pure (.pointer (some ⟨b, 0, none⟩)) := rfl
  unfold receiverAt
  go_simp

theorem meth_Less (b N cap : Nat) (o : Option Addr) (w : World) (h : w.cell? ⟨b, 0, none⟩ = some (.slice o N cap)) :
    (method 267 135 (.pointer (some ⟨b, 0, none⟩)) "Less").run Try.prog w = .ok (124, .slice o N cap) w := by
  have e : (method 267 135 (.pointer (some ⟨b, 0, none⟩)) "Less").run Try.prog w = (receiverAt 135 (.val (.pointer (some ⟨b, 0, none⟩))) false (some "Less") >>= fun r => pure (124, r)).run Try.prog w := by kernel_rfl
  rw [e, Sem.run_bind, recv_line b N cap o "Less" w h]
  rfl

theorem meth_Swap (b N cap : Nat) (o : Option Addr) (w : World) (h : w.cell? ⟨b, 0, none⟩ = some (.slice o N cap)) :
    (method 267 135 (.pointer (some ⟨b, 0, none⟩)) "Swap").run Try.prog w = .ok (125, .slice o N cap) w := by
  have e : (method 267 135 (.pointer (some ⟨b, 0, none⟩)) "Swap").run Try.prog w = (receiverAt 135 (.val (.pointer (some ⟨b, 0, none⟩))) false (some "Swap") >>= fun r => pure (125, r)).run Try.prog w := by kernel_rfl
  rw [e, Sem.run_bind, recv_line b N cap o "Swap" w h]
  rfl

theorem meth_Len (b N cap : Nat) (o : Option Addr) (w : World) (h : w.cell? ⟨b, 0, none⟩ = some (.slice o N cap)) :
    (method 267 135 (.pointer (some ⟨b, 0, none⟩)) "Len").run Try.prog w = .ok (102, .slice o N cap) w := by
  have e : (method 267 135 (.pointer (some ⟨b, 0, none⟩)) "Len").run Try.prog w = (receiverAt 135 (.val (.pointer (some ⟨b, 0, none⟩))) false (some "Len") >>= fun r => pure (102, r)).run Try.prog w := by kernel_rfl
  rw [e, Sem.run_bind, recv_line b N cap o "Len" w h]
  rfl

theorem meth_Push (b : Nat) (w : World) :
    (method 267 135 (.pointer (some ⟨b, 0, none⟩)) "Push").run Try.prog w = .ok (126, .pointer (some ⟨b, 0, none⟩)) w := by kernel_rfl

theorem OwnM.below {base : Nat} {w w' : World} {v : Value} {l : List Mb} (h : OwnM base w v l) (k : Below w.heap.size w w') : OwnM base w' v l := owns_below h k
/-- The two stores of Swap, in either order. -/
theorem swap_own {base g n cap : Nat} {l : List Mb} {w : World} (own : w.ownsRow base 137 2 (.slice (some ⟨g, 0, none⟩) n cap) l.length (l.flatMap mbC)) (i j : Nat) (hi : i < l.length) (hj : j < l.length) :
    (((((w.setCell ⟨g, i * 2, none⟩ (.int .i64 (mbAt l j).1)).setCell ⟨g, i * 2 + 1, none⟩ (.int .i64 (mbAt l j).2)).setCell ⟨g, j * 2, none⟩ (.int .i64 (mbAt l i).1)).setCell ⟨g, j * 2 + 1, none⟩ (.int .i64 (mbAt l i).2))).ownsRow base 137 2 (.slice (some ⟨g, 0, none⟩) n cap) (swapP l i j).length ((swapP l i j).flatMap mbC) ∧
    (((((w.setCell ⟨g, j * 2, none⟩ (.int .i64 (mbAt l i).1)).setCell ⟨g, j * 2 + 1, none⟩ (.int .i64 (mbAt l i).2)).setCell ⟨g, i * 2, none⟩ (.int .i64 (mbAt l j).1)).setCell ⟨g, i * 2 + 1, none⟩ (.int .i64 (mbAt l j).2))).ownsRow base 137 2 (.slice (some ⟨g, 0, none⟩) n cap) (swapP l i j).length ((swapP l i j).flatMap mbC) := by
  have h1 := own_mb (own_mb own i hi (mbAt l j)) j (by simpa using hj) (mbAt l i)
  have h2 := own_mb (own_mb own j hj (mbAt l i)) i (by simpa using hi) (mbAt l j)
  have e : (l.set j (mbAt l i)).set i (mbAt l j) = (l.set i (mbAt l j)).set j (mbAt l i) := by
    by_cases hij : i = j
    · subst hij; rfl
    · exact List.set_comm _ _ (fun q => hij q.symm)
  rw [e] at h2
  exact ⟨h1, h2⟩

set_option maxHeartbeats 1600000 in
theorem implSwap_any (base : Nat) (v : Value) (l : List Mb) (i j : Nat) (w : World) (own : OwnM base w v l) (hi : i < l.length) (hj : j < l.length) :
    Calls Try.prog 125 #[v, .int .i64 (i : Int), .int .i64 (j : Int)] w fun e w' => e = .returned (.tuple #[]) ∧ OwnM base w' v (swapP l i j) ∧ (∀ g, v.ownBlock = some g → Upto g w w') := by
  obtain ⟨g, cap, rfl⟩ := own_form own (by omega)
  have lg := (own.lt g rfl).2
  obtain ⟨⟨a0, a1⟩, fa0, fa1⟩ := own_two own i hi
  obtain ⟨⟨c0, c1⟩, fc0, fc1⟩ := own_two own j hj
  obtain ⟨s1, s2⟩ := swap_own own i j hi hj
  have i1 : (i : Int) < (l.length : Int) := by omega
  have j1 : (j : Int) < (l.length : Int) := by omega
  have u1 : ∀ (p1 p2 q1 q2 : Value), Upto g w ((((w.setCell ⟨g, i * 2, none⟩ p1).setCell ⟨g, i * 2 + 1, none⟩ p2).setCell ⟨g, j * 2, none⟩ q1).setCell ⟨g, j * 2 + 1, none⟩ q2) := fun p1 p2 q1 q2 => ((((Upto.refl _ _).setCell ⟨g, i * 2, none⟩ (.inl rfl) _).setCell ⟨g, i * 2 + 1, none⟩ (.inl rfl) _).setCell ⟨g, j * 2, none⟩ (.inl rfl) _).setCell ⟨g, j * 2 + 1, none⟩ (.inl rfl) _
  have u2 : ∀ (p1 p2 q1 q2 : Value), Upto g w ((((w.setCell ⟨g, j * 2, none⟩ p1).setCell ⟨g, j * 2 + 1, none⟩ p2).setCell ⟨g, i * 2, none⟩ q1).setCell ⟨g, i * 2 + 1, none⟩ q2) := fun p1 p2 q1 q2 => ((((Upto.refl _ _).setCell ⟨g, j * 2, none⟩ (.inl rfl) _).setCell ⟨g, j * 2 + 1, none⟩ (.inl rfl) _).setCell ⟨g, i * 2, none⟩ (.inl rfl) _).setCell ⟨g, i * 2 + 1, none⟩ (.inl rfl) _
  have HS1 : Hid _ := And.intro s1 (u1 (.int .i64 (mbAt l j).1) (.int .i64 (mbAt l j).2) (.int .i64 (mbAt l i).1) (.int .i64 (mbAt l i).2))
  have HS2 : Hid _ := And.intro s2 (u2 (.int .i64 (mbAt l i).1) (.int .i64 (mbAt l i).2) (.int .i64 (mbAt l j).1) (.int .i64 (mbAt l j).2))
  clear s1 s2 u1 u2 own
  generalize swapP l i j = L at *
  go_enter Try.func125, Try.ntmps125
  go_wp2_with fail
  by_cases hij : i = j
  · subst hij
    generalize (mbAt l i).1 = p at *
    generalize (mbAt l i).2 = p' at *
    go_region
    all_goals
      go_wp2_with fail
      refine bodyPost_end (results_none rfl _ _ _) rfl ⟨rfl, ?_, fun g' hg' => ?_⟩
      · first | exact owns_below HS1.out.1 ((Below.refl _ _).drew) | exact owns_below HS2.out.1 ((Below.refl _ _).drew)
      · cases hg'
        first | exact HS1.out.2.drew | exact HS2.out.2.drew
  · have n1 : ¬ i * 2 = j * 2 := by omega
    have n2 : ¬ j * 2 = i * 2 := by omega
    have n3 : ¬ i * 2 = j * 2 + 1 := by omega
    have n4 : ¬ j * 2 = i * 2 + 1 := by omega
    clear hij
    generalize (mbAt l i).1 = p at *
    generalize (mbAt l i).2 = p' at *
    generalize (mbAt l j).1 = q at *
    generalize (mbAt l j).2 = q' at *
    go_region
    all_goals
      go_wp2_with fail
      refine bodyPost_end (results_none rfl _ _ _) rfl ⟨rfl, ?_, fun g' hg' => ?_⟩
      · first | exact owns_below HS1.out.1 ((Below.refl _ _).drew) | exact owns_below HS2.out.1 ((Below.refl _ _).drew)
      · cases hg'
        first | exact HS1.out.2.drew | exact HS2.out.2.drew

end Go.Proofs.Ytghhphhnalfjaaa
